/-
  Several small texts in one: Pts Cnd Rel Cl Cm Co Wf SetX SetI SetJ Wi Pl.
-/
import Derived.Test.YtkgdhlpmlpbbkaaGreatStm
import Derived.Test.YtkgdhlpmlpbbkaaGreatPgW
import Derived.Test.YtkgdhlpmlpbbkaaGreatRow
import Derived.Test.YtkgdhlpmlpbbkaaGreatTopX
import Derived.Test.YtkgdhlpmlpbbkaaGreatSetW
import Derived.Laws.Rows
import Derived.Laws.Tables
import Derived.Laws.StructEq
import Derived.Great.Walk
import Derived.Great.BuildSlice
import Derived.Deep.RegionHeld3
import Derived.Test.YtkgdhlpmlpbbkaaGreatAsgR
import Derived.Test.YtkgdhlpmlpbbkaaGreatTas
import Derived.Deep.AppendLies
import Derived.Outline
import Derived.Test.YtkgdhlpmlpbbkaaGreatIx0
import Derived.Test.YtkgdhlpmlpbbkaaGreatSetS
namespace Go.Proofs.YtkgdhlpmlpbbkaaGreat
open Go.RowKit


/-- The values are those of the statements. -/
def StVs (w : World) (B : Nat) : List Pg → List Value → Prop
  | [], vs => vs = []
  | p :: ps, vs => ∃ T u vs', vs = .iface T (.agg u) :: vs' ∧ StV w B p (.iface T (.agg u)) ∧ StVs w B ps vs'
theorem StVs.below {w w' : World} {B : Nat} (hb : Below w.heap.size w w') : ∀ {ps : List Pg} {vs : List Value}, StVs w B ps vs → StVs w' B ps vs := by
  intro ps
  induction ps with
  | nil => exact fun h => h
  | cons p ps ih => rintro vs ⟨T, u, vs', h, h1, h2⟩; exact ⟨T, u, vs', h, h1.below hb, ih h2⟩
theorem StVs.len {w : World} {B : Nat} : ∀ {ps : List Pg} {vs : List Value}, StVs w B ps vs → vs.length = ps.length := by
  intro ps
  induction ps with
  | nil => intro vs h; rw [show vs = [] from h]; rfl
  | cons p ps ih => rintro vs ⟨T, u, vs', rfl, h1, h2⟩; simp [ih h2]
theorem StVs.append {w : World} {B : Nat} : ∀ {ps qs : List Pg} {vs ws : List Value}, StVs w B ps vs → StVs w B qs ws → StVs w B (ps ++ qs) (vs ++ ws) := by
  intro ps
  induction ps with
  | nil => intro qs vs ws h h2; rw [show vs = [] from h]; exact h2
  | cons p ps ih => rintro qs vs ws ⟨T, u, vs', rfl, h1, h2⟩ h3; exact ⟨T, u, vs' ++ ws, rfl, h1, ih h2 h3⟩
theorem StVs.at {w : World} {B : Nat} : ∀ {ps : List Pg} {vs : List Value} (m : Nat) (hm : m < ps.length), StVs w B ps vs → ∃ T u, vs[m]? = some (.iface T (.agg u)) ∧ StV w B ps[m] (.iface T (.agg u)) := by
  intro ps
  induction ps with
  | nil => intro vs m hm; simp at hm
  | cons p ps ih =>
    rintro vs m hm ⟨T, u, vs', rfl, h1, h2⟩
    cases m with
    | zero => exact ⟨T, u, rfl, h1⟩
    | succ m => exact ih m (by simpa using hm) h2

def PartsPost (kv : List Value) (w : World) (e : Ending) (w' : World) : Prop := ∃ sl, e = .returned sl ∧ Row w' w.heap.size 94 sl kv ∧ Below w.heap.size w w'

theorem parts_none (w : World) : Calls Tryz.prog 183 #[.agg #[]] w (PartsPost [] w) := by
  go_enter Tryz.func183, Tryz.ntmps183
  go_wp2_with fail
  go_ret
  exact ⟨_, rfl, Row.nil _ _ _, (Below.refl _ _).alloc (Nat.le_refl _) _⟩
theorem parts_two (T T2 : TypeId) (u u2 : Array Value) (w : World) : Calls Tryz.prog 186 #[.agg #[.iface T (.agg u), .iface T2 (.agg u2)]] w (PartsPost [.iface T (.agg u), .iface T2 (.agg u2)] w) := by
  have hB := (Below.refl w.heap.size w).alloc (Nat.le_refl _) (.cells #[.iface T (.agg u), .iface T2 (.agg u2)] 170)
  have hz : w.heap.size + 1 = (w.alloc (.cells #[.iface T (.agg u), .iface T2 (.agg u2)] 170)).heap.size := by simp
  have HN := Lib.hid (Row.new (w.alloc (.cells #[.iface T (.agg u), .iface T2 (.agg u2)] 170)) 94 [.iface T (.agg u), .iface T2 (.agg u2)] (by simp))
  have HZ := Lib.hid hz
  clear hz
  go_enter Tryz.func186, Tryz.ntmps186
  go_wp2_with fail
  go_ret
  refine ⟨_, rfl, Row.mono (by rw [HZ.out]; exact HN.out) (by simp), hB.alloc (by simp) _⟩
theorem parts_loop (x y : Value) (c : Int) (a : Option Addr) (n m : Nat) (hx : x = .int .u8 c) (hy : y = .slice a n m) (T : TypeId) (u : Array Value) (w : World) : Calls Tryz.prog 182 #[.agg #[x, y, .iface T (.agg u)]] w (PartsPost [.iface T (.agg u)] w) := by
  subst hx hy
  have hB := (Below.refl w.heap.size w).alloc (Nat.le_refl _) (.cells #[.int .u8 c, .slice a n m, .iface T (.agg u)] 96)
  have hz : w.heap.size + 1 = (w.alloc (.cells #[.int .u8 c, .slice a n m, .iface T (.agg u)] 96)).heap.size := by simp
  have HN := Lib.hid (Row.new (w.alloc (.cells #[.int .u8 c, .slice a n m, .iface T (.agg u)] 96)) 94 [.iface T (.agg u)] (by simp))
  have HZ := Lib.hid hz
  clear hz
  go_enter Tryz.func182, Tryz.ntmps182
  go_wp2_with fail
  go_ret
  refine ⟨_, rfl, Row.mono (by rw [HZ.out]; exact HN.out) (by simp), hB.alloc (by simp) _⟩

theorem inv_parts {w0 : World} {B : Nat} {p : Pg} {T : TypeId} {u : Array Value} (h : StV w0 B p (.iface T (.agg u))) : ∃ (f : Nat) (rc : Value) (kv : List Value),
    (∀ w, (method 323 T (.agg u) "loop.example/productprograms/impl.parts").run Tryz.prog w = .ok (f, rc) w) ∧ (∀ (a : Array Value) w, (callFunc f a).run Tryz.prog w = .ok (.enter f a) w) ∧ StVs w0 B p.pks kv ∧ ∀ w, Calls Tryz.prog f #[rc] w (PartsPost kv w) := by
  cases p with
  | skip => cases h; exact ⟨_, _, [], fun w => by kernel_rfl, fun a w => by kernel_rfl, rfl, fun w => parts_none w⟩
  | asg x e => obtain ⟨a, b, h, _⟩ := h; cases h; exact ⟨_, _, [], fun w => by kernel_rfl, fun a w => by kernel_rfl, rfl, fun w => parts_none w⟩
  | seq p q =>
    obtain ⟨a, b, h, h1, h2⟩ := h; cases h
    obtain ⟨T1, u1, rfl⟩ := h1.forms
    obtain ⟨T2, u2, rfl⟩ := h2.forms
    exact ⟨_, _, [_, _], fun w => by kernel_rfl, fun a w => by kernel_rfl, ⟨_, _, _, rfl, h1, _, _, _, rfl, h2, rfl⟩, fun w => parts_two _ _ _ _ w⟩
  | ite t p q =>
    obtain ⟨x, y, a, b, h, _, h1, h2⟩ := h; cases h
    obtain ⟨T1, u1, rfl⟩ := h1.forms
    obtain ⟨T2, u2, rfl⟩ := h2.forms
    exact ⟨_, _, [_, _], fun w => by kernel_rfl, fun a w => by kernel_rfl, ⟨_, _, _, rfl, h1, _, _, _, rfl, h2, rfl⟩, fun w => parts_two _ _ _ _ w⟩
  | whl t p =>
    obtain ⟨x, y, a, h, h0, h1⟩ := h; cases h
    obtain ⟨T1, u1, rfl⟩ := h1.forms
    obtain ⟨a, n, m, hx, hy⟩ := RepH.forms h0
    exact ⟨_, _, [_], fun w => by kernel_rfl, fun a w => by kernel_rfl, ⟨_, _, _, rfl, h1, rfl⟩, fun w => parts_loop _ _ _ _ _ _ hx hy _ _ w⟩
  | cho p q =>
    obtain ⟨a, b, h, h1, h2⟩ := h; cases h
    obtain ⟨T1, u1, rfl⟩ := h1.forms
    obtain ⟨T2, u2, rfl⟩ := h2.forms
    exact ⟨_, _, [_, _], fun w => by kernel_rfl, fun a w => by kernel_rfl, ⟨_, _, _, rfl, h1, _, _, _, rfl, h2, rfl⟩, fun w => parts_two _ _ _ _ w⟩
  | asm t => obtain ⟨x, y, h, _⟩ := h; cases h; exact ⟨_, _, [], fun w => by kernel_rfl, fun a w => by kernel_rfl, rfl, fun w => parts_none w⟩

/-! ### The head -/
def TxtPost (r : ByteArray) (w : World) (e : Ending) (w' : World) : Prop := e = .returned (.string r) ∧ Below w.heap.size w w'

theorem head_none (w : World) : Calls Tryz.prog 185 #[.agg #[]] w (TxtPost (bs []) w) := by
  go_enter Tryz.func185, Tryz.ntmps185
  go_wp2_with fail
  go_ret
  exact ⟨rfl, (Below.refl _ _).alloc (Nat.le_refl _) _⟩
theorem head_guard (c : Int) (a : Option Addr) (n m : Nat) (r : ByteArray) (w : World) (c1 : ∀ w', Below w.heap.size w w' → Calls Tryz.prog 89 #[.agg #[.int .u8 c, .slice a n m]] w' (TxtPost r w')) :
    Calls Tryz.prog 180 #[.agg #[.int .u8 c, .slice a n m]] w (TxtPost r w) := by
  have C1 := Lib.hid c1
  clear c1
  have hB := (Below.refl w.heap.size w).alloc (Nat.le_refl _) (.cells #[.int .u8 c, .slice a n m] 92)
  go_enter Tryz.func180, Tryz.ntmps180
  go_wp2_with fail
  refine (C1.out _ hB).mono ?_
  rintro e w2 ⟨rfl, hq⟩
  have HB := Lib.hid (bnext hB hq)
  clear hq hB
  go_wp2_with fail
  go_ret
  exact ⟨rfl, HB.out⟩
set_option maxRecDepth 100000 in
set_option maxHeartbeats 2000000 in
theorem head_asg (v : UInt8) (c : Int) (a : Option Addr) (n m : Nat) (r : ByteArray) (hr : r.size ≤ 1000) (w : World) (c1 : ∀ w', Below w.heap.size w w' → Calls Tryz.prog 89 #[.agg #[.int .u8 c, .slice a n m]] w' (TxtPost r w')) :
    Calls Tryz.prog 184 #[.agg #[.string (bs [v]), .int .u8 c, .slice a n m]] w (TxtPost (bs [v] ++ r) w) := by
  have C1 := Lib.hid c1
  clear c1
  have e1 : (bs [v]).size ≤ 1 := by rw [bs_size]; simp
  generalize bs [v] = V at *
  have f0 : ¬ (9223372036854775807 < V.size + r.size) := by omega
  have t0 := Blk.new w #[.string V, .int .u8 c, .slice a n m] 119
  have hB := (Below.refl w.heap.size w).alloc (Nat.le_refl _) (.cells #[.string V, .int .u8 c, .slice a n m] 119)
  go_enter Tryz.func184, Tryz.ntmps184
  go_wp2_with fail
  generalize w.alloc (.cells #[.string V, .int .u8 c, .slice a n m] 119) = W0 at *
  obtain ⟨q0, q1, q2⟩ := t0.c3
  have hB' := hB.drew
  clear t0
  go_region_held3 (fun w' => Below w.heap.size w w' ∧ w'.cell? ⟨w.heap.size, 0, none⟩ = some (.string V) ∧ w'.cell? ⟨w.heap.size, 1, none⟩ = some (.int .u8 c) ∧ w'.cell? ⟨w.heap.size, 2, none⟩ = some (.slice a n m))
    ((go_split_ands; refine ⟨?_, ?_, ?_, ?_⟩ <;> first | assumption | exact ckeep hq (by assumption) | exact Below.trans (by assumption) (hq.mono (by have := Below.size (by assumption : Below w.heap.size w _); omega))))
    (first | (go_at_call 89; (with_reducible refine (C1.out _ ?_).mono ?_); (go_split_ands; assumption); rintro e w2 ⟨rfl, hq⟩))
  go_wp2_with fail
  go_split_ands
  go_ret
  exact ⟨rfl, by assumption⟩

theorem inv_head {w0 : World} {B : Nat} {p : Pg} {T : TypeId} {u : Array Value} (hok : p.ok false) (hn : p.ser.length ≤ 1000) (h : StV w0 B p (.iface T (.agg u))) : ∃ (f : Nat) (rc : Value),
    (∀ w, (method 323 T (.agg u) "loop.example/productprograms/impl.head").run Tryz.prog w = .ok (f, rc) w) ∧ (∀ (a : Array Value) w, (callFunc f a).run Tryz.prog w = .ok (.enter f a) w) ∧ ∀ w, Below w0.heap.size w0 w → Calls Tryz.prog f #[rc] w (TxtPost (bs p.hd) w) := by
  cases p with
  | skip => cases h; exact ⟨_, _, fun w => by kernel_rfl, fun a w => by kernel_rfl, fun w _ => head_none w⟩
  | asg x e =>
    obtain ⟨a, b, h, h0⟩ := h; cases h
    obtain ⟨a, n, m, rfl, rfl⟩ := RepH.forms h0
    simp [Pg.ser] at hn
    refine ⟨184, .agg #[.string (bs [x]), .int .u8 e.head.toNat, .slice a n m], fun w => by kernel_rfl, fun a w => by kernel_rfl, fun w hb => ?_⟩
    have := head_asg x _ a n m (bs e.ser) (by rw [bs_size]; omega) w (fun w' hb' => text_tm e false B w' _ _ _ _ (by omega) hok.2 (h0.below (bnext hb hb')))
    rw [bs_append] at this
    exact this
  | seq p q => obtain ⟨a, b, h, _⟩ := h; cases h; exact ⟨_, _, fun w => by kernel_rfl, fun a w => by kernel_rfl, fun w _ => head_none w⟩
  | ite t p q =>
    obtain ⟨x, y, a, b, h, h0, _⟩ := h; cases h
    obtain ⟨a, n, m, rfl, rfl⟩ := RepH.forms h0
    simp [Pg.ser] at hn
    exact ⟨_, _, fun w => by kernel_rfl, fun a w => by kernel_rfl, fun w hb => head_guard _ _ _ _ _ w (fun w' hb' => text_tm t true B w' _ _ _ _ (by omega) hok.1 (h0.below (bnext hb hb')))⟩
  | whl t p =>
    obtain ⟨x, y, a, h, h0, _⟩ := h; cases h
    obtain ⟨a, n, m, rfl, rfl⟩ := RepH.forms h0
    simp [Pg.ser] at hn
    exact ⟨_, _, fun w => by kernel_rfl, fun a w => by kernel_rfl, fun w hb => head_guard _ _ _ _ _ w (fun w' hb' => text_tm t true B w' _ _ _ _ (by omega) hok.1 (h0.below (bnext hb hb')))⟩
  | cho p q => obtain ⟨a, b, h, _⟩ := h; cases h; exact ⟨_, _, fun w => by kernel_rfl, fun a w => by kernel_rfl, fun w _ => head_none w⟩
  | asm t =>
    obtain ⟨x, y, h, h0⟩ := h; cases h
    obtain ⟨a, n, m, rfl, rfl⟩ := RepH.forms h0
    simp [Pg.ser] at hn
    exact ⟨_, _, fun w => by kernel_rfl, fun a w => by kernel_rfl, fun w hb => head_guard _ _ _ _ _ w (fun w' hb' => text_tm t true B w' _ _ _ _ (by omega) hok (h0.below (bnext hb hb')))⟩
end Go.Proofs.YtkgdhlpmlpbbkaaGreat

namespace Go.Proofs.YtkgdhlpmlpbbkaaGreat
open Go.RowKit Tm Go.Great Classical

/-- The states from which all final states of a program are in a set. -/
noncomputable def wF (p : Pg) (F : Nat → Bool) : Nat → Bool := fun i => decide (∀ j, Fin mdl p i j → F j = true)
theorem wF_iff {p : Pg} {F : Nat → Bool} {i : Nat} : wF p F i = true ↔ ∀ j, Fin mdl p i j → F j = true := by unfold wF; exact decide_eq_true_iff
theorem wF_mono {p : Pg} (hp : p.ok false) {F G : Nat → Bool} (h : ∀ i, i < 27 → F i = true → G i = true) {i : Nat} (hi : i < 27) (hw : wF p F i = true) : wF p G i = true := by
  rw [wF_iff] at hw ⊢
  exact fun j hj => h j (fin_lt hp hi hj) (hw j hj)
theorem wF_congr {p : Pg} (hp : p.ok false) {F G : Nat → Bool} (h : ∀ i, i < 27 → F i = G i) {i : Nat} (hi : i < 27) : wF p F i = wF p G i := by
  rw [Bool.eq_iff_iff]
  exact ⟨wF_mono hp (fun i hi e => by rw [← h i hi]; exact e) hi, wF_mono hp (fun i hi e => by rw [h i hi]; exact e) hi⟩
theorem wF_skip {F : Nat → Bool} {i : Nat} : wF .skip F i = F i := by
  rw [Bool.eq_iff_iff, wF_iff]
  exact ⟨fun h => h i rfl, fun h j hj => by rw [show j = i from hj]; exact h⟩
theorem wF_asg {v : UInt8} {e : Tm} {F : Nat → Bool} {i : Nat} : wF (.asg v e) F i = F (asg v e i) := by
  rw [Bool.eq_iff_iff, wF_iff]
  exact ⟨fun h => h _ rfl, fun h j hj => by rw [show j = asg v e i from hj]; exact h⟩
theorem wF_seq {p q : Pg} {F : Nat → Bool} {i : Nat} : wF (.seq p q) F i = wF p (wF q F) i := by
  rw [Bool.eq_iff_iff, wF_iff, wF_iff]
  constructor
  · intro h m hm
    rw [wF_iff]
    exact fun j hj => h j ⟨m, hm, hj⟩
  · rintro h j ⟨m, hm, hj⟩
    exact wF_iff.1 (h m hm) j hj
theorem wF_ite {t : Tm} {p q : Pg} {F : Nat → Bool} {i : Nat} : wF (.ite t p q) F i = (tst t i && wF p F i || wF q F i && !tst t i) := by
  have e : ∀ j, Fin mdl (.ite t p q) i j ↔ if tst t i = true then Fin mdl p i j else Fin mdl q i j := fun j => Iff.rfl
  cases h : tst t i
  · rw [Bool.false_and, Bool.false_or, Bool.not_false, Bool.and_true, Bool.eq_iff_iff, wF_iff, wF_iff]
    exact forall_congr' fun j => by rw [e j, h]; simp
  · rw [Bool.true_and, Bool.not_true, Bool.and_false, Bool.or_false, Bool.eq_iff_iff, wF_iff, wF_iff]
    exact forall_congr' fun j => by rw [e j, h]; simp
theorem wF_cho {p q : Pg} {F : Nat → Bool} {i : Nat} : wF (.cho p q) F i = (wF p F i && wF q F i) := by
  rw [Bool.eq_iff_iff, Bool.and_eq_true, wF_iff, wF_iff, wF_iff]
  exact ⟨fun h => ⟨fun j hj => h j (.inl hj), fun j hj => h j (.inr hj)⟩, fun h j hj => hj.elim (h.1 j) (h.2 j)⟩
theorem wF_asm {t : Tm} {F : Nat → Bool} {i : Nat} : wF (.asm t) F i = (!tst t i || F i) := by
  rw [Bool.eq_iff_iff, wF_iff]
  cases h : tst t i
  · simp only [Bool.not_false, Bool.true_or, iff_true]
    rintro j ⟨h1, _⟩
    have h1' : tst t i = true := h1
    rw [h] at h1'; cases h1'
  · simp only [Bool.not_true, Bool.false_or]
    exact ⟨fun hh => hh i ⟨h, rfl⟩, fun hh j hj => by rw [hj.2]; exact hh⟩

/-! ### A loop -/
/-- One round: the states of a set from which the body leads into it, and those of the other one in which the test is false. -/
def lessS (T F : Nat → Bool) (c : (Nat → Bool) → Nat → Bool) (K : Nat → Bool) : Nat → Bool := fun i => T i && c K i || F i && !T i
structure KInv (t : Tm) (p : Pg) (F K : Nat → Bool) : Prop where
  top : ∀ i, i < 27 → wF (.whl t p) F i = true → K i = true
  falls : ∀ i, i < 27 → lessS (tst t) F (wF p) K i = true → K i = true
theorem KInv.start (t : Tm) (p : Pg) (F : Nat → Bool) : KInv t p F (fun _ => true) := ⟨fun _ _ _ => rfl, fun _ _ _ => rfl⟩
theorem less_iff {T F : Nat → Bool} {c : (Nat → Bool) → Nat → Bool} {K : Nat → Bool} {i : Nat} : lessS T F c K i = true ↔ (T i = true ∧ c K i = true) ∨ (T i = false ∧ F i = true) := by
  unfold lessS
  cases T i <;> simp
theorem KInv.step {t : Tm} {p : Pg} (hp : p.ok false) {F K : Nat → Bool} (h : KInv t p F K) : KInv t p F (lessS (tst t) F (wF p) K) where
  top := by
    intro i hi hw
    rw [less_iff]
    cases ht : tst t i
    · exact .inr ⟨rfl, wF_iff.1 hw i ⟨.refl i, ht⟩⟩
    · refine .inl ⟨rfl, wF_iff.2 fun m hm => h.top m (fin_lt hp hi hm) (wF_iff.2 fun j hj => wF_iff.1 hw j ⟨.head ⟨ht, hm⟩ hj.1, hj.2⟩)⟩
  falls := by
    intro i hi hw
    rw [less_iff] at hw ⊢
    rcases hw with ⟨h1, h2⟩ | h2
    · exact .inl ⟨h1, wF_mono hp (fun m hm => h.falls m hm) hi h2⟩
    · exact .inr h2
theorem KInv.done {t : Tm} {p : Pg} (hp : p.ok false) {F K : Nat → Bool} (h : KInv t p F K) (e : nb 27 (lessS (tst t) F (wF p) K) = nb 27 K) : nb 27 K = nb 27 (wF (.whl t p) F) := by
  refine nb_congr fun i hi => ?_
  rw [Bool.eq_iff_iff]
  constructor
  · intro hk
    rw [wF_iff]
    rintro j ⟨hs, hj⟩
    have hs' : Star (fun u v => mdl.t t u = true ∧ Fin mdl p u v) i j := hs
    clear hs
    have : ∀ u v : Nat, Star (fun u v => mdl.t t u = true ∧ Fin mdl p u v) u v → u < 27 → K u = true → v < 27 ∧ K v = true := by
      intro u v hst
      induction hst with
      | refl => exact fun a b => ⟨a, b⟩
      | head h1 _ ih =>
        intro hu hk
        rename_i u m v _
        have h2 := nb_inj e u hu
        rw [hk] at h2
        rcases less_iff.1 h2 with ⟨_, h4⟩ | ⟨h3, _⟩
        · have hm := fin_lt hp hu h1.2
          exact ih hm (wF_iff.1 h4 m h1.2)
        · have h5 : tst t u = true := h1.1
          rw [h3] at h5; cases h5
    obtain ⟨hj27, hkj⟩ := this i j hs' hi hk
    have h2 := nb_inj e j hj27
    rw [hkj] at h2
    rcases less_iff.1 h2 with ⟨h3, _⟩ | ⟨_, h4⟩
    · have h5 : tst t j = false := hj
      rw [h3] at h5; cases h5
    · exact h4
  · exact h.top i hi
theorem KInv.le {t : Tm} {p : Pg} {F K : Nat → Bool} (h : KInv t p F K) : nb 27 (lessS (tst t) F (wF p) K) ≤ nb 27 K := nb_mono h.falls

/-! ### A condition from a table -/
/-- All states but one. -/
def allBut (k : Nat) : Nat → Bool := fun j => !(j == k)
def tabS (W : Nat → Nat → Bool) (F : Nat → Bool) (k : Nat) : Nat → Bool := fun i => (List.range k).all fun m => F m || W m i
theorem tabS_zero (W : Nat → Nat → Bool) (F : Nat → Bool) : tabS W F 0 = fun _ => true := by funext i; simp [tabS]
theorem tabS_yes {W : Nat → Nat → Bool} {F : Nat → Bool} {k : Nat} (h : F k = true) : tabS W F k = tabS W F (k + 1) := by
  funext i; simp [tabS, List.range_succ, h]
theorem tabS_no {W : Nat → Nat → Bool} {F : Nat → Bool} {k : Nat} (h : F k = false) : (fun i => tabS W F k i && W k i) = tabS W F (k + 1) := by
  funext i; simp [tabS, List.range_succ, h]
theorem tabS_all {p : Pg} (hp : p.ok false) {F : Nat → Bool} {i : Nat} (hi : i < 27) : tabS (fun k => wF p (allBut k)) F 27 i = wF p F i := by
  rw [Bool.eq_iff_iff, wF_iff]
  unfold tabS
  rw [List.all_eq_true]
  constructor
  · intro h j hj
    have hj27 := fin_lt hp hi hj
    have h1 := h j (by simpa using hj27)
    cases hF : F j
    · rw [hF, Bool.false_or, wF_iff] at h1
      have := h1 j hj
      simp [allBut] at this
    · rfl
  · intro h k _
    cases hF : F k
    · rw [Bool.false_or, wF_iff]
      intro j hj
      have h1 := h j hj
      unfold allBut
      cases e : j == k
      · rfl
      · rw [eq_of_beq e, hF] at h1; cases h1
    · rfl
end Go.Proofs.YtkgdhlpmlpbbkaaGreat

namespace Go.Proofs.YtkgdhlpmlpbbkaaGreat
open Go.RowKit Go.Great

def relC (k : IntKind) (T : Nat → Nat → Bool) : Array Value := ((List.range 27).map (fun i => Value.int k (nb 27 (T i)))).toArray
theorem relC_size (k : IntKind) (T : Nat → Nat → Bool) : (relC k T).size = 27 := by simp [relC]
theorem relC_get (k : IntKind) (T : Nat → Nat → Bool) {i : Nat} (h : i < 27) : (relC k T)[i]? = some (.int k (nb 27 (T i))) := by
  unfold relC
  simp [h]
theorem relC_congr {k : IntKind} {T T' : Nat → Nat → Bool} (h : ∀ i, i < 27 → ∀ j, j < 27 → T i j = T' i j) : relC k T = relC k T' := by
  unfold relC
  congr 1
  apply List.map_congr_left
  intro i hi
  rw [nb_congr (h i (by simpa using hi))]
theorem relC_one (k : IntKind) (T : Nat → Nat → Bool) : (relC k T).all (·.oneCell') = true := by
  rw [Array.all_eq_true_iff_forall_mem]
  intro v hv
  simp [relC] at hv
  rcases hv with ⟨i, _, rfl⟩
  rfl
def setR (T : Nat → Nat → Bool) (k : Nat) (F : Nat → Bool) : Nat → Nat → Bool := fun i => if i = k then F else T i
theorem relC_set {K : IntKind} {T : Nat → Nat → Bool} {k : Nat} {F : Nat → Bool} (hk : k < 27) : (relC K T).setIfInBounds k (.int K (nb 27 F)) = relC K (setR T k F) := by
  apply Array.ext_getElem?
  intro i
  rw [Array.getElem?_setIfInBounds]
  by_cases e : k = i
  · subst e
    rw [if_pos rfl, relC_get _ _ hk, if_pos (by rw [relC_size]; omega)]
    simp [setR]
  · rw [if_neg e]
    by_cases h : i < 27
    · rw [relC_get _ _ h, relC_get _ _ h]
      have : ¬ i = k := fun h => e h.symm
      simp [setR, this]
    · rw [Array.getElem?_eq_none (by rw [relC_size]; omega), Array.getElem?_eq_none (by rw [relC_size]; omega)]
def noR : Nat → Nat → Bool := fun _ _ => false
/-- The first k rows of one relation, the others of another one. -/
def mixR (k : Nat) (A B : Nat → Nat → Bool) : Nat → Nat → Bool := fun i j => if i < k then A i j else B i j
theorem mixR_zero {K : IntKind} {A B : Nat → Nat → Bool} : relC K (mixR 0 A B) = relC K B := relC_congr fun i _ j _ => by simp [mixR]
theorem mixR_all {K : IntKind} {A B : Nat → Nat → Bool} : relC K (mixR 27 A B) = relC K A := relC_congr fun i hi j _ => by simp [mixR, hi]
theorem mixR_step {K : IntKind} {A B : Nat → Nat → Bool} {k : Nat} (hk : k < 27) : (relC K (mixR k A B)).setIfInBounds k (.int K (nb 27 (A k))) = relC K (mixR (k + 1) A B) := by
  rw [relC_set hk]
  refine relC_congr fun i _ j _ => ?_
  unfold setR mixR
  by_cases e : i = k
  · subst e; simp
  · rw [if_neg e]
    by_cases h : i < k
    · have h2 : i < k + 1 := by omega
      simp [h, h2]
    · have h2 : ¬ i < k + 1 := by omega
      simp [h, h2]
theorem mixR_at {K : IntKind} {A B : Nat → Nat → Bool} {k : Nat} (hk : k < 27) : (relC K (mixR k A B))[k]? = some (.int K (nb 27 (B k))) := by
  rw [relC_get _ _ hk, nb_congr (F := mixR k A B k) (G := B k) fun j _ => by simp [mixR]]

/-- Are two relations the same? -/
def relEq (A B : Nat → Nat → Bool) : Bool := (List.range 27).all fun i => nb 27 (A i) == nb 27 (B i)
theorem relEq_iff {A B : Nat → Nat → Bool} : relEq A B = true ↔ ∀ i, i < 27 → ∀ j, j < 27 → A i j = B i j := by
  unfold relEq
  rw [List.all_eq_true]
  constructor
  · intro h i hi j hj
    have := h i (by simpa using hi)
    exact nb_inj (eq_of_beq this) j hj
  · intro h i hi
    have := nb_congr (h i (by simpa using hi))
    simpa using this
theorem run_equal_rel {P : Program} (w : World) (t e : TypeId) (k : IntKind) (A B : Nat → Nat → Bool) (ht : P.underlying t = some (.array 27 e)) (he : P.underlying e = some (.int k)) (hsz : ∀ w, (sizeOf e).run P w = .ok 1 w) :
    (Op.equalIn 10000 t (.agg (relC k A)) (.agg (relC k B))).run P w = .ok (relEq A B) w := by
  show (Op.equalIn (9998 + 2) t _ _).run P w = _
  rw [relEq, List.range_eq_range', Op.equalIn]
  simp only [Sem.run_bind, run_underlying ht, Result.andThen_ok, hsz, Std.Legacy.Range.forIn_eq_forIn_range', Std.Legacy.Range.size, Nat.sub_zero, Nat.add_sub_cancel, Nat.div_one]
  have hl : ∀ i ∈ List.range' 0 27 1, i < 27 := fun i hi => by simpa using (List.mem_range'_1.1 hi).2
  generalize List.range' 0 27 1 = l at hl ⊢
  induction l with
  | nil => simp
  | cons i l ih =>
    have hi : i < 27 := hl i (by simp)
    have px : (Go.part e (relC k A) (i * 1)).run P w = .ok (.int k (nb 27 (A i))) w := by
      simp [Go.part, isAgg, run_underlying he, relC_get k A hi]
    have py : (Go.part e (relC k B) (i * 1)).run P w = .ok (.int k (nb 27 (B i))) w := by
      simp [Go.part, isAgg, run_underlying he, relC_get k B hi]
    have pe : (Op.equalIn (9998 + 1) e (.int k (nb 27 (A i))) (.int k (nb 27 (B i)))).run P w = .ok (nb 27 (A i) == nb 27 (B i)) w := by
      rw [run_equalIn_int w 9998 e k k _ _ he]
      congr 1
      rw [Bool.eq_iff_iff, beq_iff_eq, beq_iff_eq]
      omega
    simp only [List.forIn_cons, Sem.run_bind, px, py, pe, Result.andThen_ok, List.all_cons]
    cases hb : (nb 27 (A i) == nb 27 (B i))
    · simp
    · simp only [Bool.not_true, Bool.false_eq_true, if_false, Sem.run_pure, Result.andThen_ok, Bool.true_and]
      exact ih fun j hj => hl j (by simp [hj])

/-- The relation of a text of 729 bits. -/
def relS (l : List UInt8) : Nat → Nat → Bool := fun i j => hs l (27 * i + j)
/-- The text of the first k rows. -/
def rowsT (T : Nat → Nat → Bool) : Nat → List UInt8
  | 0 => []
  | k + 1 => rowsT T k ++ tb (T k)
theorem rowsT_len (T : Nat → Nat → Bool) (k : Nat) : (rowsT T k).length = 27 * k := by
  induction k with
  | zero => rfl
  | succ k ih => simp only [rowsT, List.length_append, ih, tb, tbn_length]; omega
theorem rowsT_eq (T : Nat → Nat → Bool) (k : Nat) : rowsT T k = tbn (27 * k) fun m => T (m / 27) (m % 27) := by
  induction k with
  | zero => rfl
  | succ k ih =>
    apply List.ext_getElem?
    intro m
    unfold rowsT
    by_cases h : m < 27 * k
    · rw [List.getElem?_append_left (by rw [rowsT_len]; exact h), ih, tbn_get _ _ _ h, tbn_get _ _ _ (by omega)]
    · rw [List.getElem?_append_right (by rw [rowsT_len]; omega), rowsT_len]
      by_cases h2 : m < 27 * (k + 1)
      · rw [tb, tbn_get _ _ _ (by omega), tbn_get _ _ _ h2]
        have e1 : m / 27 = k := by omega
        have e2 : m % 27 = m - 27 * k := by omega
        rw [e1, e2]
      · rw [tb, List.getElem?_eq_none (by rw [tbn_length]; omega), List.getElem?_eq_none (by rw [tbn_length]; omega)]
/-- The text of a relation. -/
def relT (T : Nat → Nat → Bool) : List UInt8 := rowsT T 27
theorem relT_eq (T : Nat → Nat → Bool) : relT T = tbn 729 fun m => T (m / 27) (m % 27) := rowsT_eq T 27
theorem relT_congr {T T' : Nat → Nat → Bool} (h : ∀ i, i < 27 → ∀ j, j < 27 → T i j = T' i j) : relT T = relT T' := by
  rw [relT_eq, relT_eq]
  refine tbn_congr fun m hm => ?_
  exact h _ (by omega) _ (by omega)
theorem relT_of {l : List UInt8} (f : Bool → Bool) : tbn 729 (fun m => f (hs l m)) = relT (fun i j => f (relS l i j)) := by
  rw [relT_eq]
  refine tbn_congr fun m hm => ?_
  have e : 27 * (m / 27) + m % 27 = m := by omega
  simp only [relS, e]
theorem relT_of2 {l l' : List UInt8} (f : Bool → Bool → Bool) : tbn 729 (fun m => f (hs l m) (hs l' m)) = relT (fun i j => f (relS l i j) (relS l' i j)) := by
  rw [relT_eq]
  refine tbn_congr fun m hm => ?_
  have e : 27 * (m / 27) + m % 27 = m := by omega
  simp only [relS, e]
end Go.Proofs.YtkgdhlpmlpbbkaaGreat

namespace Go.Proofs.YtkgdhlpmlpbbkaaGreat
open Go.RowKit Tm Go.Great Classical

/-- The blocks below T and those from c on are as in w1. -/
def Agr (T c : Nat) (w1 w : World) : Prop := w1.heap.size ≤ w.heap.size ∧ ∀ b, (b < T ∨ c ≤ b) → b < w1.heap.size → w.heap[b]? = w1.heap[b]?
theorem Agr.refl (T c : Nat) (w : World) : Agr T c w w := ⟨Nat.le_refl _, fun _ _ _ => rfl⟩
theorem Agr.trans {T c : Nat} {w1 w2 w3 : World} (h : Agr T c w1 w2) (h' : Agr T c w2 w3) : Agr T c w1 w3 := ⟨Nat.le_trans h.1 h'.1, fun b hb hs => (h'.2 b hb (Nat.lt_of_lt_of_le hs h.1)).trans (h.2 b hb hs)⟩
theorem Agr.of {T c : Nat} {w1 w : World} (h : Below w1.heap.size w1 w) : Agr T c w1 w := ⟨h.size, fun b _ hs => h.block b hs⟩
theorem Agr.below {T c : Nat} {w1 w w2 : World} (h : Agr T c w1 w) (hb : Below w.heap.size w w2) : Agr T c w1 w2 := h.trans (.of hb)
theorem Agr.weak {T c c' : Nat} {w1 w : World} (h : Agr T c w1 w) (hc : c ≤ c') : Agr T c' w1 w := ⟨h.1, fun b hb hs => h.2 b (by omega) hs⟩
theorem Agr.blk {T c : Nat} {w1 w : World} (h : Agr T c w1 w) {b : Nat} {cs : Array Value} {t : TypeId} (hc : c ≤ b) (hb : Blk w1 b cs t) : Blk w b cs t := (h.2 b (.inr hc) hb.lt).trans hb
theorem Agr.low {T c : Nat} {w1 w : World} (h : Agr T c w1 w) {b o : Nat} {v : Value} (hb : b < T) (hc : w1.cell? ⟨b, o, none⟩ = some v) : w.cell? ⟨b, o, none⟩ = some v := by
  have := h.2 b (.inl hb) (cell_lt hc)
  unfold World.cell? at *
  rw [this]; exact hc

def CPost (f : (Nat → Bool) → Nat → Bool) (F : Nat → Bool) (w : World) (e : Ending) (w' : World) : Prop := e = .returned (.int .u32 (nb 27 (f F))) ∧ Below w.heap.size w w'
def IsC (T c : Nat) (w1 : World) (fv : Value) (f : (Nat → Bool) → Nat → Bool) : Prop := ∃ fn caps, fv = .func (.func fn) #[] caps ∧ (∀ (a : Array Value) (w : World), (callFunc fn a).run Tryz.prog w = .ok (.enter fn a) w) ∧ ∀ w, Agr T c w1 w → ∀ F, Calls Tryz.prog fn (#[.int .u32 (nb 27 F)] ++ caps) w (CPost f F w)
theorem IsC.weak {T c c' : Nat} {w1 : World} {fv : Value} {f : (Nat → Bool) → Nat → Bool} (h : IsC T c w1 fv f) (hc : c' ≤ c) : IsC T c' w1 fv f := by
  obtain ⟨fn, caps, h1, h2, h3⟩ := h
  exact ⟨fn, caps, h1, h2, fun w ha F => h3 w (ha.weak hc) F⟩
theorem IsC.move {T c : Nat} {w1 w2 : World} {fv : Value} {f : (Nat → Bool) → Nat → Bool} (h : IsC T c w1 fv f) (ha : Agr T c w1 w2) : IsC T c w2 fv f := by
  obtain ⟨fn, caps, h1, h2, h3⟩ := h
  exact ⟨fn, caps, h1, h2, fun w ha' F => h3 w (ha.trans ha') F⟩
theorem IsC.congr {T c : Nat} {w1 : World} {fv : Value} {f g : (Nat → Bool) → Nat → Bool} (h : IsC T c w1 fv f) (e : ∀ F i, i < 27 → f F i = g F i) : IsC T c w1 fv g := by
  obtain ⟨fn, caps, h1, h2, h3⟩ := h
  refine ⟨fn, caps, h1, h2, fun w ha F => (h3 w ha F).mono ?_⟩
  rintro e' w' ⟨rfl, hb⟩
  exact ⟨by rw [nb_congr (e F)], hb⟩

theorem u_and (F G : Nat → Bool) : bits .and .u32 (nb 27 F : Nat) (nb 27 G : Nat) = (nb 27 (fun i => F i && G i) : Nat) := by
  have h := nb_lt27 F; have h' := nb_lt27 G
  rw [u32_and_nat _ _ (by omega) (by omega), nb_and]
theorem u_or (F G : Nat → Bool) : bits .or .u32 (nb 27 F : Nat) (nb 27 G : Nat) = (nb 27 (fun i => F i || G i) : Nat) := by
  have h := nb_lt27 F; have h' := nb_lt27 G
  rw [u32_or_nat _ _ (by omega) (by omega), nb_or2]
theorem u_andNot (F G : Nat → Bool) : bits .andNot .u32 (nb 27 F : Nat) (nb 27 G : Nat) = (nb 27 (fun i => F i && !G i) : Nat) := by
  have h := nb_lt27 F
  have h' := nb_lt27 G
  rw [u32_andNot_nat _ _ (by omega) (by omega)]
  congr 1
  apply nb_of_bits
  · exact Nat.lt_of_le_of_lt Nat.and_le_left h
  · intro i hi
    rw [Nat.testBit_and, show 4294967295 - nb 27 G = 2 ^ 32 - (nb 27 G + 1) by omega, Nat.testBit_two_pow_sub_succ (by omega), nb_bit, nb_bit]
    have h32 : i < 32 := by omega
    simp [hi, h32]
theorem u_less (T F c : Nat → Bool) : bits .or .u32 (bits .and .u32 (nb 27 T : Nat) (nb 27 c : Nat)) (bits .andNot .u32 (nb 27 F : Nat) (nb 27 T : Nat)) = (nb 27 (fun i => T i && c i || F i && !T i) : Nat) := by rw [u_and, u_andNot, u_or]

/-! ### The condition of a loop -/
theorem allBut_bits (k : Nat) : bits .andNot .u32 134217727 (nb 27 (fun j => j == k) : Nat) = (nb 27 (allBut k) : Nat) := by
  have e0 : (134217727 : Int) = (nb 27 (fun _ => true) : Nat) := by rw [nb_all]; rfl
  rw [e0, u_andNot]
  congr 2
theorem undSE : Tryz.prog.underlying 57 = some (.int .u32) := by kernel_rfl
theorem sizSE (w : World) : (sizeOf 57).run Tryz.prog w = .ok 1 w := by kernel_rfl
def FunPost (T c : Nat) (f : (Nat → Bool) → Nat → Bool) (w : World) (e : Ending) (w' : World) : Prop := ∃ fn caps, e = .returned (.func (.func fn) #[] caps) ∧ IsC T c w' (.func (.func fn) #[] caps) f ∧ Below w.heap.size w w'
end Go.Proofs.YtkgdhlpmlpbbkaaGreat

namespace Go.Proofs.YtkgdhlpmlpbbkaaGreat
open Go.RowKit Tm Go.Great Classical

end Go.Proofs.YtkgdhlpmlpbbkaaGreat

namespace Go.Proofs.YtkgdhlpmlpbbkaaGreat
open Go.RowKit Tm Go.Great Classical

def El (T N : Nat) (w : World) (v : Value) (q : Pg) (fv : Value) : Prop := ∃ cj wj, N < cj ∧ IsC T cj wj fv (wF q) ∧ Agr T cj wj w ∧ ∀ g, v.ownBlock = some g → g < cj ∨ wj.heap.size ≤ g
def Els (T N : Nat) (w : World) (v : Value) (ps : List Pg) (fvs : List Value) : Prop := fvs.length = ps.length ∧ ∀ (j : Nat) (q : Pg), ps[j]? = some q → ∃ fv : Value, fvs[j]? = some fv ∧ El T N w v q fv
theorem Els.nil (T N : Nat) (w : World) (v : Value) : Els T N w v [] [] := ⟨rfl, fun j q h => by simp at h⟩
theorem El.isC {T N : Nat} {w : World} {v : Value} {q : Pg} {fv : Value} (h : El T N w v q fv) : IsC T N w fv (wF q) := by
  obtain ⟨cj, wj, h1, h2, h3, _⟩ := h
  exact (h2.move h3).weak (Nat.le_of_lt h1)
/-- One part more. -/
theorem Els.step {T N R : Nat} {wr w2 w4 : World} {v v' : Value} {ps : List Pg} {fvs : List Value} {q : Pg} {fv x : Value} {o : Obj} {g' : Nat} (h : Els T N wr v ps fvs) (hTN : T ≤ N) (hNR : N < R) (hR : R ≤ wr.heap.size)
    (hv : ∀ g, v.ownBlock = some g → R ≤ g ∧ g < wr.heap.size) (hb : Below wr.heap.size wr w2) (hc : IsC T wr.heap.size w2 fv (wF q)) (hg : (w2.alloc o).grownBy w4 v.ownBlock) (hv' : v'.ownBlock = some g') (hat : v.ownBlock = some g' ∨ g' = w2.heap.size + 1) :
    Els T N (w4.setCell ⟨N, 0, none⟩ x) v' (ps ++ [q]) (fvs ++ [fv]) := by
  have hb2 := hb.size
  have hs3 : (w2.alloc o).heap.size = w2.heap.size + 1 := by simp
  have hs4 := hg.size
  have far : ∀ b, b < w2.heap.size → b ≠ N → some b ≠ v.ownBlock → (w4.setCell ⟨N, 0, none⟩ x).heap[b]? = w2.heap[b]? := by
    intro b h1 h2 h3
    rw [Below.heap_setCell _ _ _ _ h2, hg.block b (by omega) h3, Below.heap_alloc _ _ _ h1]
  have hsz : w2.heap.size ≤ (w4.setCell ⟨N, 0, none⟩ x).heap.size := by simp; omega
  refine ⟨by simp [h.1], fun j p hj => ?_⟩
  by_cases hjk : j < ps.length
  · rw [List.getElem?_append_left hjk] at hj
    obtain ⟨f, hf, cj, wj, h1, h2, h3, h4⟩ := h.2 j p hj
    refine ⟨f, by rw [List.getElem?_append_left (by rw [h.1]; exact hjk)]; exact hf, cj, wj, h1, h2, ⟨by have := h3.1; omega, ?_⟩, ?_⟩
    · intro b hbb hbs
      have h31 := h3.1
      rw [far b (by omega) (by omega) ?_, hb.block b (by omega)]
      · exact h3.2 b hbb hbs
      · intro e
        have hg4 := h4 b e.symm
        have hg5 := hv b e.symm
        omega
    · intro g hgg
      rw [hv'] at hgg
      injection hgg with hgg
      subst hgg
      rcases hat with hat | hat
      · exact h4 _ hat
      · have := h3.1
        right; omega
  · have hjl : j = ps.length := by
      rcases Nat.lt_or_ge j (ps ++ [q]).length with hl | hl
      · simp at hl; omega
      · rw [List.getElem?_eq_none hl] at hj; cases hj
    subst hjl
    rw [List.getElem?_append_right (Nat.le_refl _), Nat.sub_self] at hj
    simp at hj
    subst hj
    refine ⟨fv, by rw [← h.1, List.getElem?_append_right (Nat.le_refl _), Nat.sub_self]; rfl, wr.heap.size, w2, by omega, hc, ⟨hsz, ?_⟩, ?_⟩
    · intro b hbb hbs
      refine far b hbs (by omega) ?_
      intro e
      have hg5 := hv b e.symm
      omega
    · intro g hgg
      rw [hv'] at hgg
      injection hgg with hgg
      subst hgg
      rcases hat with hat | hat
      · exact .inl (hv _ hat).2
      · right; omega
/-- The forms of a row of parts. -/
theorem Row.any {w : World} {B : Nat} {T : TypeId} {v : Value} {xs : List Value} (h : Row w B T v xs) : ∃ a cap, v = .slice a xs.length cap ∧ xs.length ≤ cap ∧ ∀ (j : Nat) (u : Value), xs[j]? = some u → ∃ g, a = some ⟨g, 0, none⟩ ∧ B ≤ g ∧ w.cell? ⟨g, j, none⟩ = some u := by
  rcases h.cases with ⟨h1, h2⟩ | ⟨g, cap, h1, h2, h3, h4⟩
  · subst h2
    exact ⟨none, 0, h1, Nat.le_refl _, fun j u hu => by simp at hu⟩
  · exact ⟨_, cap, h1, h3, fun j u hu => ⟨g, rfl, h2, h4 j u hu⟩⟩
def Fr (N : Nat) (w1 w : World) : Prop := w1.heap.size ≤ w.heap.size ∧ ∀ b, b < w1.heap.size → b ≠ N → w.heap[b]? = w1.heap[b]?
theorem Fr.refl (N : Nat) (w : World) : Fr N w w := ⟨Nat.le_refl _, fun _ _ _ => rfl⟩
theorem Fr.cell {N : Nat} {w1 w : World} (h : Fr N w1 w) {b o : Nat} {v : Value} (hb : b ≠ N) (hc : w1.cell? ⟨b, o, none⟩ = some v) : w.cell? ⟨b, o, none⟩ = some v := by
  have := h.2 b (cell_lt hc) hb
  unfold World.cell? at *
  rw [this]; exact hc
theorem Fr.step {N : Nat} {w1 wr w2 w4 : World} {v : Value} {x : Value} {o : Obj} (h : Fr N w1 wr) (hb : Below wr.heap.size wr w2) (hg : (w2.alloc o).grownBy w4 v.ownBlock) (hv : ∀ g, v.ownBlock = some g → w1.heap.size ≤ g) : Fr N w1 (w4.setCell ⟨N, 0, none⟩ x) := by
  have h1 := h.1
  have h2 := hb.size
  have h3 := hg.size
  have h4 : (w2.alloc o).heap.size = w2.heap.size + 1 := by simp
  refine ⟨by simp; omega, fun b hb1 hb2 => ?_⟩
  rw [Below.heap_setCell _ _ _ _ hb2, hg.block b (by omega) (fun e => by have := hv b e.symm; omega), Below.heap_alloc _ _ _ (by omega), hb.block b (by omega)]
  exact h.2 b hb1 hb2
theorem Agr.high {T c : Nat} {w1 w : World} (h : Agr T c w1 w) {b o : Nat} {v : Value} (hb : c ≤ b) (hc : w1.cell? ⟨b, o, none⟩ = some v) : w.cell? ⟨b, o, none⟩ = some v := by
  have := h.2 b (.inr hb) (cell_lt hc)
  unfold World.cell? at *
  rw [this]; exact hc
/-- A term below T stays. -/
theorem Agr.rep {w0 w' w : World} {c B : Nat} {t : Tm} {x y : Value} (h : Agr w0.heap.size c w' w) (hb : Below w0.heap.size w0 w') (hr : RepT w0 B t x y) : RepT w B t x y :=
  hr.keep (fun b o _ _ hc => h.low (cell_lt hc) ((hb.cell (p := ⟨b, o, none⟩) (cell_lt hc)).trans hc)) (Nat.le_refl _)
end Go.Proofs.YtkgdhlpmlpbbkaaGreat

namespace Go.Proofs.YtkgdhlpmlpbbkaaGreat
open Go.RowKit Tm Go.Great Classical

def frS (B : Nat → Nat → Bool) (S : Nat → Bool) : Nat → Bool := fun i => !upto 27 (fun j => B i j && !S j)
theorem wF_eq {p : Pg} (hp : p.ok false) {S : Nat → Bool} {i : Nat} (hi : i < 27) : wF p S i = frS (rT p) S i := by
  rw [Bool.eq_iff_iff, wF_iff]
  unfold frS
  rw [Bool.not_eq_true', ← Bool.not_eq_true, upto_fin hp hi]
  constructor
  · rintro h ⟨m, h1, h2⟩
    rw [h m h1] at h2
    cases h2
  · intro h j hj
    cases hS : S j
    · exact absurd ⟨j, hj, by rw [hS]; rfl⟩ h
    · rfl
theorem eql0 (F : Nat → Bool) : (((nb 27 F : Nat) : Int) == 0) = !upto 27 F := by
  have := neq0 F
  rw [← this]
  simp [bne]
theorem s_free (B : Nat → Nat → Bool) (S : Nat → Bool) (k : Nat) : (bits .andNot .i64 (nb 27 (B k) : Nat) (nb 27 S : Nat) == 0) = frS B S k := by rw [s_andNot, eql0]; rfl
def AimPost (p : Pg) (F : Nat → Bool) (w : World) (e : Ending) (w' : World) : Prop := ∃ T u, e = .returned (.tuple #[.iface T (.agg u), .int .u32 (nb 27 F), .bool true]) ∧ StV w' w.heap.size p (.iface T (.agg u)) ∧ Below w.heap.size w w'
def NoAim (w : World) (e : Ending) (w' : World) : Prop := e = .returned (.tuple #[.nilIface, .int .u32 0, .bool false]) ∧ Below w.heap.size w w'
end Go.Proofs.YtkgdhlpmlpbbkaaGreat

namespace Go.Proofs.YtkgdhlpmlpbbkaaGreat
open Go.RowKit

set_option maxHeartbeats 1000000 in
theorem implWithin (F G : Nat → Bool) (w : World) : Calls Tryz.prog 60 #[.int .u32 (nb 27 F), .int .u32 (nb 27 G)] w fun e w' => e = .returned (.bool (wi 27 F G)) ∧ w = w' := by
  have H := Lib.hid (within_bits F G)
  go_enter Tryz.func60, Tryz.ntmps60
  go_wp2_with fail
  go_ret
  exact ⟨by rw [← H.out]; rfl, rfl⟩
end Go.Proofs.YtkgdhlpmlpbbkaaGreat

namespace Go.Proofs.YtkgdhlpmlpbbkaaGreat
open Go.RowKit

set_option maxHeartbeats 1000000 in
theorem implReads_yes (p q : ByteArray) (w : World) (hp : Set27 p) (hq : Set27 q) : Calls Tryz.prog 59 #[.string p, .string q] w fun e w' => e = .returned (.tuple #[.int .u32 (nb 27 (hs p.data.toList)), .int .u32 (nb 27 (hs q.data.toList)), .bool true]) ∧ w = w' := by
  have C := fun w => Lib.hid (implRead_yes p w hp)
  have D := fun w => Lib.hid (implRead_yes q w hq)
  go_enter Tryz.func59, Tryz.ntmps59
  go_wp2_with fail
  refine (C _).out.mono ?_
  rintro e w' ⟨rfl, rfl⟩
  go_wp2_with fail
  refine (D _).out.mono ?_
  rintro e w' ⟨rfl, rfl⟩
  go_wp2_with fail
  go_ret3
  exact ⟨rfl, rfl⟩
set_option maxHeartbeats 1000000 in
theorem implReads_no (p q : ByteArray) (w : World) (h : ¬ (Set27 p ∧ Set27 q)) : Calls Tryz.prog 59 #[.string p, .string q] w fun e w' => e = .returned (.tuple #[.int .u32 0, .int .u32 0, .bool false]) ∧ w = w' := by
  by_cases hp : Set27 p
  · have hq : ¬ Set27 q := fun hq => h ⟨hp, hq⟩
    have C := fun w => Lib.hid (implRead_yes p w hp)
    have D := fun w => Lib.hid (implRead_no q w hq)
    clear h hq
    go_enter Tryz.func59, Tryz.ntmps59
    go_wp2_with fail
    refine (C _).out.mono ?_
    rintro e w' ⟨rfl, rfl⟩
    go_wp2_with fail
    refine (D _).out.mono ?_
    rintro e w' ⟨rfl, rfl⟩
    go_wp2_with fail
    go_ret3
    exact ⟨rfl, rfl⟩
  · have C := fun w => Lib.hid (implRead_no p w hp)
    clear h hp
    by_cases hq : Set27 q
    · have D := fun w => Lib.hid (implRead_yes q w hq)
      clear hq
      go_enter Tryz.func59, Tryz.ntmps59
      go_wp2_with fail
      refine (C _).out.mono ?_
      rintro e w' ⟨rfl, rfl⟩
      go_wp2_with fail
      refine (D _).out.mono ?_
      rintro e w' ⟨rfl, rfl⟩
      go_wp2_with fail
      go_ret3
      exact ⟨rfl, rfl⟩
    · have D := fun w => Lib.hid (implRead_no q w hq)
      clear hq
      go_enter Tryz.func59, Tryz.ntmps59
      go_wp2_with fail
      refine (C _).out.mono ?_
      rintro e w' ⟨rfl, rfl⟩
      go_wp2_with fail
      refine (D _).out.mono ?_
      rintro e w' ⟨rfl, rfl⟩
      go_wp2_with fail
      go_ret3
      exact ⟨rfl, rfl⟩

theorem and_bits (F G : Nat → Bool) : bits .and .u32 (nb 27 F : Nat) (nb 27 G : Nat) = (nb 27 (fun i => F i && G i) : Nat) := by
  have h := nb_lt27 F; have h' := nb_lt27 G
  rw [u32_and_nat _ _ (by omega) (by omega), nb_and]
theorem or_bits (F G : Nat → Bool) : bits .or .u32 (nb 27 F : Nat) (nb 27 G : Nat) = (nb 27 (fun i => F i || G i) : Nat) := by
  have h := nb_lt27 F; have h' := nb_lt27 G
  rw [u32_or_nat _ _ (by omega) (by omega), nb_or2]

set_option maxHeartbeats 1000000 in
theorem implAnd_yes (p q : ByteArray) (w : World) (hp : Set27 p) (hq : Set27 q) : Calls Tryz.prog 75 #[.string p, .string q] w fun e w' => e = .returned (.tuple #[.string (bs (tb (fun i => hs p.data.toList i && hs q.data.toList i))), .bool true]) ∧ Below w.heap.size w w' := by
  have C := fun w => Lib.hid (implReads_yes p q w hp hq)
  have H := Lib.hid (and_bits (hs p.data.toList) (hs q.data.toList))
  have D := fun w => Lib.hid (implText (fun i => hs p.data.toList i && hs q.data.toList i) w)
  go_enter Tryz.func75, Tryz.ntmps75
  go_wp2_with fail
  refine (C _).out.mono ?_
  rintro e w' ⟨rfl, rfl⟩
  go_wp2_with fail
  rw [H.out]
  refine (D _).out.mono ?_
  rintro e w1 ⟨rfl, hb⟩
  have HB := Lib.hid hb
  clear hb
  go_wp2_with fail
  go_ret2
  exact ⟨rfl, HB.out⟩
set_option maxHeartbeats 1000000 in
theorem implAnd_no (p q : ByteArray) (w : World) (h : ¬ (Set27 p ∧ Set27 q)) : Calls Tryz.prog 75 #[.string p, .string q] w fun e w' => e = .returned (.tuple #[.string (bs []), .bool false]) ∧ Below w.heap.size w w' := by
  have C := fun w => Lib.hid (implReads_no p q w h)
  clear h
  go_enter Tryz.func75, Tryz.ntmps75
  go_wp2_with fail
  refine (C _).out.mono ?_
  rintro e w' ⟨rfl, rfl⟩
  go_wp2_with fail
  go_ret2
  exact ⟨rfl, Below.refl _ _⟩

set_option maxHeartbeats 1000000 in
theorem implOr_yes (p q : ByteArray) (w : World) (hp : Set27 p) (hq : Set27 q) : Calls Tryz.prog 85 #[.string p, .string q] w fun e w' => e = .returned (.tuple #[.string (bs (tb (fun i => hs p.data.toList i || hs q.data.toList i))), .bool true]) ∧ Below w.heap.size w w' := by
  have C := fun w => Lib.hid (implReads_yes p q w hp hq)
  have H := Lib.hid (or_bits (hs p.data.toList) (hs q.data.toList))
  have D := fun w => Lib.hid (implText (fun i => hs p.data.toList i || hs q.data.toList i) w)
  go_enter Tryz.func85, Tryz.ntmps85
  go_wp2_with fail
  refine (C _).out.mono ?_
  rintro e w' ⟨rfl, rfl⟩
  go_wp2_with fail
  rw [H.out]
  refine (D _).out.mono ?_
  rintro e w1 ⟨rfl, hb⟩
  have HB := Lib.hid hb
  clear hb
  go_wp2_with fail
  go_ret2
  exact ⟨rfl, HB.out⟩
set_option maxHeartbeats 1000000 in
theorem implOr_no (p q : ByteArray) (w : World) (h : ¬ (Set27 p ∧ Set27 q)) : Calls Tryz.prog 85 #[.string p, .string q] w fun e w' => e = .returned (.tuple #[.string (bs []), .bool false]) ∧ Below w.heap.size w w' := by
  have C := fun w => Lib.hid (implReads_no p q w h)
  clear h
  go_enter Tryz.func85, Tryz.ntmps85
  go_wp2_with fail
  refine (C _).out.mono ?_
  rintro e w' ⟨rfl, rfl⟩
  go_wp2_with fail
  go_ret2
  exact ⟨rfl, Below.refl _ _⟩

set_option maxHeartbeats 1000000 in
theorem implNotP_yes (p : ByteArray) (w : World) (hp : Set27 p) : Calls Tryz.prog 76 #[.string p] w fun e w' => e = .returned (.tuple #[.string (bs (tb (fun i => !hs p.data.toList i))), .bool true]) ∧ Below w.heap.size w w' := by
  have C := fun w => Lib.hid (implRead_yes p w hp)
  have N := fun w => Lib.hid (implNot (hs p.data.toList) w)
  have D := fun w => Lib.hid (implText (fun i => !hs p.data.toList i) w)
  go_enter Tryz.func76, Tryz.ntmps76
  go_wp2_with fail
  refine (C _).out.mono ?_
  rintro e w' ⟨rfl, rfl⟩
  go_wp2_with fail
  refine (N _).out.mono ?_
  rintro e w' ⟨rfl, rfl⟩
  go_wp2_with fail
  refine (D _).out.mono ?_
  rintro e w1 ⟨rfl, hb⟩
  have HB := Lib.hid hb
  clear hb
  go_wp2_with fail
  go_ret2
  exact ⟨rfl, HB.out⟩
set_option maxHeartbeats 1000000 in
theorem implNotP_no (p : ByteArray) (w : World) (h : ¬ Set27 p) : Calls Tryz.prog 76 #[.string p] w fun e w' => e = .returned (.tuple #[.string (bs []), .bool false]) ∧ Below w.heap.size w w' := by
  have C := fun w => Lib.hid (implRead_no p w h)
  clear h
  go_enter Tryz.func76, Tryz.ntmps76
  go_wp2_with fail
  refine (C _).out.mono ?_
  rintro e w' ⟨rfl, rfl⟩
  go_wp2_with fail
  go_ret2
  exact ⟨rfl, Below.refl _ _⟩

set_option maxHeartbeats 1000000 in
theorem implPWithin_yes (p q : ByteArray) (w : World) (hp : Set27 p) (hq : Set27 q) : Calls Tryz.prog 20 #[.string p, .string q] w fun e w' => e = .returned (.bool (wi 27 (hs p.data.toList) (hs q.data.toList))) ∧ w = w' := by
  have C := fun w => Lib.hid (implReads_yes p q w hp hq)
  have D := fun w => Lib.hid (implWithin (hs p.data.toList) (hs q.data.toList) w)
  go_enter Tryz.func20, Tryz.ntmps20
  go_wp2_with fail
  refine (C _).out.mono ?_
  rintro e w' ⟨rfl, rfl⟩
  go_wp2_with fail
  refine (D _).out.mono ?_
  rintro e w' ⟨rfl, rfl⟩
  go_wp2_with fail
  go_ret
  exact ⟨rfl, rfl⟩
set_option maxHeartbeats 1000000 in
theorem implPWithin_no (p q : ByteArray) (w : World) (h : ¬ (Set27 p ∧ Set27 q)) : Calls Tryz.prog 20 #[.string p, .string q] w fun e w' => e = .returned (.bool false) ∧ w = w' := by
  have C := fun w => Lib.hid (implReads_no p q w h)
  clear h
  go_enter Tryz.func20, Tryz.ntmps20
  go_wp2_with fail
  refine (C _).out.mono ?_
  rintro e w' ⟨rfl, rfl⟩
  go_wp2_with fail
  go_ret
  exact ⟨rfl, rfl⟩

/-- The number of a state. -/
def ixn (x y z : Int) : Nat := (x + 3 * y + 9 * z).toNat
theorem ixn_lt {x y z : Int} (h : st3 x y z = true) : ixn x y z < 27 ∧ ((ixn x y z : Nat) : Int) = x + 3 * y + 9 * z := by
  have h := st3_lt h
  unfold ixn; omega

set_option maxHeartbeats 1000000 in
theorem implHasS_yes (p : ByteArray) (x y z : Int) (w : World) (hp : Set27 p) (h : st3 x y z = true) : Calls Tryz.prog 18 #[.string p, .agg #[.int .i64 x, .int .i64 y, .int .i64 z]] w fun e w' => e = .returned (.bool (hs p.data.toList (ixn x y z))) ∧ Below w.heap.size w w' := by
  have C := fun w => Lib.hid (implRead_yes p w hp)
  have V := fun w => Lib.hid (implStateValid x y z w)
  rw [h] at V
  have hi := ixn_lt h
  have I := fun w => Lib.hid (implIx_yes x y z w h)
  rw [← hi.2] at I
  have D := fun w => Lib.hid (implHasB (hs p.data.toList) (ixn x y z) w hi.1)
  clear hi h
  go_enter Tryz.func18, Tryz.ntmps18
  go_wp2_with fail
  have HT0 := Lib.hid (Blk.new w #[.int .i64 x, .int .i64 y, .int .i64 z] 33)
  have HB0 := Lib.hid ((Below.refl _ w).alloc (Nat.le_refl _) (.cells #[.int .i64 x, .int .i64 y, .int .i64 z] 33))
  generalize w.alloc (.cells #[.int .i64 x, .int .i64 y, .int .i64 z] 33) = w0 at *
  refine (C _).out.mono ?_
  rintro e w' ⟨rfl, rfl⟩
  obtain ⟨q0, q1, q2⟩ := HT0.out.c3
  go_wp2_with fail
  clear q0 q1 q2
  refine (V _).out.mono ?_
  rintro e w1 ⟨rfl, hb⟩
  have HB1 := Lib.hid (bnext HB0.out hb)
  have HT1 := Lib.hid (HT0.out.kept hb)
  clear hb
  obtain ⟨q0, q1, q2⟩ := HT1.out.c3
  go_wp2_with fail
  clear q0 q1 q2
  refine (I _).out.mono ?_
  rintro e w2 ⟨rfl, hb⟩
  have HB2 := Lib.hid (bnext HB1.out hb)
  clear hb
  go_wp2_with fail
  refine (D _).out.mono ?_
  rintro e w' ⟨rfl, rfl⟩
  go_wp2_with fail
  go_ret
  exact ⟨rfl, HB2.out⟩
set_option maxHeartbeats 1000000 in
theorem implHasS_st (p : ByteArray) (x y z : Int) (w : World) (hp : Set27 p) (h : st3 x y z = false) : Calls Tryz.prog 18 #[.string p, .agg #[.int .i64 x, .int .i64 y, .int .i64 z]] w fun e w' => e = .returned (.bool false) ∧ Below w.heap.size w w' := by
  have C := fun w => Lib.hid (implRead_yes p w hp)
  have V := fun w => Lib.hid (implStateValid x y z w)
  rw [h] at V
  clear h
  go_enter Tryz.func18, Tryz.ntmps18
  go_wp2_with fail
  have HT0 := Lib.hid (Blk.new w #[.int .i64 x, .int .i64 y, .int .i64 z] 33)
  have HB0 := Lib.hid ((Below.refl _ w).alloc (Nat.le_refl _) (.cells #[.int .i64 x, .int .i64 y, .int .i64 z] 33))
  generalize w.alloc (.cells #[.int .i64 x, .int .i64 y, .int .i64 z] 33) = w0 at *
  refine (C _).out.mono ?_
  rintro e w' ⟨rfl, rfl⟩
  obtain ⟨q0, q1, q2⟩ := HT0.out.c3
  go_wp2_with fail
  clear q0 q1 q2
  refine (V _).out.mono ?_
  rintro e w1 ⟨rfl, hb⟩
  have HB1 := Lib.hid (bnext HB0.out hb)
  clear hb
  go_wp2_with fail
  go_ret
  exact ⟨rfl, HB1.out⟩
set_option maxHeartbeats 1000000 in
theorem implHasS_no (p : ByteArray) (x y z : Int) (w : World) (hp : ¬ Set27 p) : Calls Tryz.prog 18 #[.string p, .agg #[.int .i64 x, .int .i64 y, .int .i64 z]] w fun e w' => e = .returned (.bool false) ∧ Below w.heap.size w w' := by
  have C := fun w => Lib.hid (implRead_no p w hp)
  clear hp
  go_enter Tryz.func18, Tryz.ntmps18
  go_wp2_with fail
  refine (C _).out.mono ?_
  rintro e w' ⟨rfl, rfl⟩
  go_wp2_with fail
  go_ret
  exact ⟨rfl, (Below.refl _ _).alloc (Nat.le_refl _) _⟩
end Go.Proofs.YtkgdhlpmlpbbkaaGreat

namespace Go.Proofs.YtkgdhlpmlpbbkaaGreat
open Go.RowKit

theorem set27_size {p : ByteArray} (h : Set27 p) : p.size = 27 := by have := h.1; simpa using this

theorem wi_eq (p q : ByteArray) (hp : Set27 p) : ((bs (tb (fun i => hs p.data.toList i && hs q.data.toList i))).toList == p.toList) = wi 27 (hs p.data.toList) (hs q.data.toList) := by
  rw [bytes_eq, Bool.eq_iff_iff, decide_eq_true_eq, wi_iff]
  have e : bs p.data.toList = p := by apply ByteArray.ext; simp [bs]
  constructor
  · intro h i hi hF
    have h2 : tb (fun i => hs p.data.toList i && hs q.data.toList i) = tbn 27 (hs p.data.toList) := by
      rw [tbn_hs hp]
      have := congrArg (fun b : ByteArray => b.data.toList) h
      simpa [bs] using this
    have h3 := tbn_inj h2 i hi
    simpa [hF] using h3
  · intro h
    rw [show tb (fun i => hs p.data.toList i && hs q.data.toList i) = tbn 27 (hs p.data.toList) from tbn_congr fun i hi => by
      cases hF : hs p.data.toList i
      · rfl
      · simp [h i hi hF], tbn_hs hp, e]

/-- The number of a state. -/
def ixs (x y z : Int) : Nat := (x + 3 * y + 9 * z).toNat
theorem ixs_lt {x y z : Int} (h : st3 x y z = true) : ixs x y z < 27 ∧ ((ixs x y z : Nat) : Int) = x + 3 * y + 9 * z := by
  have h := st3_lt h
  unfold ixs; omega

end Go.Proofs.YtkgdhlpmlpbbkaaGreat

namespace Go.Proofs.YtkgdhlpmlpbbkaaGreat
open Go.RowKit Tm Go.Great Classical

/-! ### Plain mathematics -/
theorem frS_congr {B : Nat → Nat → Bool} {S S' : Nat → Bool} (h : ∀ i, i < 27 → S i = S' i) (i : Nat) : frS B S i = frS B S' i := by
  unfold frS
  congr 1
  rw [Bool.eq_iff_iff, upto_iff, upto_iff]
  constructor
  · rintro ⟨j, hj, h1⟩
    exact ⟨j, hj, by rw [← h j hj]; exact h1⟩
  · rintro ⟨j, hj, h1⟩
    exact ⟨j, hj, by rw [h j hj]; exact h1⟩
def giS (T : Nat → Bool) (B : Nat → Nat → Bool) (K : Nat → Bool) : Nat → Bool := fun i => K i && (frS B K i || (true && !T i))
theorem giS_iff {T : Nat → Bool} {B : Nat → Nat → Bool} {K : Nat → Bool} {i : Nat} : giS T B K i = true ↔ K i = true ∧ (frS B K i = true ∨ T i = false) := by
  unfold giS
  cases T i <;> simp
theorem giS_congr {T : Nat → Bool} {B : Nat → Nat → Bool} {H G : Nat → Bool} (h : ∀ i, i < 27 → H i = G i) : ∀ i, i < 27 → giS T B H i = giS T B G i := by
  intro i hi
  unfold giS
  rw [h i hi, frS_congr h]
theorem giS_stop {T : Nat → Bool} {B : Nat → Nat → Bool} {H : Nat → Bool} (e : nb 27 H = nb 27 (giS T B H)) : nb 27 (giS T B (giS T B H)) = nb 27 (giS T B H) := nb_congr (giS_congr fun i hi => (nb_inj e i hi).symm)
theorem giS_le {T : Nat → Bool} {B : Nat → Nat → Bool} {H : Nat → Bool} : nb 27 (giS T B H) ≤ nb 27 H := nb_mono fun _ _ h => (giS_iff.1 h).1
structure WInv (t : Tm) (p : Pg) (F K : Nat → Bool) : Prop where
  top : ∀ i, i < 27 → wF (.whl t p) F i = true → K i = true
  low : ∀ i, i < 27 → K i = true → tst t i = true ∨ F i = true
theorem WInv.start (t : Tm) (p : Pg) (F : Nat → Bool) : WInv t p F (fun i => tst t i || F i) where
  top := by
    intro i _ hw
    cases ht : tst t i
    · rw [Bool.false_or]; exact wF_iff.1 hw i ⟨.refl i, ht⟩
    · rfl
  low := fun i _ h => by rwa [Bool.or_eq_true] at h
theorem WInv.step {t : Tm} {p : Pg} (hp : p.ok false) {F K : Nat → Bool} (h : WInv t p F K) : WInv t p F (giS (tst t) (rT p) K) where
  top := by
    intro i hi hw
    rw [giS_iff]
    refine ⟨h.top i hi hw, ?_⟩
    cases ht : tst t i
    · exact .inr rfl
    · left
      rw [← wF_eq hp hi, wF_iff]
      exact fun m hm => h.top m (fin_lt hp hi hm) (wF_iff.2 fun j hj => wF_iff.1 hw j ⟨.head ⟨ht, hm⟩ hj.1, hj.2⟩)
  low := fun i hi h' => h.low i hi (giS_iff.1 h').1
theorem WInv.done {t : Tm} {p : Pg} (hp : p.ok false) {F K : Nat → Bool} (h : WInv t p F K) (e : nb 27 (giS (tst t) (rT p) K) = nb 27 K) : nb 27 K = nb 27 (wF (.whl t p) F) := by
  refine nb_congr fun i hi => ?_
  rw [Bool.eq_iff_iff]
  constructor
  · intro hk
    rw [wF_iff]
    rintro j ⟨hs, hj⟩
    have hs' : Star (fun u v => mdl.t t u = true ∧ Fin mdl p u v) i j := hs
    clear hs
    have : ∀ u v : Nat, Star (fun u v => mdl.t t u = true ∧ Fin mdl p u v) u v → u < 27 → K u = true → v < 27 ∧ K v = true := by
      intro u v hst
      induction hst with
      | refl => exact fun a b => ⟨a, b⟩
      | head h1 _ ih =>
        intro hu hk
        rename_i u m v _
        have h2 := nb_inj e u hu
        rw [hk] at h2
        have h5 : tst t u = true := h1.1
        rcases (giS_iff.1 h2).2 with h4 | h3
        · rw [← wF_eq hp hu] at h4
          exact ih (fin_lt hp hu h1.2) (wF_iff.1 h4 m h1.2)
        · rw [h3] at h5; cases h5
    obtain ⟨hj27, hkj⟩ := this i j hs' hi hk
    rcases h.low j hj27 hkj with h3 | h4
    · have h5 : tst t j = false := hj
      rw [h3] at h5; cases h5
    · exact h4
  · exact h.top i hi
/-- What a loop keeps. -/
noncomputable def kpS (t : Tm) (p : Pg) (F : Nat → Bool) : Bool := wi 27 (fun i => F i && tst t i) (wF p F)
theorem keep_eq {t : Tm} {p : Pg} (hp : p.ok false) {F : Nat → Bool} : (!upto 27 (fun j => postS (fun i => F i && tst t i) (rT p) 27 j && !F j)) = kpS t p F := by
  unfold kpS
  rw [Bool.eq_iff_iff, Bool.not_eq_true', ← Bool.not_eq_true, upto_iff, wi_iff]
  constructor
  · intro h i hi h1
    rw [wF_eq hp hi]
    unfold frS
    rw [Bool.not_eq_true', ← Bool.not_eq_true, upto_iff]
    rintro ⟨j, hj, h2⟩
    rw [Bool.and_eq_true] at h2
    exact h ⟨j, hj, by rw [Bool.and_eq_true]; exact ⟨upto_iff.2 ⟨i, hi, by rw [Bool.and_eq_true]; exact ⟨h1, h2.1⟩⟩, h2.2⟩⟩
  · rintro h ⟨j, hj, h1⟩
    rw [Bool.and_eq_true] at h1
    obtain ⟨i, hi, h2⟩ := upto_iff.1 h1.1
    rw [Bool.and_eq_true] at h2
    have h3 := h i hi h2.1
    rw [wF_eq hp hi] at h3
    unfold frS at h3
    rw [Bool.not_eq_true', ← Bool.not_eq_true, upto_iff] at h3
    exact h3 ⟨j, hj, by rw [Bool.and_eq_true]; exact ⟨h2.2, h1.2⟩⟩
theorem s_keeps (t : Tm) {p : Pg} (hp : p.ok false) (F : Nat → Bool) : (bits .andNot .i64 (nb 27 (postS (fun i => F i && tst t i) (rT p) 27) : Nat) (nb 27 F : Nat) == 0) = kpS t p F := by rw [s_andNot, eql0, keep_eq hp]

/-! ### WeakestInvariant -/
theorem implWithinB (F G : Nat → Bool) (w : World) : Calls Tryz.prog 60 #[.int .u32 (nb 27 F), .int .u32 (nb 27 G)] w fun e w' => e = .returned (.bool (wi 27 F G)) ∧ Below w.heap.size w w' := (implWithin F G w).mono fun _ _ ⟨h1, h2⟩ => ⟨h1, h2 ▸ Below.refl _ _⟩
end Go.Proofs.YtkgdhlpmlpbbkaaGreat

namespace Go.Proofs.YtkgdhlpmlpbbkaaGreat
open Go.RowKit Tm Go.Great Classical

theorem set27_tb' (F : Nat → Bool) : Set27 (bs (tb F)) := by
  unfold Set27
  rw [show (bs (tb F)).data.toList = tb F by simp [bs]]
  exact bits_tbn 27 F
theorem set27_le (F : Nat → Bool) : (bs (tb F)).size ≤ maxLen := by
  have := set27_tb' F
  have h27 : (bs (tb F)).size = 27 := by have := this.1; simpa using this
  rw [h27]; unfold maxLen; omega

/-! ### TripleHolds -/
theorem wi_upto (S Z : Nat → Bool) : (!upto 27 (fun i => S i && !Z i)) = wi 27 S Z := by
  rw [Bool.eq_iff_iff, Bool.not_eq_true', ← Bool.not_eq_true, upto_iff, wi_iff]
  constructor
  · intro h i hi h1
    cases hz : Z i
    · exact absurd ⟨i, hi, by rw [h1, hz]; rfl⟩ h
    · rfl
  · rintro h ⟨i, hi, h1⟩
    rw [Bool.and_eq_true] at h1
    rw [h i hi h1.1] at h1
    cases h1.2
theorem s_leave (Q T Z : Nat → Bool) : (bits .andNot .i64 (bits .andNot .i64 (nb 27 Q : Nat) (nb 27 T : Nat)) (nb 27 Z : Nat) == 0) = wi 27 (fun i => Q i && !T i) Z := by rw [s_andNot, s_andNot, eql0]; exact wi_upto _ _
end Go.Proofs.YtkgdhlpmlpbbkaaGreat
