/-
  Several small texts in one: Pts Cnd Rel Cl Cm Co Wf SetX SetI SetJ Wi Pl.
-/
import Derived.Test.YthmghadepimcnaaGreatStm
import Derived.Test.YthmghadepimcnaaGreatPgW
import Derived.Test.YthmghadepimcnaaGreatRow
import Derived.Test.YthmghadepimcnaaGreatTopX
import Derived.Test.YthmghadepimcnaaGreatSetW
import Derived.Laws.Rows
import Derived.Laws.Tables
import Derived.Laws.StructEq
import Derived.Great.Walk
import Derived.Great.BuildSlice
import Derived.Deep.RegionHeld3
import Derived.Test.YthmghadepimcnaaGreatAsgR
import Derived.Test.YthmghadepimcnaaGreatTas
import Derived.Deep.AppendLies
import Derived.Outline
import Derived.Test.YthmghadepimcnaaGreatIx0
import Derived.Test.YthmghadepimcnaaGreatSetS
namespace Go.Proofs.YthmghadepimcnaaGreat
open Go.RowKit


/-- The values are those of the statements. -/
def StVs (w : World) (B : Nat) : List Pg → List Value → Prop
  | [], vs => vs = []
  | p :: ps, vs => ∃ T u vs', vs = .iface T (.agg u) :: vs' ∧ StV w B p (.iface T (.agg u)) ∧ StVs w B ps vs'
theorem StVs.below {w w' : World} {B : Nat} (hb : Below w.heap.size w w') : ∀ {ps : List Pg} {vs : List Value}, StVs w B ps vs → StVs w' B ps vs := by
  intro ps
  induction ps with
  | nil => exact fun h => h
  | cons p ps ih => rintro vs ⟨T, u, vs', h, h1, h2⟩; exact ⟨T, u, vs', h, h1.below hb, ih h2⟩
theorem StVs.len {w : World} {B : Nat} : ∀ {ps : List Pg} {vs : List Value}, StVs w B ps vs → vs.length = ps.length := by
  intro ps
  induction ps with
  | nil => intro vs h; rw [show vs = [] from h]; rfl
  | cons p ps ih => rintro vs ⟨T, u, vs', rfl, h1, h2⟩; simp [ih h2]
theorem StVs.append {w : World} {B : Nat} : ∀ {ps qs : List Pg} {vs ws : List Value}, StVs w B ps vs → StVs w B qs ws → StVs w B (ps ++ qs) (vs ++ ws) := by
  intro ps
  induction ps with
  | nil => intro qs vs ws h h2; rw [show vs = [] from h]; exact h2
  | cons p ps ih => rintro qs vs ws ⟨T, u, vs', rfl, h1, h2⟩ h3; exact ⟨T, u, vs' ++ ws, rfl, h1, ih h2 h3⟩
theorem StVs.at {w : World} {B : Nat} : ∀ {ps : List Pg} {vs : List Value} (m : Nat) (hm : m < ps.length), StVs w B ps vs → ∃ T u, vs[m]? = some (.iface T (.agg u)) ∧ StV w B ps[m] (.iface T (.agg u)) := by
  intro ps
  induction ps with
  | nil => intro vs m hm; simp at hm
  | cons p ps ih =>
    rintro vs m hm ⟨T, u, vs', rfl, h1, h2⟩
    cases m with
    | zero => exact ⟨T, u, rfl, h1⟩
    | succ m => exact ih m (by simpa using hm) h2

def PartsPost (kv : List Value) (w : World) (e : Ending) (w' : World) : Prop := ∃ sl, e = .returned sl ∧ Row w' w.heap.size 52 sl kv ∧ Below w.heap.size w w'

theorem parts_none (w : World) : Calls Tryz.prog 214 #[.agg #[]] w (PartsPost [] w) := by
  go_enter Tryz.func214, Tryz.ntmps214
  go_wp2_with fail
  go_ret
  exact ⟨_, rfl, Row.nil _ _ _, (Below.refl _ _).alloc (Nat.le_refl _) _⟩
theorem parts_two (T T2 : TypeId) (u u2 : Array Value) (w : World) : Calls Tryz.prog 210 #[.agg #[.iface T (.agg u), .iface T2 (.agg u2)]] w (PartsPost [.iface T (.agg u), .iface T2 (.agg u2)] w) := by
  have hB := (Below.refl w.heap.size w).alloc (Nat.le_refl _) (.cells #[.iface T (.agg u), .iface T2 (.agg u2)] 91)
  have hz : w.heap.size + 1 = (w.alloc (.cells #[.iface T (.agg u), .iface T2 (.agg u2)] 91)).heap.size := by simp
  have HN := Lib.hid (Row.new (w.alloc (.cells #[.iface T (.agg u), .iface T2 (.agg u2)] 91)) 52 [.iface T (.agg u), .iface T2 (.agg u2)] (by simp))
  have HZ := Lib.hid hz
  clear hz
  go_enter Tryz.func210, Tryz.ntmps210
  go_wp2_with fail
  go_ret
  refine ⟨_, rfl, Row.mono (by rw [HZ.out]; exact HN.out) (by simp), hB.alloc (by simp) _⟩
theorem parts_loop (x y : Value) (c : Int) (a : Option Addr) (n m : Nat) (hx : x = .int .u8 c) (hy : y = .slice a n m) (T : TypeId) (u : Array Value) (w : World) : Calls Tryz.prog 215 #[.agg #[x, y, .iface T (.agg u)]] w (PartsPost [.iface T (.agg u)] w) := by
  subst hx hy
  have hB := (Below.refl w.heap.size w).alloc (Nat.le_refl _) (.cells #[.int .u8 c, .slice a n m, .iface T (.agg u)] 104)
  have hz : w.heap.size + 1 = (w.alloc (.cells #[.int .u8 c, .slice a n m, .iface T (.agg u)] 104)).heap.size := by simp
  have HN := Lib.hid (Row.new (w.alloc (.cells #[.int .u8 c, .slice a n m, .iface T (.agg u)] 104)) 52 [.iface T (.agg u)] (by simp))
  have HZ := Lib.hid hz
  clear hz
  go_enter Tryz.func215, Tryz.ntmps215
  go_wp2_with fail
  go_ret
  refine ⟨_, rfl, Row.mono (by rw [HZ.out]; exact HN.out) (by simp), hB.alloc (by simp) _⟩

theorem inv_parts {w0 : World} {B : Nat} {p : Pg} {T : TypeId} {u : Array Value} (h : StV w0 B p (.iface T (.agg u))) : ∃ (f : Nat) (rc : Value) (kv : List Value),
    (∀ w, (method 329 T (.agg u) "loop.example/productprograms/impl.parts").run Tryz.prog w = .ok (f, rc) w) ∧ (∀ (a : Array Value) w, (callFunc f a).run Tryz.prog w = .ok (.enter f a) w) ∧ StVs w0 B p.pks kv ∧ ∀ w, Calls Tryz.prog f #[rc] w (PartsPost kv w) := by
  cases p with
  | skip => cases h; exact ⟨_, _, [], fun w => by kernel_rfl, fun a w => by kernel_rfl, rfl, fun w => parts_none w⟩
  | asg x e => obtain ⟨a, b, h, _⟩ := h; cases h; exact ⟨_, _, [], fun w => by kernel_rfl, fun a w => by kernel_rfl, rfl, fun w => parts_none w⟩
  | seq p q =>
    obtain ⟨a, b, h, h1, h2⟩ := h; cases h
    obtain ⟨T1, u1, rfl⟩ := h1.forms
    obtain ⟨T2, u2, rfl⟩ := h2.forms
    exact ⟨_, _, [_, _], fun w => by kernel_rfl, fun a w => by kernel_rfl, ⟨_, _, _, rfl, h1, _, _, _, rfl, h2, rfl⟩, fun w => parts_two _ _ _ _ w⟩
  | ite t p q =>
    obtain ⟨x, y, a, b, h, _, h1, h2⟩ := h; cases h
    obtain ⟨T1, u1, rfl⟩ := h1.forms
    obtain ⟨T2, u2, rfl⟩ := h2.forms
    exact ⟨_, _, [_, _], fun w => by kernel_rfl, fun a w => by kernel_rfl, ⟨_, _, _, rfl, h1, _, _, _, rfl, h2, rfl⟩, fun w => parts_two _ _ _ _ w⟩
  | whl t p =>
    obtain ⟨x, y, a, h, h0, h1⟩ := h; cases h
    obtain ⟨T1, u1, rfl⟩ := h1.forms
    obtain ⟨a, n, m, hx, hy⟩ := RepH.forms h0
    exact ⟨_, _, [_], fun w => by kernel_rfl, fun a w => by kernel_rfl, ⟨_, _, _, rfl, h1, rfl⟩, fun w => parts_loop _ _ _ _ _ _ hx hy _ _ w⟩
  | cho p q =>
    obtain ⟨a, b, h, h1, h2⟩ := h; cases h
    obtain ⟨T1, u1, rfl⟩ := h1.forms
    obtain ⟨T2, u2, rfl⟩ := h2.forms
    exact ⟨_, _, [_, _], fun w => by kernel_rfl, fun a w => by kernel_rfl, ⟨_, _, _, rfl, h1, _, _, _, rfl, h2, rfl⟩, fun w => parts_two _ _ _ _ w⟩
  | asm t => obtain ⟨x, y, h, _⟩ := h; cases h; exact ⟨_, _, [], fun w => by kernel_rfl, fun a w => by kernel_rfl, rfl, fun w => parts_none w⟩

/-! ### The head -/
def TxtPost (r : ByteArray) (w : World) (e : Ending) (w' : World) : Prop := e = .returned (.string r) ∧ Below w.heap.size w w'

theorem head_none (w : World) : Calls Tryz.prog 209 #[.agg #[]] w (TxtPost (bs []) w) := by
  go_enter Tryz.func209, Tryz.ntmps209
  go_wp2_with fail
  go_ret
  exact ⟨rfl, (Below.refl _ _).alloc (Nat.le_refl _) _⟩
theorem head_guard (c : Int) (a : Option Addr) (n m : Nat) (r : ByteArray) (w : World) (c1 : ∀ w', Below w.heap.size w w' → Calls Tryz.prog 168 #[.agg #[.int .u8 c, .slice a n m]] w' (TxtPost r w')) :
    Calls Tryz.prog 212 #[.agg #[.int .u8 c, .slice a n m]] w (TxtPost r w) := by
  have C1 := Lib.hid c1
  clear c1
  have hB := (Below.refl w.heap.size w).alloc (Nat.le_refl _) (.cells #[.int .u8 c, .slice a n m] 98)
  go_enter Tryz.func212, Tryz.ntmps212
  go_wp2_with fail
  refine (C1.out _ hB).mono ?_
  rintro e w2 ⟨rfl, hq⟩
  have HB := Lib.hid (bnext hB hq)
  clear hq hB
  go_wp2_with fail
  go_ret
  exact ⟨rfl, HB.out⟩
set_option maxRecDepth 100000 in
set_option maxHeartbeats 2000000 in
theorem head_asg (v : UInt8) (c : Int) (a : Option Addr) (n m : Nat) (r : ByteArray) (hr : r.size ≤ 1000) (w : World) (c1 : ∀ w', Below w.heap.size w w' → Calls Tryz.prog 168 #[.agg #[.int .u8 c, .slice a n m]] w' (TxtPost r w')) :
    Calls Tryz.prog 216 #[.agg #[.string (bs [v]), .int .u8 c, .slice a n m]] w (TxtPost (bs [v] ++ r) w) := by
  have C1 := Lib.hid c1
  clear c1
  have e1 : (bs [v]).size ≤ 1 := by rw [bs_size]; simp
  generalize bs [v] = V at *
  have f0 : ¬ (9223372036854775807 < V.size + r.size) := by omega
  have t0 := Blk.new w #[.string V, .int .u8 c, .slice a n m] 138
  have hB := (Below.refl w.heap.size w).alloc (Nat.le_refl _) (.cells #[.string V, .int .u8 c, .slice a n m] 138)
  go_enter Tryz.func216, Tryz.ntmps216
  go_wp2_with fail
  generalize w.alloc (.cells #[.string V, .int .u8 c, .slice a n m] 138) = W0 at *
  obtain ⟨q0, q1, q2⟩ := t0.c3
  have hB' := hB.drew
  clear t0
  go_region_held3 (fun w' => Below w.heap.size w w' ∧ w'.cell? ⟨w.heap.size, 0, none⟩ = some (.string V) ∧ w'.cell? ⟨w.heap.size, 1, none⟩ = some (.int .u8 c) ∧ w'.cell? ⟨w.heap.size, 2, none⟩ = some (.slice a n m))
    ((go_split_ands; refine ⟨?_, ?_, ?_, ?_⟩ <;> first | assumption | exact ckeep hq (by assumption) | exact Below.trans (by assumption) (hq.mono (by have := Below.size (by assumption : Below w.heap.size w _); omega))))
    (first | (go_at_call 168; (with_reducible refine (C1.out _ ?_).mono ?_); (go_split_ands; assumption); rintro e w2 ⟨rfl, hq⟩))
  go_wp2_with fail
  go_split_ands
  go_ret
  exact ⟨rfl, by assumption⟩

theorem inv_head {w0 : World} {B : Nat} {p : Pg} {T : TypeId} {u : Array Value} (hok : p.ok false) (hn : p.ser.length ≤ 1000) (h : StV w0 B p (.iface T (.agg u))) : ∃ (f : Nat) (rc : Value),
    (∀ w, (method 329 T (.agg u) "loop.example/productprograms/impl.head").run Tryz.prog w = .ok (f, rc) w) ∧ (∀ (a : Array Value) w, (callFunc f a).run Tryz.prog w = .ok (.enter f a) w) ∧ ∀ w, Below w0.heap.size w0 w → Calls Tryz.prog f #[rc] w (TxtPost (bs p.hd) w) := by
  cases p with
  | skip => cases h; exact ⟨_, _, fun w => by kernel_rfl, fun a w => by kernel_rfl, fun w _ => head_none w⟩
  | asg x e =>
    obtain ⟨a, b, h, h0⟩ := h; cases h
    obtain ⟨a, n, m, rfl, rfl⟩ := RepH.forms h0
    simp [Pg.ser] at hn
    refine ⟨216, .agg #[.string (bs [x]), .int .u8 e.head.toNat, .slice a n m], fun w => by kernel_rfl, fun a w => by kernel_rfl, fun w hb => ?_⟩
    have := head_asg x _ a n m (bs e.ser) (by rw [bs_size]; omega) w (fun w' hb' => text_tm e false B w' _ _ _ _ (by omega) hok.2 (h0.below (bnext hb hb')))
    rw [bs_append] at this
    exact this
  | seq p q => obtain ⟨a, b, h, _⟩ := h; cases h; exact ⟨_, _, fun w => by kernel_rfl, fun a w => by kernel_rfl, fun w _ => head_none w⟩
  | ite t p q =>
    obtain ⟨x, y, a, b, h, h0, _⟩ := h; cases h
    obtain ⟨a, n, m, rfl, rfl⟩ := RepH.forms h0
    simp [Pg.ser] at hn
    exact ⟨_, _, fun w => by kernel_rfl, fun a w => by kernel_rfl, fun w hb => head_guard _ _ _ _ _ w (fun w' hb' => text_tm t true B w' _ _ _ _ (by omega) hok.1 (h0.below (bnext hb hb')))⟩
  | whl t p =>
    obtain ⟨x, y, a, h, h0, _⟩ := h; cases h
    obtain ⟨a, n, m, rfl, rfl⟩ := RepH.forms h0
    simp [Pg.ser] at hn
    exact ⟨_, _, fun w => by kernel_rfl, fun a w => by kernel_rfl, fun w hb => head_guard _ _ _ _ _ w (fun w' hb' => text_tm t true B w' _ _ _ _ (by omega) hok.1 (h0.below (bnext hb hb')))⟩
  | cho p q => obtain ⟨a, b, h, _⟩ := h; cases h; exact ⟨_, _, fun w => by kernel_rfl, fun a w => by kernel_rfl, fun w _ => head_none w⟩
  | asm t =>
    obtain ⟨x, y, h, h0⟩ := h; cases h
    obtain ⟨a, n, m, rfl, rfl⟩ := RepH.forms h0
    simp [Pg.ser] at hn
    exact ⟨_, _, fun w => by kernel_rfl, fun a w => by kernel_rfl, fun w hb => head_guard _ _ _ _ _ w (fun w' hb' => text_tm t true B w' _ _ _ _ (by omega) hok (h0.below (bnext hb hb')))⟩
end Go.Proofs.YthmghadepimcnaaGreat

namespace Go.Proofs.YthmghadepimcnaaGreat
open Go.RowKit Tm Go.Great Classical

/-- The states from which all final states of a program are in a set. -/
noncomputable def wF (p : Pg) (F : Nat → Bool) : Nat → Bool := fun i => decide (∀ j, Fin mdl p i j → F j = true)
theorem wF_iff {p : Pg} {F : Nat → Bool} {i : Nat} : wF p F i = true ↔ ∀ j, Fin mdl p i j → F j = true := by unfold wF; exact decide_eq_true_iff
theorem wF_mono {p : Pg} (hp : p.ok false) {F G : Nat → Bool} (h : ∀ i, i < 27 → F i = true → G i = true) {i : Nat} (hi : i < 27) (hw : wF p F i = true) : wF p G i = true := by
  rw [wF_iff] at hw ⊢
  exact fun j hj => h j (fin_lt hp hi hj) (hw j hj)
theorem wF_congr {p : Pg} (hp : p.ok false) {F G : Nat → Bool} (h : ∀ i, i < 27 → F i = G i) {i : Nat} (hi : i < 27) : wF p F i = wF p G i := by
  rw [Bool.eq_iff_iff]
  exact ⟨wF_mono hp (fun i hi e => by rw [← h i hi]; exact e) hi, wF_mono hp (fun i hi e => by rw [h i hi]; exact e) hi⟩
theorem wF_skip {F : Nat → Bool} {i : Nat} : wF .skip F i = F i := by
  rw [Bool.eq_iff_iff, wF_iff]
  exact ⟨fun h => h i rfl, fun h j hj => by rw [show j = i from hj]; exact h⟩
theorem wF_asg {v : UInt8} {e : Tm} {F : Nat → Bool} {i : Nat} : wF (.asg v e) F i = F (asg v e i) := by
  rw [Bool.eq_iff_iff, wF_iff]
  exact ⟨fun h => h _ rfl, fun h j hj => by rw [show j = asg v e i from hj]; exact h⟩
theorem wF_seq {p q : Pg} {F : Nat → Bool} {i : Nat} : wF (.seq p q) F i = wF p (wF q F) i := by
  rw [Bool.eq_iff_iff, wF_iff, wF_iff]
  constructor
  · intro h m hm
    rw [wF_iff]
    exact fun j hj => h j ⟨m, hm, hj⟩
  · rintro h j ⟨m, hm, hj⟩
    exact wF_iff.1 (h m hm) j hj
theorem wF_ite {t : Tm} {p q : Pg} {F : Nat → Bool} {i : Nat} : wF (.ite t p q) F i = (tst t i && wF p F i || wF q F i && !tst t i) := by
  have e : ∀ j, Fin mdl (.ite t p q) i j ↔ if tst t i = true then Fin mdl p i j else Fin mdl q i j := fun j => Iff.rfl
  cases h : tst t i
  · rw [Bool.false_and, Bool.false_or, Bool.not_false, Bool.and_true, Bool.eq_iff_iff, wF_iff, wF_iff]
    exact forall_congr' fun j => by rw [e j, h]; simp
  · rw [Bool.true_and, Bool.not_true, Bool.and_false, Bool.or_false, Bool.eq_iff_iff, wF_iff, wF_iff]
    exact forall_congr' fun j => by rw [e j, h]; simp
theorem wF_cho {p q : Pg} {F : Nat → Bool} {i : Nat} : wF (.cho p q) F i = (wF p F i && wF q F i) := by
  rw [Bool.eq_iff_iff, Bool.and_eq_true, wF_iff, wF_iff, wF_iff]
  exact ⟨fun h => ⟨fun j hj => h j (.inl hj), fun j hj => h j (.inr hj)⟩, fun h j hj => hj.elim (h.1 j) (h.2 j)⟩
theorem wF_asm {t : Tm} {F : Nat → Bool} {i : Nat} : wF (.asm t) F i = (!tst t i || F i) := by
  rw [Bool.eq_iff_iff, wF_iff]
  cases h : tst t i
  · simp only [Bool.not_false, Bool.true_or, iff_true]
    rintro j ⟨h1, _⟩
    have h1' : tst t i = true := h1
    rw [h] at h1'; cases h1'
  · simp only [Bool.not_true, Bool.false_or]
    exact ⟨fun hh => hh i ⟨h, rfl⟩, fun hh j hj => by rw [hj.2]; exact hh⟩

/-! ### A loop -/
/-- One round: the states of a set from which the body leads into it, and those of the other one in which the test is false. -/
def lessS (T F : Nat → Bool) (c : (Nat → Bool) → Nat → Bool) (K : Nat → Bool) : Nat → Bool := fun i => T i && c K i || F i && !T i
structure KInv (t : Tm) (p : Pg) (F K : Nat → Bool) : Prop where
  top : ∀ i, i < 27 → wF (.whl t p) F i = true → K i = true
  falls : ∀ i, i < 27 → lessS (tst t) F (wF p) K i = true → K i = true
theorem KInv.start (t : Tm) (p : Pg) (F : Nat → Bool) : KInv t p F (fun _ => true) := ⟨fun _ _ _ => rfl, fun _ _ _ => rfl⟩
theorem less_iff {T F : Nat → Bool} {c : (Nat → Bool) → Nat → Bool} {K : Nat → Bool} {i : Nat} : lessS T F c K i = true ↔ (T i = true ∧ c K i = true) ∨ (T i = false ∧ F i = true) := by
  unfold lessS
  cases T i <;> simp
theorem KInv.step {t : Tm} {p : Pg} (hp : p.ok false) {F K : Nat → Bool} (h : KInv t p F K) : KInv t p F (lessS (tst t) F (wF p) K) where
  top := by
    intro i hi hw
    rw [less_iff]
    cases ht : tst t i
    · exact .inr ⟨rfl, wF_iff.1 hw i ⟨.refl i, ht⟩⟩
    · refine .inl ⟨rfl, wF_iff.2 fun m hm => h.top m (fin_lt hp hi hm) (wF_iff.2 fun j hj => wF_iff.1 hw j ⟨.head ⟨ht, hm⟩ hj.1, hj.2⟩)⟩
  falls := by
    intro i hi hw
    rw [less_iff] at hw ⊢
    rcases hw with ⟨h1, h2⟩ | h2
    · exact .inl ⟨h1, wF_mono hp (fun m hm => h.falls m hm) hi h2⟩
    · exact .inr h2
theorem KInv.done {t : Tm} {p : Pg} (hp : p.ok false) {F K : Nat → Bool} (h : KInv t p F K) (e : nb 27 (lessS (tst t) F (wF p) K) = nb 27 K) : nb 27 K = nb 27 (wF (.whl t p) F) := by
  refine nb_congr fun i hi => ?_
  rw [Bool.eq_iff_iff]
  constructor
  · intro hk
    rw [wF_iff]
    rintro j ⟨hs, hj⟩
    have hs' : Star (fun u v => mdl.t t u = true ∧ Fin mdl p u v) i j := hs
    clear hs
    have : ∀ u v : Nat, Star (fun u v => mdl.t t u = true ∧ Fin mdl p u v) u v → u < 27 → K u = true → v < 27 ∧ K v = true := by
      intro u v hst
      induction hst with
      | refl => exact fun a b => ⟨a, b⟩
      | head h1 _ ih =>
        intro hu hk
        rename_i u m v _
        have h2 := nb_inj e u hu
        rw [hk] at h2
        rcases less_iff.1 h2 with ⟨_, h4⟩ | ⟨h3, _⟩
        · have hm := fin_lt hp hu h1.2
          exact ih hm (wF_iff.1 h4 m h1.2)
        · have h5 : tst t u = true := h1.1
          rw [h3] at h5; cases h5
    obtain ⟨hj27, hkj⟩ := this i j hs' hi hk
    have h2 := nb_inj e j hj27
    rw [hkj] at h2
    rcases less_iff.1 h2 with ⟨h3, _⟩ | ⟨_, h4⟩
    · have h5 : tst t j = false := hj
      rw [h3] at h5; cases h5
    · exact h4
  · exact h.top i hi
theorem KInv.le {t : Tm} {p : Pg} {F K : Nat → Bool} (h : KInv t p F K) : nb 27 (lessS (tst t) F (wF p) K) ≤ nb 27 K := nb_mono h.falls

/-! ### A condition from a table -/
/-- All states but one. -/
def allBut (k : Nat) : Nat → Bool := fun j => !(j == k)
def tabS (W : Nat → Nat → Bool) (F : Nat → Bool) (k : Nat) : Nat → Bool := fun i => (List.range k).all fun m => F m || W m i
theorem tabS_zero (W : Nat → Nat → Bool) (F : Nat → Bool) : tabS W F 0 = fun _ => true := by funext i; simp [tabS]
theorem tabS_yes {W : Nat → Nat → Bool} {F : Nat → Bool} {k : Nat} (h : F k = true) : tabS W F k = tabS W F (k + 1) := by
  funext i; simp [tabS, List.range_succ, h]
theorem tabS_no {W : Nat → Nat → Bool} {F : Nat → Bool} {k : Nat} (h : F k = false) : (fun i => tabS W F k i && W k i) = tabS W F (k + 1) := by
  funext i; simp [tabS, List.range_succ, h]
theorem tabS_all {p : Pg} (hp : p.ok false) {F : Nat → Bool} {i : Nat} (hi : i < 27) : tabS (fun k => wF p (allBut k)) F 27 i = wF p F i := by
  rw [Bool.eq_iff_iff, wF_iff]
  unfold tabS
  rw [List.all_eq_true]
  constructor
  · intro h j hj
    have hj27 := fin_lt hp hi hj
    have h1 := h j (by simpa using hj27)
    cases hF : F j
    · rw [hF, Bool.false_or, wF_iff] at h1
      have := h1 j hj
      simp [allBut] at this
    · rfl
  · intro h k _
    cases hF : F k
    · rw [Bool.false_or, wF_iff]
      intro j hj
      have h1 := h j hj
      unfold allBut
      cases e : j == k
      · rfl
      · rw [eq_of_beq e, hF] at h1; cases h1
    · rfl
end Go.Proofs.YthmghadepimcnaaGreat

namespace Go.Proofs.YthmghadepimcnaaGreat
open Go.RowKit Go.Great

def relC (k : IntKind) (T : Nat → Nat → Bool) : Array Value := ((List.range 27).map (fun i => Value.int k (nb 27 (T i)))).toArray
theorem relC_size (k : IntKind) (T : Nat → Nat → Bool) : (relC k T).size = 27 := by simp [relC]
theorem relC_get (k : IntKind) (T : Nat → Nat → Bool) {i : Nat} (h : i < 27) : (relC k T)[i]? = some (.int k (nb 27 (T i))) := by
  unfold relC
  simp [h]
theorem relC_congr {k : IntKind} {T T' : Nat → Nat → Bool} (h : ∀ i, i < 27 → ∀ j, j < 27 → T i j = T' i j) : relC k T = relC k T' := by
  unfold relC
  congr 1
  apply List.map_congr_left
  intro i hi
  rw [nb_congr (h i (by simpa using hi))]
theorem relC_one (k : IntKind) (T : Nat → Nat → Bool) : (relC k T).all (·.oneCell') = true := by
  rw [Array.all_eq_true_iff_forall_mem]
  intro v hv
  simp [relC] at hv
  rcases hv with ⟨i, _, rfl⟩
  rfl
def setR (T : Nat → Nat → Bool) (k : Nat) (F : Nat → Bool) : Nat → Nat → Bool := fun i => if i = k then F else T i
theorem relC_set {K : IntKind} {T : Nat → Nat → Bool} {k : Nat} {F : Nat → Bool} (hk : k < 27) : (relC K T).setIfInBounds k (.int K (nb 27 F)) = relC K (setR T k F) := by
  apply Array.ext_getElem?
  intro i
  rw [Array.getElem?_setIfInBounds]
  by_cases e : k = i
  · subst e
    rw [if_pos rfl, relC_get _ _ hk, if_pos (by rw [relC_size]; omega)]
    simp [setR]
  · rw [if_neg e]
    by_cases h : i < 27
    · rw [relC_get _ _ h, relC_get _ _ h]
      have : ¬ i = k := fun h => e h.symm
      simp [setR, this]
    · rw [Array.getElem?_eq_none (by rw [relC_size]; omega), Array.getElem?_eq_none (by rw [relC_size]; omega)]
def noR : Nat → Nat → Bool := fun _ _ => false
/-- The first k rows of one relation, the others of another one. -/
def mixR (k : Nat) (A B : Nat → Nat → Bool) : Nat → Nat → Bool := fun i j => if i < k then A i j else B i j
theorem mixR_zero {K : IntKind} {A B : Nat → Nat → Bool} : relC K (mixR 0 A B) = relC K B := relC_congr fun i _ j _ => by simp [mixR]
theorem mixR_all {K : IntKind} {A B : Nat → Nat → Bool} : relC K (mixR 27 A B) = relC K A := relC_congr fun i hi j _ => by simp [mixR, hi]
theorem mixR_step {K : IntKind} {A B : Nat → Nat → Bool} {k : Nat} (hk : k < 27) : (relC K (mixR k A B)).setIfInBounds k (.int K (nb 27 (A k))) = relC K (mixR (k + 1) A B) := by
  rw [relC_set hk]
  refine relC_congr fun i _ j _ => ?_
  unfold setR mixR
  by_cases e : i = k
  · subst e; simp
  · rw [if_neg e]
    by_cases h : i < k
    · have h2 : i < k + 1 := by omega
      simp [h, h2]
    · have h2 : ¬ i < k + 1 := by omega
      simp [h, h2]
theorem mixR_at {K : IntKind} {A B : Nat → Nat → Bool} {k : Nat} (hk : k < 27) : (relC K (mixR k A B))[k]? = some (.int K (nb 27 (B k))) := by
  rw [relC_get _ _ hk, nb_congr (F := mixR k A B k) (G := B k) fun j _ => by simp [mixR]]

/-- Are two relations the same? -/
def relEq (A B : Nat → Nat → Bool) : Bool := (List.range 27).all fun i => nb 27 (A i) == nb 27 (B i)
theorem relEq_iff {A B : Nat → Nat → Bool} : relEq A B = true ↔ ∀ i, i < 27 → ∀ j, j < 27 → A i j = B i j := by
  unfold relEq
  rw [List.all_eq_true]
  constructor
  · intro h i hi j hj
    have := h i (by simpa using hi)
    exact nb_inj (eq_of_beq this) j hj
  · intro h i hi
    have := nb_congr (h i (by simpa using hi))
    simpa using this
theorem run_equal_rel {P : Program} (w : World) (t e : TypeId) (k : IntKind) (A B : Nat → Nat → Bool) (ht : P.underlying t = some (.array 27 e)) (he : P.underlying e = some (.int k)) (hsz : ∀ w, (sizeOf e).run P w = .ok 1 w) :
    (Op.equalIn 10000 t (.agg (relC k A)) (.agg (relC k B))).run P w = .ok (relEq A B) w := by
  show (Op.equalIn (9998 + 2) t _ _).run P w = _
  rw [relEq, List.range_eq_range', Op.equalIn]
  simp only [Sem.run_bind, run_underlying ht, Result.andThen_ok, hsz, Std.Legacy.Range.forIn_eq_forIn_range', Std.Legacy.Range.size, Nat.sub_zero, Nat.add_sub_cancel, Nat.div_one]
  have hl : ∀ i ∈ List.range' 0 27 1, i < 27 := fun i hi => by simpa using (List.mem_range'_1.1 hi).2
  generalize List.range' 0 27 1 = l at hl ⊢
  induction l with
  | nil => simp
  | cons i l ih =>
    have hi : i < 27 := hl i (by simp)
    have px : (Go.part e (relC k A) (i * 1)).run P w = .ok (.int k (nb 27 (A i))) w := by
      simp [Go.part, isAgg, run_underlying he, relC_get k A hi]
    have py : (Go.part e (relC k B) (i * 1)).run P w = .ok (.int k (nb 27 (B i))) w := by
      simp [Go.part, isAgg, run_underlying he, relC_get k B hi]
    have pe : (Op.equalIn (9998 + 1) e (.int k (nb 27 (A i))) (.int k (nb 27 (B i)))).run P w = .ok (nb 27 (A i) == nb 27 (B i)) w := by
      rw [run_equalIn_int w 9998 e k k _ _ he]
      congr 1
      rw [Bool.eq_iff_iff, beq_iff_eq, beq_iff_eq]
      omega
    simp only [List.forIn_cons, Sem.run_bind, px, py, pe, Result.andThen_ok, List.all_cons]
    cases hb : (nb 27 (A i) == nb 27 (B i))
    · simp
    · simp only [Bool.not_true, Bool.false_eq_true, if_false, Sem.run_pure, Result.andThen_ok, Bool.true_and]
      exact ih fun j hj => hl j (by simp [hj])

/-- The relation of a text of 729 bits. -/
def relS (l : List UInt8) : Nat → Nat → Bool := fun i j => hs l (27 * i + j)
/-- The text of the first k rows. -/
def rowsT (T : Nat → Nat → Bool) : Nat → List UInt8
  | 0 => []
  | k + 1 => rowsT T k ++ tb (T k)
theorem rowsT_len (T : Nat → Nat → Bool) (k : Nat) : (rowsT T k).length = 27 * k := by
  induction k with
  | zero => rfl
  | succ k ih => simp only [rowsT, List.length_append, ih, tb, tbn_length]; omega
theorem rowsT_eq (T : Nat → Nat → Bool) (k : Nat) : rowsT T k = tbn (27 * k) fun m => T (m / 27) (m % 27) := by
  induction k with
  | zero => rfl
  | succ k ih =>
    apply List.ext_getElem?
    intro m
    unfold rowsT
    by_cases h : m < 27 * k
    · rw [List.getElem?_append_left (by rw [rowsT_len]; exact h), ih, tbn_get _ _ _ h, tbn_get _ _ _ (by omega)]
    · rw [List.getElem?_append_right (by rw [rowsT_len]; omega), rowsT_len]
      by_cases h2 : m < 27 * (k + 1)
      · rw [tb, tbn_get _ _ _ (by omega), tbn_get _ _ _ h2]
        have e1 : m / 27 = k := by omega
        have e2 : m % 27 = m - 27 * k := by omega
        rw [e1, e2]
      · rw [tb, List.getElem?_eq_none (by rw [tbn_length]; omega), List.getElem?_eq_none (by rw [tbn_length]; omega)]
/-- The text of a relation. -/
def relT (T : Nat → Nat → Bool) : List UInt8 := rowsT T 27
theorem relT_eq (T : Nat → Nat → Bool) : relT T = tbn 729 fun m => T (m / 27) (m % 27) := rowsT_eq T 27
theorem relT_congr {T T' : Nat → Nat → Bool} (h : ∀ i, i < 27 → ∀ j, j < 27 → T i j = T' i j) : relT T = relT T' := by
  rw [relT_eq, relT_eq]
  refine tbn_congr fun m hm => ?_
  exact h _ (by omega) _ (by omega)
theorem relT_of {l : List UInt8} (f : Bool → Bool) : tbn 729 (fun m => f (hs l m)) = relT (fun i j => f (relS l i j)) := by
  rw [relT_eq]
  refine tbn_congr fun m hm => ?_
  have e : 27 * (m / 27) + m % 27 = m := by omega
  simp only [relS, e]
theorem relT_of2 {l l' : List UInt8} (f : Bool → Bool → Bool) : tbn 729 (fun m => f (hs l m) (hs l' m)) = relT (fun i j => f (relS l i j) (relS l' i j)) := by
  rw [relT_eq]
  refine tbn_congr fun m hm => ?_
  have e : 27 * (m / 27) + m % 27 = m := by omega
  simp only [relS, e]
end Go.Proofs.YthmghadepimcnaaGreat

namespace Go.Proofs.YthmghadepimcnaaGreat
open Go.RowKit Tm Go.Great Classical

/-- The blocks below T and those from c on are as in w1. -/
def Agr (T c : Nat) (w1 w : World) : Prop := w1.heap.size ≤ w.heap.size ∧ ∀ b, (b < T ∨ c ≤ b) → b < w1.heap.size → w.heap[b]? = w1.heap[b]?
theorem Agr.refl (T c : Nat) (w : World) : Agr T c w w := ⟨Nat.le_refl _, fun _ _ _ => rfl⟩
theorem Agr.trans {T c : Nat} {w1 w2 w3 : World} (h : Agr T c w1 w2) (h' : Agr T c w2 w3) : Agr T c w1 w3 := ⟨Nat.le_trans h.1 h'.1, fun b hb hs => (h'.2 b hb (Nat.lt_of_lt_of_le hs h.1)).trans (h.2 b hb hs)⟩
theorem Agr.of {T c : Nat} {w1 w : World} (h : Below w1.heap.size w1 w) : Agr T c w1 w := ⟨h.size, fun b _ hs => h.block b hs⟩
theorem Agr.below {T c : Nat} {w1 w w2 : World} (h : Agr T c w1 w) (hb : Below w.heap.size w w2) : Agr T c w1 w2 := h.trans (.of hb)
theorem Agr.weak {T c c' : Nat} {w1 w : World} (h : Agr T c w1 w) (hc : c ≤ c') : Agr T c' w1 w := ⟨h.1, fun b hb hs => h.2 b (by omega) hs⟩
theorem Agr.blk {T c : Nat} {w1 w : World} (h : Agr T c w1 w) {b : Nat} {cs : Array Value} {t : TypeId} (hc : c ≤ b) (hb : Blk w1 b cs t) : Blk w b cs t := (h.2 b (.inr hc) hb.lt).trans hb
theorem Agr.low {T c : Nat} {w1 w : World} (h : Agr T c w1 w) {b o : Nat} {v : Value} (hb : b < T) (hc : w1.cell? ⟨b, o, none⟩ = some v) : w.cell? ⟨b, o, none⟩ = some v := by
  have := h.2 b (.inl hb) (cell_lt hc)
  unfold World.cell? at *
  rw [this]; exact hc

def CPost (f : (Nat → Bool) → Nat → Bool) (F : Nat → Bool) (w : World) (e : Ending) (w' : World) : Prop := e = .returned (.int .u32 (nb 27 (f F))) ∧ Below w.heap.size w w'
def IsC (T c : Nat) (w1 : World) (fv : Value) (f : (Nat → Bool) → Nat → Bool) : Prop := ∃ fn caps, fv = .func (.func fn) #[] caps ∧ (∀ (a : Array Value) (w : World), (callFunc fn a).run Tryz.prog w = .ok (.enter fn a) w) ∧ ∀ w, Agr T c w1 w → ∀ F, Calls Tryz.prog fn (#[.int .u32 (nb 27 F)] ++ caps) w (CPost f F w)
theorem IsC.weak {T c c' : Nat} {w1 : World} {fv : Value} {f : (Nat → Bool) → Nat → Bool} (h : IsC T c w1 fv f) (hc : c' ≤ c) : IsC T c' w1 fv f := by
  obtain ⟨fn, caps, h1, h2, h3⟩ := h
  exact ⟨fn, caps, h1, h2, fun w ha F => h3 w (ha.weak hc) F⟩
theorem IsC.move {T c : Nat} {w1 w2 : World} {fv : Value} {f : (Nat → Bool) → Nat → Bool} (h : IsC T c w1 fv f) (ha : Agr T c w1 w2) : IsC T c w2 fv f := by
  obtain ⟨fn, caps, h1, h2, h3⟩ := h
  exact ⟨fn, caps, h1, h2, fun w ha' F => h3 w (ha.trans ha') F⟩
theorem IsC.congr {T c : Nat} {w1 : World} {fv : Value} {f g : (Nat → Bool) → Nat → Bool} (h : IsC T c w1 fv f) (e : ∀ F i, i < 27 → f F i = g F i) : IsC T c w1 fv g := by
  obtain ⟨fn, caps, h1, h2, h3⟩ := h
  refine ⟨fn, caps, h1, h2, fun w ha F => (h3 w ha F).mono ?_⟩
  rintro e' w' ⟨rfl, hb⟩
  exact ⟨by rw [nb_congr (e F)], hb⟩

theorem u_and (F G : Nat → Bool) : bits .and .u32 (nb 27 F : Nat) (nb 27 G : Nat) = (nb 27 (fun i => F i && G i) : Nat) := by
  have h := nb_lt27 F; have h' := nb_lt27 G
  rw [u32_and_nat _ _ (by omega) (by omega), nb_and]
theorem u_or (F G : Nat → Bool) : bits .or .u32 (nb 27 F : Nat) (nb 27 G : Nat) = (nb 27 (fun i => F i || G i) : Nat) := by
  have h := nb_lt27 F; have h' := nb_lt27 G
  rw [u32_or_nat _ _ (by omega) (by omega), nb_or2]
theorem u_andNot (F G : Nat → Bool) : bits .andNot .u32 (nb 27 F : Nat) (nb 27 G : Nat) = (nb 27 (fun i => F i && !G i) : Nat) := by
  have h := nb_lt27 F
  have h' := nb_lt27 G
  rw [u32_andNot_nat _ _ (by omega) (by omega)]
  congr 1
  apply nb_of_bits
  · exact Nat.lt_of_le_of_lt Nat.and_le_left h
  · intro i hi
    rw [Nat.testBit_and, show 4294967295 - nb 27 G = 2 ^ 32 - (nb 27 G + 1) by omega, Nat.testBit_two_pow_sub_succ (by omega), nb_bit, nb_bit]
    have h32 : i < 32 := by omega
    simp [hi, h32]
theorem u_less (T F c : Nat → Bool) : bits .or .u32 (bits .and .u32 (nb 27 T : Nat) (nb 27 c : Nat)) (bits .andNot .u32 (nb 27 F : Nat) (nb 27 T : Nat)) = (nb 27 (fun i => T i && c i || F i && !T i) : Nat) := by rw [u_and, u_andNot, u_or]

/-! ### The condition of a loop -/
set_option maxRecDepth 100000 in
set_option maxHeartbeats 4000000 in
theorem loop_call {t : Tm} {p : Pg} (hp : p.ok false) (b2 b3 : Nat) (fv : Value) {T c : Nat} {w1 : World} (hf : IsC T c w1 fv (wF p)) (w : World) (ha : Agr T c w1 w) (h2 : Blk w b2 #[.int .u32 (nb 27 (tst t))] 54) (h3 : Blk w b3 #[fv] 64) (F : Nat → Bool) :
    Calls Tryz.prog 158 #[.int .u32 (nb 27 F), .pointer (some ⟨b2, 0, none⟩), .pointer (some ⟨b3, 0, none⟩)] w (CPost (wF (.whl t p)) F w) := by
  obtain ⟨fn, caps, rfl, hcf, hcall⟩ := hf
  have HC := Lib.hid hcall
  have HA := Lib.hid ha
  have H2 := Lib.hid h2
  have H3 := Lib.hid h3
  have HP := Lib.hid hp
  have e0 : (134217727 : Int) = (nb 27 (fun _ => true) : Nat) := by rw [nb_all]; rfl
  clear hcall ha h2 h3 hp
  go_enter Tryz.func158, Tryz.ntmps158
  go_wp2_with fail
  go_loopw [5] (fun v wr => ∃ K : Nat → Bool, v = .int .u32 (nb 27 K) ∧ Hid (KInv t p F K) ∧ Hid (Below w.heap.size w wr)) (fun v _ => (intOf v).toNat)
  case atStart => exact ⟨fun _ => true, by rw [← e0], KInv.start t p F, Below.refl _ _⟩
  case round =>
    obtain ⟨K, rfl, RI, RB⟩ := hrel
    have q2 := (H2.out.kept RB.out).c1
    have q3 := (H3.out.kept RB.out).c1
    have hbb := (Below.refl wr.heap.size wr).drew
    have RG : ∀ w', Below wr.heap.size wr w' → Below wr.heap.size wr w' ∧ w'.cell? ⟨b2, 0, none⟩ = some (.int .u32 (nb 27 (tst t))) ∧ w'.cell? ⟨b3, 0, none⟩ = some (.func (.func fn) #[] caps) := fun w' h => ⟨h, ckeep h q2, ckeep h q3⟩
    have RG' := Lib.hid RG
    have HU := Lib.hid (u_less (tst t) F (wF p K))
    clear RG
    go_wp2_with fail
    go_region_held3 (fun w' => Below wr.heap.size wr w' ∧ w'.cell? ⟨b2, 0, none⟩ = some (.int .u32 (nb 27 (tst t))) ∧ w'.cell? ⟨b3, 0, none⟩ = some (.func (.func fn) #[] caps))
      ((first
        | exact RG'.out _ (by assumption)
        | (go_split_ands; exact RG'.out _ (bnext (by assumption) hq))))
      (first | ((with_reducible refine (HC.out _ (HA.out.below (bnext RB.out (by go_split_ands; assumption))) _).mono ?_); rintro e w5 ⟨rfl, hq⟩))
    all_goals
      go_split_ands
      rename_i hbw _ _
      rw [HU.out]
      by_cases hE : nb 27 (lessS (tst t) F (wF p) K) = nb 27 K
      · have HD := Lib.hid (RI.out.done HP.out hE)
        have hT : (((nb 27 (fun i => tst t i && wF p K i || F i && !tst t i) : Nat) : Int) == ((nb 27 K : Nat) : Int)) = true := by
          rw [beq_iff_eq]; exact_mod_cast hE
        clear hE
        go_wp2_with fail
        go_ret
        exact ⟨by rw [← HD.out]; rfl, bnext RB.out hbw⟩
      · have hT : (((nb 27 (fun i => tst t i && wF p K i || F i && !tst t i) : Nat) : Int) == ((nb 27 K : Nat) : Int)) = false := by
          rw [beq_eq_false_iff_ne]; exact fun e => hE (by exact_mod_cast e)
        have hle := RI.out.le
        have HE := Lib.hid hE
        clear hE
        go_wp2_with fail
        refine ⟨⟨lessS (tst t) F (wF p) K, rfl, RI.out.step HP.out, bnext RB.out hbw⟩, ?_⟩
        have h3 := HE.out
        show ((nb 27 (lessS (tst t) F (wF p) K) : Nat) : Int).toNat < ((nb 27 K : Nat) : Int).toNat
        omega
/-! ### From a table -/
theorem allBut_bits (k : Nat) : bits .andNot .u32 134217727 (nb 27 (fun j => j == k) : Nat) = (nb 27 (allBut k) : Nat) := by
  have e0 : (134217727 : Int) = (nb 27 (fun _ => true) : Nat) := by rw [nb_all]; rfl
  rw [e0, u_andNot]
  congr 2
theorem infoY (W : Nat → Nat → Bool) : (Tryz.prog.info? 183).map (·.size) = some (relC .u32 W).size := by
  rw [relC_size]
  kernel_rfl
theorem undY : Tryz.prog.underlying 183 = some (.array 27 54) := by kernel_rfl
theorem undSE : Tryz.prog.underlying 54 = some (.int .u32) := by kernel_rfl
theorem sizSE (w : World) : (sizeOf 54).run Tryz.prog w = .ok 1 w := by kernel_rfl
theorem y_alloc {ops : Array Oper} {rest : List Oper} {o : Oper} {a : Act} {w : World} {Q : Exit → Act → World → Prop} (hg : o.guard = none) (ho : o.op = .alloc 183) (dst : Option Tmp) (hdst : o.dst = dst) (N : Nat) (hN : w.heap.size = N)
    (h : wpList Tryz.prog ops Q rest (a.put dst (.pointer (some ⟨N, 0, none⟩))) (w.alloc (.cells (relC .u32 noR) 183))) : wpList Tryz.prog ops Q (o :: rest) a w := by
  subst hN
  refine wpList_runTo hg dst hdst _ _ ?_ h
  simp [execOp, ho, Instr.alloc, Result.andThen, go_sem]
  kernel_rfl
theorem y_index (W : Nat → Nat → Bool) (k : Nat) (hk : k < 27) (w : World) : (Instr.index 183 (.agg (relC .u32 W)) (.int .i64 k)).run Tryz.prog w = .ok (.int .u32 (nb 27 (W k))) w := by
  simp [Instr.index, asIntOf, run_underlying undY, Go.part, isAgg, run_underlying undSE, hk, relC_get _ W hk]
set_option maxRecDepth 100000 in
set_option maxHeartbeats 4000000 in
theorem tab_call (W : Nat → Nat → Bool) (N : Nat) (w : World) (h : Blk w N (relC .u32 W) 183) (F : Nat → Bool) :
    Calls Tryz.prog 159 #[.int .u32 (nb 27 F), .pointer (some ⟨N, 0, none⟩)] w (CPost (fun F => tabS W F 27) F w) := by
  have H := Lib.hid h
  have e0 : (134217727 : Int) = (nb 27 (fun _ => true) : Nat) := by rw [nb_all]; rfl
  clear h
  go_enter Tryz.func159, Tryz.ntmps159
  go_wp2_with (refine wpList_load_row rfl 183 _ rfl N (by rfl) 183 (relC .u32 W) (0, 0) _ H.out undY rfl (infoY _) ?_)
  go_loopw [4, 8] (fun v i wr => ∃ k : Nat, k ≤ 27 ∧ i = .int .i64 k ∧ v = .int .u32 (nb 27 (tabS W F k)) ∧ Hid (Below w.heap.size w wr)) (fun _ i _ => 27 - (intOf i).toNat)
  case atStart => exact ⟨0, by omega, rfl, by rw [tabS_zero, ← e0], Below.refl _ _⟩
  case round =>
    clear e0
    obtain ⟨k, hk, rfl, rfl, RB⟩ := hrel
    by_cases hlt : k < 27
    · have HI := y_index W k hlt
      have C := fun w => Lib.hid (implHasB F k w hlt)
      cases hF : F k <;> rw [hF] at C
      · have HO := Lib.hid (u_and (tabS W F k) (W k))
        go_wp2_with fail
        refine (C _).out.mono ?_
        rintro e w2 ⟨rfl, rfl⟩
        go_wp2_with fail
        exact ⟨⟨k + 1, by omega, by go_num, by rw [HO.out, tabS_no hF], RB⟩, by simp [intOf]; omega⟩
      · go_wp2_with fail
        refine (C _).out.mono ?_
        rintro e w2 ⟨rfl, rfl⟩
        go_wp2_with fail
        exact ⟨⟨k + 1, by omega, by go_num, by rw [tabS_yes hF], RB⟩, by simp [intOf]; omega⟩
    · have hk2 : k = 27 := by omega
      subst hk2
      go_wp2_with fail
      go_ret
      exact ⟨rfl, RB.out⟩
def FunPost (T c : Nat) (f : (Nat → Bool) → Nat → Bool) (w : World) (e : Ending) (w' : World) : Prop := ∃ fn caps, e = .returned (.func (.func fn) #[] caps) ∧ IsC T c w' (.func (.func fn) #[] caps) f ∧ Below w.heap.size w w'
set_option maxRecDepth 100000 in
set_option maxHeartbeats 4000000 in
theorem tabled_any {p : Pg} (hp : p.ok false) {fv : Value} {T c : Nat} {w1 : World} (hf : IsC T c w1 fv (wF p)) (w : World) (ha : Agr T c w1 w) (hc : c ≤ w.heap.size) :
    Calls Tryz.prog 117 #[fv] w (FunPost T c (wF p) w) := by
  obtain ⟨fn, caps, rfl, hcf, hcall⟩ := hf
  have HC := Lib.hid hcall
  have HA := Lib.hid ha
  have HP := Lib.hid hp
  have HCC := Lib.hid hc
  have hmf : ∀ (fn : Fn) (first cap : Array Value) (w : World), (Instr.makeFunc fn first cap).run Tryz.prog w = .ok (.func fn first cap) w := fun _ _ _ _ => rfl
  have K0 := Lib.hid (Blk.new w (relC .u32 noR) 183)
  have KB := Lib.hid ((Below.refl w.heap.size w).alloc (Nat.le_refl _) (.cells (relC .u32 noR) 183))
  clear hcall ha hp hc
  go_enter Tryz.func117, Tryz.ntmps117
  go_wp2_with (refine y_alloc rfl rfl (some 3) rfl w.heap.size rfl ?_)
  generalize w.alloc (.cells (relC .u32 noR) 183) = w0 at *
  go_loopw [5] (fun i wr => ∃ k : Nat, k ≤ 27 ∧ i = .int .i64 k ∧ Hid (Blk wr w.heap.size (relC .u32 (mixR k (fun k => wF p (allBut k)) noR)) 183) ∧ Hid (Below w.heap.size w wr)) (fun i _ => 27 - (intOf i).toNat)
  case atStart => exact ⟨0, by omega, rfl, by rw [mixR_zero]; exact K0, KB⟩
  case round =>
    clear K0 KB
    obtain ⟨k, hk, rfl, R0, RB⟩ := hrel
    by_cases hlt : k < 27
    · have W0 := fun w => Lib.hid (implWith0 k w hlt)
      have HX := Lib.hid (allBut_bits k)
      go_wp2_with fail
      refine (W0 _).out.mono ?_
      rintro e w2 ⟨rfl, rfl⟩
      go_wp2_with fail
      rw [HX.out]
      refine (HC.out _ (HA.out.below RB.out) (allBut k)).mono ?_
      rintro e w2 ⟨rfl, hb⟩
      replace R0 := Lib.hid (R0.out.kept hb)
      replace RB := Lib.hid (bnext RB.out hb)
      have c0 : w2.cell? ⟨w.heap.size, k, none⟩ = some (.int .u32 (nb 27 (noR k))) := (R0.out.cell k).trans (mixR_at hlt)
      have c1 := R0.out.free k
      have RP := R0.out.set k (.int .u32 (nb 27 (wF p (allBut k))))
      rw [mixR_step (A := fun k => wF p (allBut k)) hlt] at RP
      replace RP := Lib.hid RP
      clear hb
      go_wp2_with fail
      exact ⟨⟨k + 1, by omega, by go_num, RP, Lib.hid (RB.out.setCell (p := ⟨w.heap.size, k, none⟩) (Nat.le_refl _) _)⟩, by simp [intOf]; omega⟩
    · have hk2 : k = 27 := by omega
      subst hk2
      have R := R0.out
      rw [mixR_all] at R
      replace R0 := Lib.hid R
      clear R
      go_wp2_with fail
      go_ret
      refine ⟨_, _, rfl, ⟨_, _, rfl, fun a w => by kernel_rfl, fun w5 ha5 F => ?_⟩, RB.out⟩
      refine (tab_call (fun k => wF p (allBut k)) w.heap.size w5 (ha5.blk HCC.out R0.out) F).mono ?_
      rintro e w6 ⟨rfl, hb⟩
      exact ⟨by rw [nb_congr fun i hi => tabS_all HP.out (F := F) hi], hb⟩
end Go.Proofs.YthmghadepimcnaaGreat

namespace Go.Proofs.YthmghadepimcnaaGreat
open Go.RowKit Tm Go.Great Classical

set_option maxRecDepth 100000 in
set_option maxHeartbeats 4000000 in
theorem skip_call (F : Nat → Bool) (w : World) : Calls Tryz.prog 121 #[.int .u32 (nb 27 F)] w (CPost (wF .skip) F w) := by
  go_enter Tryz.func121, Tryz.ntmps121
  go_wp2_with fail
  go_ret
  exact ⟨by rw [nb_congr (F := wF .skip F) (G := F) fun i _ => wF_skip]; rfl, Below.refl _ _⟩
set_option maxRecDepth 100000 in
set_option maxHeartbeats 4000000 in
theorem asm_call (t : Tm) (b : Nat) (F : Nat → Bool) (w : World) (h : Blk w b #[.int .u32 (nb 27 (fun i => !tst t i))] 54) : Calls Tryz.prog 120 #[.int .u32 (nb 27 F), .pointer (some ⟨b, 0, none⟩)] w (CPost (wF (.asm t)) F w) := by
  have q0 := h.c1
  have HO := Lib.hid (u_or (fun i => !tst t i) F)
  have HE := Lib.hid (nb_congr (k := 27) (F := wF (.asm t) F) (G := fun i => !tst t i || F i) fun i _ => wF_asm)
  clear h
  go_enter Tryz.func120, Tryz.ntmps120
  go_wp2_with fail
  go_ret
  exact ⟨by rw [HE.out, ← HO.out]; rfl, Below.refl _ _⟩
set_option maxRecDepth 100000 in
set_option maxHeartbeats 4000000 in
theorem asg_call {v : UInt8} (hv : v = 120 ∨ v = 121 ∨ v = 122) {t : Tm} (ht : Ok false false t) {B : Nat} {xc : Int} {ya : Option Addr} {yn ym : Nat} (b : Nat) (F : Nat → Bool) (w : World) (h : Blk w b #[.string (bs [v]), .int .u8 xc, .slice ya yn ym] 138) (hr : RepT w B t (.int .u8 xc) (.slice ya yn ym)) : Calls Tryz.prog 113 #[.int .u32 (nb 27 F), .pointer (some ⟨b, 0, none⟩)] w (CPost (wF (.asg v t)) F w) := by
  obtain ⟨q0, q1, q2⟩ := h.c3
  have hmf : ∀ (fn : Fn) (first cap : Array Value) (w : World), (Instr.makeFunc fn first cap).run Tryz.prog w = .ok (.func fn first cap) w := fun _ _ _ _ => rfl
  have HP := Lib.hid (implPre F (.agg #[.string (bs [v]), .int .u8 xc, .slice ya yn ym]) (asg v t) w (fun i hi => asg_lt ht hi) (fun w' hb i hi => implStep v hv i t B xc ya yn ym w' hi ht (hr.below hb)))
  have HE := Lib.hid (nb_congr (k := 27) (F := wF (.asg v t) F) (G := fun i => F (asg v t i)) fun i _ => wF_asg)
  clear h hr
  go_enter Tryz.func113, Tryz.ntmps113
  go_wp2_with fail
  refine HP.out.mono ?_
  rintro e w1 ⟨rfl, hb⟩
  have KB := Lib.hid hb
  clear hb q0 q1 q2
  go_wp2_with fail
  go_ret
  exact ⟨by rw [HE.out]; rfl, KB.out⟩
set_option maxRecDepth 100000 in
set_option maxHeartbeats 4000000 in
theorem seq_call {p q : Pg} {f1 f2 : Value} {T c : Nat} {w1 : World} (h1 : IsC T c w1 f1 (wF p)) (h2 : IsC T c w1 f2 (wF q)) (N g cap : Nat) (hcap : 2 ≤ cap) (F : Nat → Bool) (w : World) (ha : Agr T c w1 w) (q0 : w.cell? ⟨N, 0, none⟩ = some (.slice (some ⟨g, 0, none⟩) 2 cap)) (r0 : w.cell? ⟨g, 0, none⟩ = some f1) (r1 : w.cell? ⟨g, 1, none⟩ = some f2) : Calls Tryz.prog 114 #[.int .u32 (nb 27 F), .pointer (some ⟨N, 0, none⟩)] w (CPost (wF (.seq p q)) F w) := by
  obtain ⟨fn1, caps1, rfl, hcf1, hcall1⟩ := h1
  obtain ⟨fn2, caps2, rfl, hcf2, hcall2⟩ := h2
  have H1 := Lib.hid hcall1
  have H2 := Lib.hid hcall2
  have HA := Lib.hid ha
  have hbb := (Below.refl w.heap.size w).drew
  have HE := Lib.hid (nb_congr (k := 27) (F := wF (.seq p q) F) (G := wF p (wF q F)) fun i _ => wF_seq)
  have RG : ∀ w', Below w.heap.size w w' → Below w.heap.size w w' ∧ w'.cell? ⟨N, 0, none⟩ = some (.slice (some ⟨g, 0, none⟩) 2 cap) ∧ w'.cell? ⟨g, 0, none⟩ = some (.func (.func fn1) #[] caps1) ∧ w'.cell? ⟨g, 1, none⟩ = some (.func (.func fn2) #[] caps2) := fun w' h => ⟨h, ckeep h q0, ckeep h r0, ckeep h r1⟩
  have RG' := Lib.hid RG
  have hp1 : ¬ cap = 1 := by omega
  clear hcall1 hcall2 ha RG
  go_enter Tryz.func114, Tryz.ntmps114
  go_wp2_with fail
  go_region_held3 (fun w' => Below w.heap.size w w' ∧ w'.cell? ⟨N, 0, none⟩ = some (.slice (some ⟨g, 0, none⟩) 2 cap) ∧ w'.cell? ⟨g, 0, none⟩ = some (.func (.func fn1) #[] caps1) ∧ w'.cell? ⟨g, 1, none⟩ = some (.func (.func fn2) #[] caps2))
    ((first
      | exact RG'.out _ (by assumption)
      | (go_split_ands; exact RG'.out _ (bnext (by assumption) hq))))
    (first | ((with_reducible refine (H2.out _ (HA.out.below (by go_split_ands; assumption)) _).mono ?_); rintro e w5 ⟨rfl, hq⟩) | ((with_reducible refine (H1.out _ (HA.out.below (by go_split_ands; assumption)) _).mono ?_); rintro e w5 ⟨rfl, hq⟩))
  all_goals
    go_split_ands
    rename_i hbw _ _ _ 
    go_wp2_with fail
    go_ret
    exact ⟨by rw [HE.out]; rfl, hbw⟩
set_option maxRecDepth 100000 in
set_option maxHeartbeats 4000000 in
theorem cho_call {p q : Pg} {f1 f2 : Value} {T c : Nat} {w1 : World} (h1 : IsC T c w1 f1 (wF p)) (h2 : IsC T c w1 f2 (wF q)) (N g cap : Nat) (hcap : 2 ≤ cap) (F : Nat → Bool) (w : World) (ha : Agr T c w1 w) (q0 : w.cell? ⟨N, 0, none⟩ = some (.slice (some ⟨g, 0, none⟩) 2 cap)) (r0 : w.cell? ⟨g, 0, none⟩ = some f1) (r1 : w.cell? ⟨g, 1, none⟩ = some f2) : Calls Tryz.prog 118 #[.int .u32 (nb 27 F), .pointer (some ⟨N, 0, none⟩)] w (CPost (wF (.cho p q)) F w) := by
  obtain ⟨fn1, caps1, rfl, hcf1, hcall1⟩ := h1
  obtain ⟨fn2, caps2, rfl, hcf2, hcall2⟩ := h2
  have H1 := Lib.hid hcall1
  have H2 := Lib.hid hcall2
  have HA := Lib.hid ha
  have hbb := (Below.refl w.heap.size w).drew
  have HE := Lib.hid (nb_congr (k := 27) (F := wF (.cho p q) F) (G := fun i => wF p F i && wF q F i) fun i _ => wF_cho)
  have HO := Lib.hid (u_and (wF p F) (wF q F))
  have RG : ∀ w', Below w.heap.size w w' → Below w.heap.size w w' ∧ w'.cell? ⟨N, 0, none⟩ = some (.slice (some ⟨g, 0, none⟩) 2 cap) ∧ w'.cell? ⟨g, 0, none⟩ = some (.func (.func fn1) #[] caps1) ∧ w'.cell? ⟨g, 1, none⟩ = some (.func (.func fn2) #[] caps2) := fun w' h => ⟨h, ckeep h q0, ckeep h r0, ckeep h r1⟩
  have RG' := Lib.hid RG
  have hp1 : ¬ cap = 1 := by omega
  clear hcall1 hcall2 ha RG
  go_enter Tryz.func118, Tryz.ntmps118
  go_wp2_with fail
  go_region_held3 (fun w' => Below w.heap.size w w' ∧ w'.cell? ⟨N, 0, none⟩ = some (.slice (some ⟨g, 0, none⟩) 2 cap) ∧ w'.cell? ⟨g, 0, none⟩ = some (.func (.func fn1) #[] caps1) ∧ w'.cell? ⟨g, 1, none⟩ = some (.func (.func fn2) #[] caps2))
    ((first
      | exact RG'.out _ (by assumption)
      | (go_split_ands; exact RG'.out _ (bnext (by assumption) hq))))
    (first | ((with_reducible refine (H1.out _ (HA.out.below (by go_split_ands; assumption)) _).mono ?_); rintro e w5 ⟨rfl, hq⟩) | ((with_reducible refine (H2.out _ (HA.out.below (by go_split_ands; assumption)) _).mono ?_); rintro e w5 ⟨rfl, hq⟩))
  all_goals
    go_split_ands
    rename_i hbw _ _ _ 
    go_wp2_with fail
    go_ret
    exact ⟨by rw [HE.out, ← HO.out]; rfl, hbw⟩
set_option maxRecDepth 100000 in
set_option maxHeartbeats 4000000 in
theorem ite_call {p q : Pg} {t : Tm} {f1 f2 : Value} {T c : Nat} {w1 : World} (h1 : IsC T c w1 f1 (wF p)) (h2 : IsC T c w1 f2 (wF q)) (b : Nat) (N g cap : Nat) (hcap : 2 ≤ cap) (F : Nat → Bool) (w : World) (hbx : Blk w b #[.int .u32 (nb 27 (tst t))] 54) (ha : Agr T c w1 w) (q0 : w.cell? ⟨N, 0, none⟩ = some (.slice (some ⟨g, 0, none⟩) 2 cap)) (r0 : w.cell? ⟨g, 0, none⟩ = some f1) (r1 : w.cell? ⟨g, 1, none⟩ = some f2) : Calls Tryz.prog 115 #[.int .u32 (nb 27 F), .pointer (some ⟨b, 0, none⟩), .pointer (some ⟨N, 0, none⟩)] w (CPost (wF (.ite t p q)) F w) := by
  obtain ⟨fn1, caps1, rfl, hcf1, hcall1⟩ := h1
  obtain ⟨fn2, caps2, rfl, hcf2, hcall2⟩ := h2
  have H1 := Lib.hid hcall1
  have H2 := Lib.hid hcall2
  have HA := Lib.hid ha
  have hbb := (Below.refl w.heap.size w).drew
  have q1 := hbx.c1
  have HE := Lib.hid (nb_congr (k := 27) (F := wF (.ite t p q) F) (G := fun i => tst t i && wF p F i || wF q F i && !tst t i) fun i _ => wF_ite)
  have HO := Lib.hid (u_less (tst t) (wF q F) (wF p F))
  clear hbx
  have RG : ∀ w', Below w.heap.size w w' → Below w.heap.size w w' ∧ w'.cell? ⟨N, 0, none⟩ = some (.slice (some ⟨g, 0, none⟩) 2 cap) ∧ w'.cell? ⟨g, 0, none⟩ = some (.func (.func fn1) #[] caps1) ∧ w'.cell? ⟨g, 1, none⟩ = some (.func (.func fn2) #[] caps2) ∧ w'.cell? ⟨b, 0, none⟩ = some (.int .u32 (nb 27 (tst t))) := fun w' h => ⟨h, ckeep h q0, ckeep h r0, ckeep h r1, ckeep h q1⟩
  have RG' := Lib.hid RG
  have hp1 : ¬ cap = 1 := by omega
  clear hcall1 hcall2 ha RG
  go_enter Tryz.func115, Tryz.ntmps115
  go_wp2_with fail
  go_region_held3 (fun w' => Below w.heap.size w w' ∧ w'.cell? ⟨N, 0, none⟩ = some (.slice (some ⟨g, 0, none⟩) 2 cap) ∧ w'.cell? ⟨g, 0, none⟩ = some (.func (.func fn1) #[] caps1) ∧ w'.cell? ⟨g, 1, none⟩ = some (.func (.func fn2) #[] caps2) ∧ w'.cell? ⟨b, 0, none⟩ = some (.int .u32 (nb 27 (tst t))))
    ((first
      | exact RG'.out _ (by assumption)
      | (go_split_ands; exact RG'.out _ (bnext (by assumption) hq))))
    (first | ((with_reducible refine (H1.out _ (HA.out.below (by go_split_ands; assumption)) _).mono ?_); rintro e w5 ⟨rfl, hq⟩) | ((with_reducible refine (H2.out _ (HA.out.below (by go_split_ands; assumption)) _).mono ?_); rintro e w5 ⟨rfl, hq⟩))
  all_goals
    go_split_ands
    rename_i hbw _ _ _ _ 
    go_wp2_with fail
    go_ret
    exact ⟨by rw [HE.out, ← HO.out]; rfl, hbw⟩
set_option maxRecDepth 100000 in
set_option maxHeartbeats 4000000 in
theorem loopCond_any {t : Tm} {p : Pg} (hp : p.ok false) {fn : FuncId} {caps : Array Value} {T c : Nat} {w1 : World} (hf : IsC T c w1 (.func (.func fn) #[] caps) (wF p)) (w : World) (ha : Agr T c w1 w) (hc : c ≤ w.heap.size) :
    Calls Tryz.prog 116 #[.int .u32 (nb 27 (tst t)), .func (.func fn) #[] caps] w (FunPost T c (wF (.whl t p)) w) := by
  have HF := Lib.hid (hf.move ha)
  have HP := Lib.hid hp
  have HC := Lib.hid hc
  have hmf : ∀ (fn : Fn) (first cap : Array Value) (w : World), (Instr.makeFunc fn first cap).run Tryz.prog w = .ok (.func fn first cap) w := fun _ _ _ _ => rfl
  have k0 := Blk.new w #[.int .u32 (nb 27 (tst t))] 54
  have b0 := (Below.refl w.heap.size w).alloc (Nat.le_refl _) (.cells #[.int .u32 (nb 27 (tst t))] 54)
  have k1 := Blk.new (w.alloc (.cells #[.int .u32 (nb 27 (tst t))] 54)) #[.func (.func fn) #[] caps] 64
  rw [show (w.alloc (.cells #[.int .u32 (nb 27 (tst t))] 54)).heap.size = w.heap.size + 1 by simp] at k1
  have K0 := Lib.hid (k0.alloc (.cells #[.func (.func fn) #[] caps] 64))
  have K1 := Lib.hid k1
  have KB := Lib.hid (b0.alloc (by simp) (.cells #[.func (.func fn) #[] caps] 64))
  clear hf ha hp hc k0 b0 k1
  go_enter Tryz.func116, Tryz.ntmps116
  go_wp2_with fail
  generalize (w.alloc (.cells #[.int .u32 (nb 27 (tst t))] 54)).alloc (.cells #[.func (.func fn) #[] caps] 64) = w2 at *
  go_ret
  refine ⟨_, _, rfl, ⟨_, _, rfl, fun a w => by kernel_rfl, fun w5 ha5 F => ?_⟩, KB.out⟩
  exact loop_call HP.out w.heap.size (w.heap.size + 1) _ (HF.out.move (Agr.of KB.out)) w5 ha5 (ha5.blk HC.out K0.out) (ha5.blk (by have := HC.out; omega) K1.out) F
end Go.Proofs.YthmghadepimcnaaGreat

namespace Go.Proofs.YthmghadepimcnaaGreat
open Go.RowKit Tm Go.Great Classical

def El (T N : Nat) (w : World) (v : Value) (q : Pg) (fv : Value) : Prop := ∃ cj wj, N < cj ∧ IsC T cj wj fv (wF q) ∧ Agr T cj wj w ∧ ∀ g, v.ownBlock = some g → g < cj ∨ wj.heap.size ≤ g
def Els (T N : Nat) (w : World) (v : Value) (ps : List Pg) (fvs : List Value) : Prop := fvs.length = ps.length ∧ ∀ (j : Nat) (q : Pg), ps[j]? = some q → ∃ fv : Value, fvs[j]? = some fv ∧ El T N w v q fv
theorem Els.nil (T N : Nat) (w : World) (v : Value) : Els T N w v [] [] := ⟨rfl, fun j q h => by simp at h⟩
theorem El.isC {T N : Nat} {w : World} {v : Value} {q : Pg} {fv : Value} (h : El T N w v q fv) : IsC T N w fv (wF q) := by
  obtain ⟨cj, wj, h1, h2, h3, _⟩ := h
  exact (h2.move h3).weak (Nat.le_of_lt h1)
/-- One part more. -/
theorem Els.step {T N R : Nat} {wr w2 w4 : World} {v v' : Value} {ps : List Pg} {fvs : List Value} {q : Pg} {fv x : Value} {o : Obj} {g' : Nat} (h : Els T N wr v ps fvs) (hTN : T ≤ N) (hNR : N < R) (hR : R ≤ wr.heap.size)
    (hv : ∀ g, v.ownBlock = some g → R ≤ g ∧ g < wr.heap.size) (hb : Below wr.heap.size wr w2) (hc : IsC T wr.heap.size w2 fv (wF q)) (hg : (w2.alloc o).grownBy w4 v.ownBlock) (hv' : v'.ownBlock = some g') (hat : v.ownBlock = some g' ∨ g' = w2.heap.size + 1) :
    Els T N (w4.setCell ⟨N, 0, none⟩ x) v' (ps ++ [q]) (fvs ++ [fv]) := by
  have hb2 := hb.size
  have hs3 : (w2.alloc o).heap.size = w2.heap.size + 1 := by simp
  have hs4 := hg.size
  have far : ∀ b, b < w2.heap.size → b ≠ N → some b ≠ v.ownBlock → (w4.setCell ⟨N, 0, none⟩ x).heap[b]? = w2.heap[b]? := by
    intro b h1 h2 h3
    rw [Below.heap_setCell _ _ _ _ h2, hg.block b (by omega) h3, Below.heap_alloc _ _ _ h1]
  have hsz : w2.heap.size ≤ (w4.setCell ⟨N, 0, none⟩ x).heap.size := by simp; omega
  refine ⟨by simp [h.1], fun j p hj => ?_⟩
  by_cases hjk : j < ps.length
  · rw [List.getElem?_append_left hjk] at hj
    obtain ⟨f, hf, cj, wj, h1, h2, h3, h4⟩ := h.2 j p hj
    refine ⟨f, by rw [List.getElem?_append_left (by rw [h.1]; exact hjk)]; exact hf, cj, wj, h1, h2, ⟨by have := h3.1; omega, ?_⟩, ?_⟩
    · intro b hbb hbs
      have h31 := h3.1
      rw [far b (by omega) (by omega) ?_, hb.block b (by omega)]
      · exact h3.2 b hbb hbs
      · intro e
        have hg4 := h4 b e.symm
        have hg5 := hv b e.symm
        omega
    · intro g hgg
      rw [hv'] at hgg
      injection hgg with hgg
      subst hgg
      rcases hat with hat | hat
      · exact h4 _ hat
      · have := h3.1
        right; omega
  · have hjl : j = ps.length := by
      rcases Nat.lt_or_ge j (ps ++ [q]).length with hl | hl
      · simp at hl; omega
      · rw [List.getElem?_eq_none hl] at hj; cases hj
    subst hjl
    rw [List.getElem?_append_right (Nat.le_refl _), Nat.sub_self] at hj
    simp at hj
    subst hj
    refine ⟨fv, by rw [← h.1, List.getElem?_append_right (Nat.le_refl _), Nat.sub_self]; rfl, wr.heap.size, w2, by omega, hc, ⟨hsz, ?_⟩, ?_⟩
    · intro b hbb hbs
      refine far b hbs (by omega) ?_
      intro e
      have hg5 := hv b e.symm
      omega
    · intro g hgg
      rw [hv'] at hgg
      injection hgg with hgg
      subst hgg
      rcases hat with hat | hat
      · exact .inl (hv _ hat).2
      · right; omega
/-- The forms of a row of parts. -/
theorem Row.any {w : World} {B : Nat} {T : TypeId} {v : Value} {xs : List Value} (h : Row w B T v xs) : ∃ a cap, v = .slice a xs.length cap ∧ xs.length ≤ cap ∧ ∀ (j : Nat) (u : Value), xs[j]? = some u → ∃ g, a = some ⟨g, 0, none⟩ ∧ B ≤ g ∧ w.cell? ⟨g, j, none⟩ = some u := by
  rcases h.cases with ⟨h1, h2⟩ | ⟨g, cap, h1, h2, h3, h4⟩
  · subst h2
    exact ⟨none, 0, h1, Nat.le_refl _, fun j u hu => by simp at hu⟩
  · exact ⟨_, cap, h1, h3, fun j u hu => ⟨g, rfl, h2, h4 j u hu⟩⟩
def Fr (N : Nat) (w1 w : World) : Prop := w1.heap.size ≤ w.heap.size ∧ ∀ b, b < w1.heap.size → b ≠ N → w.heap[b]? = w1.heap[b]?
theorem Fr.refl (N : Nat) (w : World) : Fr N w w := ⟨Nat.le_refl _, fun _ _ _ => rfl⟩
theorem Fr.cell {N : Nat} {w1 w : World} (h : Fr N w1 w) {b o : Nat} {v : Value} (hb : b ≠ N) (hc : w1.cell? ⟨b, o, none⟩ = some v) : w.cell? ⟨b, o, none⟩ = some v := by
  have := h.2 b (cell_lt hc) hb
  unfold World.cell? at *
  rw [this]; exact hc
theorem Fr.step {N : Nat} {w1 wr w2 w4 : World} {v : Value} {x : Value} {o : Obj} (h : Fr N w1 wr) (hb : Below wr.heap.size wr w2) (hg : (w2.alloc o).grownBy w4 v.ownBlock) (hv : ∀ g, v.ownBlock = some g → w1.heap.size ≤ g) : Fr N w1 (w4.setCell ⟨N, 0, none⟩ x) := by
  have h1 := h.1
  have h2 := hb.size
  have h3 := hg.size
  have h4 : (w2.alloc o).heap.size = w2.heap.size + 1 := by simp
  refine ⟨by simp; omega, fun b hb1 hb2 => ?_⟩
  rw [Below.heap_setCell _ _ _ _ hb2, hg.block b (by omega) (fun e => by have := hv b e.symm; omega), Below.heap_alloc _ _ _ (by omega), hb.block b (by omega)]
  exact h.2 b hb1 hb2
theorem Agr.high {T c : Nat} {w1 w : World} (h : Agr T c w1 w) {b o : Nat} {v : Value} (hb : c ≤ b) (hc : w1.cell? ⟨b, o, none⟩ = some v) : w.cell? ⟨b, o, none⟩ = some v := by
  have := h.2 b (.inr hb) (cell_lt hc)
  unfold World.cell? at *
  rw [this]; exact hc
/-- A term below T stays. -/
theorem Agr.rep {w0 w' w : World} {c B : Nat} {t : Tm} {x y : Value} (h : Agr w0.heap.size c w' w) (hb : Below w0.heap.size w0 w') (hr : RepT w0 B t x y) : RepT w B t x y :=
  hr.keep (fun b o _ _ hc => h.low (cell_lt hc) ((hb.cell (p := ⟨b, o, none⟩) (cell_lt hc)).trans hc)) (Nat.le_refl _)
def CondOk (q : Pg) : Prop := ∀ (w0 : World) (B : Nat) (T : TypeId) (u : Array Value), StV w0 B q (.iface T (.agg u)) → ∀ w, Below w0.heap.size w0 w → Calls Tryz.prog 64 #[.iface T (.agg u)] w (FunPost w0.heap.size w.heap.size (wF q) w)
theorem infoC : (Tryz.prog.info? 64).map (fun i => (i.zero, i.size, i.bytes)) = some (some .nilFunc, 1, 8) := by kernel_rfl
set_option maxRecDepth 1000000 in
set_option maxHeartbeats 8000000 in
theorem cond_of (p : Pg) (hp : p.ok false) (ih : ∀ q, q ∈ p.pks → CondOk q) (hn : p.pks.length ≤ 2) : CondOk p := by
  intro w0 B T u hst w hb0
  obtain ⟨f, rc, kv, m1, m2, hkv, hparts⟩ := inv_parts hst
  have hlen := StVs.len hkv
  have HKV := Lib.hid hkv
  have HST := Lib.hid hst
  have HB0 := Lib.hid hb0
  have HIH := Lib.hid ih
  have HP := Lib.hid hp
  have k0 := Blk.new w #[.slice none 0 0] 136
  have K0 := Lib.hid k0
  have KB := Lib.hid ((Below.refl w.heap.size w).alloc (Nat.le_refl _) (.cells #[.slice none 0 0] 136))
  have kz : (w.alloc (.cells #[.slice none 0 0] 136)).heap.size = w.heap.size + 1 := by simp
  have KZ := Lib.hid kz
  have HPA := Lib.hid hparts
  clear hkv hst hb0 ih hp k0 hparts kz
  go_enter Tryz.func64, Tryz.ntmps64
  go_wp2_with fail
  generalize w.alloc (.cells #[.slice none 0 0] 136) = wa at *
  refine (HPA.out _).mono ?_
  rintro e w1 ⟨sl, rfl, hrow, hb⟩
  have FR1 := Lib.hid hb
  replace K0 := Lib.hid (K0.out.kept hb)
  replace KB := Lib.hid (bnext KB.out hb)
  obtain ⟨a, cap, rfl, hcap, hcell⟩ := hrow.any
  rw [hlen] at hcap ⊢
  have HC := Lib.hid hcell
  have HL := Lib.hid hlen
  have HR : Hid (w.heap.size < w1.heap.size) := by have := hb.size; have := KZ.out; show w.heap.size < w1.heap.size; omega
  clear hb hrow hcell hlen m1 m2
  go_wp2_with fail
  obtain ⟨i0, hi0, hz0, hz1, hz2⟩ := info_parts infoC
  go_loopw [17] (fun i wr => ∃ k : Nat, k ≤ p.pks.length ∧ i = .int .i64 k ∧ ∃ (fvs : List Value) (v : Value), Hid (Els w0.heap.size w.heap.size wr v (p.pks.take k) fvs) ∧ Hid (Blk wr w.heap.size #[v] 136) ∧ Hid (Row wr w1.heap.size 64 v fvs) ∧ Hid (Below w.heap.size w wr) ∧ Hid (Fr w.heap.size w1 wr)) (fun i _ => p.pks.length - (intOf i).toNat)
  case atStart => exact ⟨0, by omega, rfl, [], .slice none 0 0, Els.nil _ _ _ _, K0, Row.nil _ _ _, KB, Fr.refl _ _⟩
  case round =>
    clear K0 KB FR1
    obtain ⟨k, hk, rfl, fvs, v, RE, R0, RR, RB, RF⟩ := hrel
    by_cases hlt : k < p.pks.length
    · obtain ⟨T1, u1, e1, hst1⟩ := StVs.at k hlt HKV.out
      obtain ⟨g, rfl, hg1, hg2⟩ := HC.out k _ e1
      have cg := RF.out.cell (show g ≠ w.heap.size by have := KZ.out; omega) hg2
      have c0 : wr.drew.cell? ⟨w.heap.size, 0, none⟩ = some v := R0.out.drew.c1
      have HK2 : Hid (fvs.length ≤ 2) := by have := RE.out.1; rw [List.length_take] at this; show fvs.length ≤ 2; omega
      have HFL : Hid (fvs.length = k) := by have := RE.out.1; rw [List.length_take] at this; show fvs.length = k; omega
      have CQ := Lib.hid (HIH.out p.pks[k] (List.getElem_mem hlt) w0 B T1 u1 hst1 wr.drew ((HB0.out.trans (RB.out.mono HB0.out.size)).drew))
      have ROW := Lib.hid (RR.out.kept (Below.refl wr.heap.size wr).drew)
      have KD := Lib.hid R0.out.drew
      have HBD := Lib.hid ((Below.refl wr.heap.size wr).drew)
      have HFS := Lib.hid RF.out.1
      have HOW : Hid (∀ g, v.ownBlock = some g → w1.heap.size ≤ g ∧ g < wr.heap.size) := World.ownsRow.lt RR.out
      have HNE : Hid (some w.heap.size ≠ v.ownBlock) := fun e => by have := (HOW.out _ e.symm).1; have := HR.out; omega
      have HTN : Hid (w0.heap.size ≤ w.heap.size) := HB0.out.size
      have hk0 : (0 : Int) ≤ (k : Int) := by omega
      have hk1 : (k : Int) < (p.pks.length : Int) := by omega
      clear e1 hst1 hg1 hg2
      go_wp2_with fail
      clear cg
      refine wp_region_any (by kernel_rfl) ?_
      change wpAny _ _ _ _ _ _ _ (World.drew _)
      refine wpAny_ready (rs := [0, 1]) (by kernel_rfl) (by simp) ?_
      refine AllReady.cons rfl (fun K hK => ?_) (AllReady.cons rfl (fun K hK => ?_) AllReady.nil)
      · go_simp
        refine hK _ _ ?_; clear hK K
        refine wpAny_ready (rs := [1]) (by kernel_rfl) (by simp) ?_
        refine AllReady.cons rfl (fun K hK => ?_) AllReady.nil
        go_simp
        refine hK _ _ ?_; clear hK K
        refine wpAny_ready (rs := [2]) (by kernel_rfl) (by simp) ?_
        refine AllReady.cons rfl (fun K hK => ?_) AllReady.nil
        go_simp
        go_wp2_with ((with_reducible refine CQ.out.mono ?_); rintro e w5 ⟨fn, caps, rfl, hic, hq⟩)
        have c5 := ckeep hq c0
        have l5 := cell_lt c5
        have ROW5 := Lib.hid (ROW.out.kept hq)
        have K5 := Lib.hid (KD.out.kept hq)
        have HIC := Lib.hid hic
        have HQ := Lib.hid hq
        clear hic hq
        refine wpAny_ready (rs := [3]) (by kernel_rfl) (by simp) ?_
        refine AllReady.cons rfl (fun K hK => ?_) AllReady.nil
        go_simp
        refine hK _ _ ?_; clear hK K
        refine wpAny_ready (rs := [4]) (by kernel_rfl) (by simp) ?_
        refine AllReady.cons rfl (fun K hK => ?_) AllReady.nil
        refine step_append_lies _ (by rfl) _ _ _ (by rfl) w1.heap.size 64 i0 _ 1 8 Tryz.underlying136 hi0 hz0 hz1 hz2 rfl (by omega) v fvs.length fvs (by rfl) (World.ownsRow.alloc ROW5.out _) ⟨w5.heap.size, 0, none⟩ 1 1 [.func (.func fn) #[] caps] (by rfl) (by rfl) (World.news_of_block (cs := #[.func (.func fn) #[] caps]) (t := 64) (fr := (0, 0)) (heap_alloc_new w5 _)) (by simp [Value.oneCell']) (by omega) (by unfold maxLen; have := HK2.out; omega) (by have := HK2.out; omega) (by have := HFS.out; have := HBD.out.size; have := HQ.out.size; simp; omega) (w5.heap.size + 1) (by simp) ?_
        intro g6 cap6 w6 hown hgrow hat hlt6
        refine hK _ _ ?_; clear hK K
        have c6 : w6.cell? ⟨w.heap.size, 0, none⟩ = some v := hgrow.cell (ckeep ((Below.refl _ _).alloc (Nat.le_refl _) _) c5) HNE.out
        have f6 : w6.frozen? ⟨w.heap.size, 0, none⟩ = false := (hgrow.frozen_far ⟨w.heap.size, 0, none⟩ (by simp; omega) HNE.out).trans ((K5.out.alloc _).free 0)
        refine wpAny_ready (rs := [5]) (by kernel_rfl) (by simp) ?_
        refine AllReady.cons rfl (fun K hK => ?_) AllReady.nil
        go_simp
        refine hK _ _ ?_; clear hK K
        refine wpAny_done (by kernel_rfl) ?_ _
        have HE := Lib.hid (Els.step (x := .slice (some ⟨g6, 0, none⟩) (fvs.length + 1) cap6) (v' := .slice (some ⟨g6, 0, none⟩) (fvs.length + 1) cap6) (g' := g6) RE.out HTN.out HR.out HFS.out HOW.out (by have := HQ.out; exact HBD.out.trans this) HIC.out hgrow rfl hat)
        have HF := Lib.hid (Fr.step (x := .slice (some ⟨g6, 0, none⟩) (fvs.length + 1) cap6) RF.out (HBD.out.trans HQ.out) hgrow (fun g hg => (HOW.out g hg).1))
        have hb7 := bnext RB.out (HBD.out.trans HQ.out)
        have hb8 := (hb7.alloc hb7.size (.cells #[.func (.func fn) #[] caps] 64)).grown hgrow (by have := hb7.size; simp; omega) (fun k hk => by have := (HOW.out k hk).1; have := HR.out; omega)
        have hb9 := Lib.hid (hb8.setCell (p := ⟨w.heap.size, 0, none⟩) (Nat.le_refl _) (.slice (some ⟨g6, 0, none⟩) (fvs.length + 1) cap6))
        have k7 : Blk w6 w.heap.size #[v] 136 := (hgrow.block w.heap.size (by have := K5.out.lt; simp; omega) HNE.out).trans (K5.out.alloc _)
        have k8 := Lib.hid (k7.set 0 (.slice (some ⟨g6, 0, none⟩) (fvs.length + 1) cap6))
        have r7 : Row w6 w1.heap.size 64 (.slice (some ⟨g6, 0, none⟩) (fvs.length + 1) cap6) (fvs ++ [.func (.func fn) #[] caps]) := by
          unfold Row
          rw [List.length_append]
          exact hown
        have r8 := Lib.hid (show Row _ _ _ _ _ from ownsRow_setCell_below r7 (a := ⟨w.heap.size, 0, none⟩) HR.out (.slice (some ⟨g6, 0, none⟩) (fvs.length + 1) cap6))
        have e8 : p.pks.take (k + 1) = p.pks.take k ++ [p.pks[k]] := by rw [List.take_add_one, List.getElem?_eq_getElem hlt]; rfl
        clear hb7 hb8 k7 r7 hown hgrow hat
        go_wp2_with fail
        exact ⟨⟨k + 1, by omega, by go_num, _, _, by rw [e8]; exact HE, k8, r8, hb9, HF⟩, by simp [intOf]; omega⟩
      · go_simp
        refine hK _ _ ?_; clear hK K
        refine wpAny_ready (rs := [0, 2]) (by kernel_rfl) (by simp) ?_
        refine AllReady.cons rfl (fun K hK => ?_) (AllReady.cons rfl (fun K hK => ?_) AllReady.nil)
        · go_simp
          refine hK _ _ ?_; clear hK K
          refine wpAny_ready (rs := [2]) (by kernel_rfl) (by simp) ?_
          refine AllReady.cons rfl (fun K hK => ?_) AllReady.nil
          go_simp
          go_wp2_with ((with_reducible refine CQ.out.mono ?_); rintro e w5 ⟨fn, caps, rfl, hic, hq⟩)
          have c5 := ckeep hq c0
          have l5 := cell_lt c5
          have ROW5 := Lib.hid (ROW.out.kept hq)
          have K5 := Lib.hid (KD.out.kept hq)
          have HIC := Lib.hid hic
          have HQ := Lib.hid hq
          clear hic hq
          refine wpAny_ready (rs := [3]) (by kernel_rfl) (by simp) ?_
          refine AllReady.cons rfl (fun K hK => ?_) AllReady.nil
          go_simp
          refine hK _ _ ?_; clear hK K
          refine wpAny_ready (rs := [4]) (by kernel_rfl) (by simp) ?_
          refine AllReady.cons rfl (fun K hK => ?_) AllReady.nil
          refine step_append_lies _ (by rfl) _ _ _ (by rfl) w1.heap.size 64 i0 _ 1 8 Tryz.underlying136 hi0 hz0 hz1 hz2 rfl (by omega) v fvs.length fvs (by rfl) (World.ownsRow.alloc ROW5.out _) ⟨w5.heap.size, 0, none⟩ 1 1 [.func (.func fn) #[] caps] (by rfl) (by rfl) (World.news_of_block (cs := #[.func (.func fn) #[] caps]) (t := 64) (fr := (0, 0)) (heap_alloc_new w5 _)) (by simp [Value.oneCell']) (by omega) (by unfold maxLen; have := HK2.out; omega) (by have := HK2.out; omega) (by have := HFS.out; have := HBD.out.size; have := HQ.out.size; simp; omega) (w5.heap.size + 1) (by simp) ?_
          intro g6 cap6 w6 hown hgrow hat hlt6
          refine hK _ _ ?_; clear hK K
          have c6 : w6.cell? ⟨w.heap.size, 0, none⟩ = some v := hgrow.cell (ckeep ((Below.refl _ _).alloc (Nat.le_refl _) _) c5) HNE.out
          have f6 : w6.frozen? ⟨w.heap.size, 0, none⟩ = false := (hgrow.frozen_far ⟨w.heap.size, 0, none⟩ (by simp; omega) HNE.out).trans ((K5.out.alloc _).free 0)
          refine wpAny_ready (rs := [5]) (by kernel_rfl) (by simp) ?_
          refine AllReady.cons rfl (fun K hK => ?_) AllReady.nil
          go_simp
          refine hK _ _ ?_; clear hK K
          refine wpAny_done (by kernel_rfl) ?_ _
          have HE := Lib.hid (Els.step (x := .slice (some ⟨g6, 0, none⟩) (fvs.length + 1) cap6) (v' := .slice (some ⟨g6, 0, none⟩) (fvs.length + 1) cap6) (g' := g6) RE.out HTN.out HR.out HFS.out HOW.out (by have := HQ.out; exact HBD.out.trans this) HIC.out hgrow rfl hat)
          have HF := Lib.hid (Fr.step (x := .slice (some ⟨g6, 0, none⟩) (fvs.length + 1) cap6) RF.out (HBD.out.trans HQ.out) hgrow (fun g hg => (HOW.out g hg).1))
          have hb7 := bnext RB.out (HBD.out.trans HQ.out)
          have hb8 := (hb7.alloc hb7.size (.cells #[.func (.func fn) #[] caps] 64)).grown hgrow (by have := hb7.size; simp; omega) (fun k hk => by have := (HOW.out k hk).1; have := HR.out; omega)
          have hb9 := Lib.hid (hb8.setCell (p := ⟨w.heap.size, 0, none⟩) (Nat.le_refl _) (.slice (some ⟨g6, 0, none⟩) (fvs.length + 1) cap6))
          have k7 : Blk w6 w.heap.size #[v] 136 := (hgrow.block w.heap.size (by have := K5.out.lt; simp; omega) HNE.out).trans (K5.out.alloc _)
          have k8 := Lib.hid (k7.set 0 (.slice (some ⟨g6, 0, none⟩) (fvs.length + 1) cap6))
          have r7 : Row w6 w1.heap.size 64 (.slice (some ⟨g6, 0, none⟩) (fvs.length + 1) cap6) (fvs ++ [.func (.func fn) #[] caps]) := by
            unfold Row
            rw [List.length_append]
            exact hown
          have r8 := Lib.hid (show Row _ _ _ _ _ from ownsRow_setCell_below r7 (a := ⟨w.heap.size, 0, none⟩) HR.out (.slice (some ⟨g6, 0, none⟩) (fvs.length + 1) cap6))
          have e8 : p.pks.take (k + 1) = p.pks.take k ++ [p.pks[k]] := by rw [List.take_add_one, List.getElem?_eq_getElem hlt]; rfl
          clear hb7 hb8 k7 r7 hown hgrow hat
          go_wp2_with fail
          exact ⟨⟨k + 1, by omega, by go_num, _, _, by rw [e8]; exact HE, k8, r8, hb9, HF⟩, by simp [intOf]; omega⟩
        · go_simp
          go_wp2_with ((with_reducible refine CQ.out.mono ?_); rintro e w5 ⟨fn, caps, rfl, hic, hq⟩)
          have c5 := ckeep hq c0
          have l5 := cell_lt c5
          have ROW5 := Lib.hid (ROW.out.kept hq)
          have K5 := Lib.hid (KD.out.kept hq)
          have HIC := Lib.hid hic
          have HQ := Lib.hid hq
          clear hic hq
          refine wpAny_ready (rs := [0, 3]) (by kernel_rfl) (by simp) ?_
          refine AllReady.cons rfl (fun K hK => ?_) (AllReady.cons rfl (fun K hK => ?_) AllReady.nil)
          · go_simp
            refine hK _ _ ?_; clear hK K
            refine wpAny_ready (rs := [3]) (by kernel_rfl) (by simp) ?_
            refine AllReady.cons rfl (fun K hK => ?_) AllReady.nil
            go_simp
            refine hK _ _ ?_; clear hK K
            refine wpAny_ready (rs := [4]) (by kernel_rfl) (by simp) ?_
            refine AllReady.cons rfl (fun K hK => ?_) AllReady.nil
            refine step_append_lies _ (by rfl) _ _ _ (by rfl) w1.heap.size 64 i0 _ 1 8 Tryz.underlying136 hi0 hz0 hz1 hz2 rfl (by omega) v fvs.length fvs (by rfl) (World.ownsRow.alloc ROW5.out _) ⟨w5.heap.size, 0, none⟩ 1 1 [.func (.func fn) #[] caps] (by rfl) (by rfl) (World.news_of_block (cs := #[.func (.func fn) #[] caps]) (t := 64) (fr := (0, 0)) (heap_alloc_new w5 _)) (by simp [Value.oneCell']) (by omega) (by unfold maxLen; have := HK2.out; omega) (by have := HK2.out; omega) (by have := HFS.out; have := HBD.out.size; have := HQ.out.size; simp; omega) (w5.heap.size + 1) (by simp) ?_
            intro g6 cap6 w6 hown hgrow hat hlt6
            refine hK _ _ ?_; clear hK K
            have c6 : w6.cell? ⟨w.heap.size, 0, none⟩ = some v := hgrow.cell (ckeep ((Below.refl _ _).alloc (Nat.le_refl _) _) c5) HNE.out
            have f6 : w6.frozen? ⟨w.heap.size, 0, none⟩ = false := (hgrow.frozen_far ⟨w.heap.size, 0, none⟩ (by simp; omega) HNE.out).trans ((K5.out.alloc _).free 0)
            refine wpAny_ready (rs := [5]) (by kernel_rfl) (by simp) ?_
            refine AllReady.cons rfl (fun K hK => ?_) AllReady.nil
            go_simp
            refine hK _ _ ?_; clear hK K
            refine wpAny_done (by kernel_rfl) ?_ _
            have HE := Lib.hid (Els.step (x := .slice (some ⟨g6, 0, none⟩) (fvs.length + 1) cap6) (v' := .slice (some ⟨g6, 0, none⟩) (fvs.length + 1) cap6) (g' := g6) RE.out HTN.out HR.out HFS.out HOW.out (by have := HQ.out; exact HBD.out.trans this) HIC.out hgrow rfl hat)
            have HF := Lib.hid (Fr.step (x := .slice (some ⟨g6, 0, none⟩) (fvs.length + 1) cap6) RF.out (HBD.out.trans HQ.out) hgrow (fun g hg => (HOW.out g hg).1))
            have hb7 := bnext RB.out (HBD.out.trans HQ.out)
            have hb8 := (hb7.alloc hb7.size (.cells #[.func (.func fn) #[] caps] 64)).grown hgrow (by have := hb7.size; simp; omega) (fun k hk => by have := (HOW.out k hk).1; have := HR.out; omega)
            have hb9 := Lib.hid (hb8.setCell (p := ⟨w.heap.size, 0, none⟩) (Nat.le_refl _) (.slice (some ⟨g6, 0, none⟩) (fvs.length + 1) cap6))
            have k7 : Blk w6 w.heap.size #[v] 136 := (hgrow.block w.heap.size (by have := K5.out.lt; simp; omega) HNE.out).trans (K5.out.alloc _)
            have k8 := Lib.hid (k7.set 0 (.slice (some ⟨g6, 0, none⟩) (fvs.length + 1) cap6))
            have r7 : Row w6 w1.heap.size 64 (.slice (some ⟨g6, 0, none⟩) (fvs.length + 1) cap6) (fvs ++ [.func (.func fn) #[] caps]) := by
              unfold Row
              rw [List.length_append]
              exact hown
            have r8 := Lib.hid (show Row _ _ _ _ _ from ownsRow_setCell_below r7 (a := ⟨w.heap.size, 0, none⟩) HR.out (.slice (some ⟨g6, 0, none⟩) (fvs.length + 1) cap6))
            have e8 : p.pks.take (k + 1) = p.pks.take k ++ [p.pks[k]] := by rw [List.take_add_one, List.getElem?_eq_getElem hlt]; rfl
            clear hb7 hb8 k7 r7 hown hgrow hat
            go_wp2_with fail
            exact ⟨⟨k + 1, by omega, by go_num, _, _, by rw [e8]; exact HE, k8, r8, hb9, HF⟩, by simp [intOf]; omega⟩
          · go_simp
            refine hK _ _ ?_; clear hK K
            refine wpAny_ready (rs := [0]) (by kernel_rfl) (by simp) ?_
            refine AllReady.cons rfl (fun K hK => ?_) AllReady.nil
            go_simp
            refine hK _ _ ?_; clear hK K
            refine wpAny_ready (rs := [4]) (by kernel_rfl) (by simp) ?_
            refine AllReady.cons rfl (fun K hK => ?_) AllReady.nil
            refine step_append_lies _ (by rfl) _ _ _ (by rfl) w1.heap.size 64 i0 _ 1 8 Tryz.underlying136 hi0 hz0 hz1 hz2 rfl (by omega) v fvs.length fvs (by rfl) (World.ownsRow.alloc ROW5.out _) ⟨w5.heap.size, 0, none⟩ 1 1 [.func (.func fn) #[] caps] (by rfl) (by rfl) (World.news_of_block (cs := #[.func (.func fn) #[] caps]) (t := 64) (fr := (0, 0)) (heap_alloc_new w5 _)) (by simp [Value.oneCell']) (by omega) (by unfold maxLen; have := HK2.out; omega) (by have := HK2.out; omega) (by have := HFS.out; have := HBD.out.size; have := HQ.out.size; simp; omega) (w5.heap.size + 1) (by simp) ?_
            intro g6 cap6 w6 hown hgrow hat hlt6
            refine hK _ _ ?_; clear hK K
            have c6 : w6.cell? ⟨w.heap.size, 0, none⟩ = some v := hgrow.cell (ckeep ((Below.refl _ _).alloc (Nat.le_refl _) _) c5) HNE.out
            have f6 : w6.frozen? ⟨w.heap.size, 0, none⟩ = false := (hgrow.frozen_far ⟨w.heap.size, 0, none⟩ (by simp; omega) HNE.out).trans ((K5.out.alloc _).free 0)
            refine wpAny_ready (rs := [5]) (by kernel_rfl) (by simp) ?_
            refine AllReady.cons rfl (fun K hK => ?_) AllReady.nil
            go_simp
            refine hK _ _ ?_; clear hK K
            refine wpAny_done (by kernel_rfl) ?_ _
            have HE := Lib.hid (Els.step (x := .slice (some ⟨g6, 0, none⟩) (fvs.length + 1) cap6) (v' := .slice (some ⟨g6, 0, none⟩) (fvs.length + 1) cap6) (g' := g6) RE.out HTN.out HR.out HFS.out HOW.out (by have := HQ.out; exact HBD.out.trans this) HIC.out hgrow rfl hat)
            have HF := Lib.hid (Fr.step (x := .slice (some ⟨g6, 0, none⟩) (fvs.length + 1) cap6) RF.out (HBD.out.trans HQ.out) hgrow (fun g hg => (HOW.out g hg).1))
            have hb7 := bnext RB.out (HBD.out.trans HQ.out)
            have hb8 := (hb7.alloc hb7.size (.cells #[.func (.func fn) #[] caps] 64)).grown hgrow (by have := hb7.size; simp; omega) (fun k hk => by have := (HOW.out k hk).1; have := HR.out; omega)
            have hb9 := Lib.hid (hb8.setCell (p := ⟨w.heap.size, 0, none⟩) (Nat.le_refl _) (.slice (some ⟨g6, 0, none⟩) (fvs.length + 1) cap6))
            have k7 : Blk w6 w.heap.size #[v] 136 := (hgrow.block w.heap.size (by have := K5.out.lt; simp; omega) HNE.out).trans (K5.out.alloc _)
            have k8 := Lib.hid (k7.set 0 (.slice (some ⟨g6, 0, none⟩) (fvs.length + 1) cap6))
            have r7 : Row w6 w1.heap.size 64 (.slice (some ⟨g6, 0, none⟩) (fvs.length + 1) cap6) (fvs ++ [.func (.func fn) #[] caps]) := by
              unfold Row
              rw [List.length_append]
              exact hown
            have r8 := Lib.hid (show Row _ _ _ _ _ from ownsRow_setCell_below r7 (a := ⟨w.heap.size, 0, none⟩) HR.out (.slice (some ⟨g6, 0, none⟩) (fvs.length + 1) cap6))
            have e8 : p.pks.take (k + 1) = p.pks.take k ++ [p.pks[k]] := by rw [List.take_add_one, List.getElem?_eq_getElem hlt]; rfl
            clear hb7 hb8 k7 r7 hown hgrow hat
            go_wp2_with fail
            exact ⟨⟨k + 1, by omega, by go_num, _, _, by rw [e8]; exact HE, k8, r8, hb9, HF⟩, by simp [intOf]; omega⟩
    · have hk2 : k = p.pks.length := by omega
      subst hk2
      have RE' := RE.out
      rw [List.take_length] at RE'
      replace RE := Lib.hid RE'
      have BW := Lib.hid (HB0.out.trans (RB.out.mono HB0.out.size))
      have hmf : ∀ (fn : Fn) (first cap : Array Value) (w : World), (Instr.makeFunc fn first cap).run Tryz.prog w = .ok (.func fn first cap) w := fun _ _ _ _ => rfl
      clear HKV HC HIH HPA HL hk hlt RE'
      cases p with
      | skip =>
        have e := HST.out; cases e
        have t1 := tas_asg_skip (.agg #[])
        have t2 := tas_seq_skip (.agg #[])
        have t3 := tas_ite_skip (.agg #[])
        have t4 := tas_whl_skip (.agg #[])
        have t5 := tas_cho_skip (.agg #[])
        have t6 := tas_asm_skip (.agg #[])
        go_wp2_with fail
        go_ret
        exact ⟨_, _, rfl, ⟨_, _, rfl, fun a w => by kernel_rfl, fun w5 ha F => skip_call F w5⟩, RB.out⟩
      | asg x e =>
        obtain ⟨a, b, e1, hr⟩ := HST.out
        cases e1
        obtain ⟨ya, yn, ym, rfl, rfl⟩ := hr.forms
        have HR1 := Lib.hid hr.rep
        obtain ⟨hv, ht⟩ := HP.out
        have t1 := tas_asg_asg (.agg #[.string (bs [x]), .int .u8 e.head.toNat, .slice ya yn ym])
        have bx := Lib.hid ((Below.refl wr.heap.size wr).alloc (Nat.le_refl _) (.cells #[.string (bs [x]), .int .u8 e.head.toNat, .slice ya yn ym] 138))
        have kx := Lib.hid (Blk.new wr #[.string (bs [x]), .int .u8 e.head.toNat, .slice ya yn ym] 138)
        clear hr
        go_wp2_with fail
        go_ret
        refine ⟨_, _, rfl, ⟨_, _, rfl, fun a w => by kernel_rfl, fun w5 ha F => ?_⟩, bnext RB.out bx.out⟩
        exact asg_call (varB_cases hv) ht wr.heap.size F w5 (ha.blk RB.out.size kx.out) (ha.rep (bnext BW.out bx.out) HR1.out)
      | seq p q =>
        obtain ⟨a, b, e1, hs1, hs2⟩ := HST.out
        cases e1
        obtain ⟨T1, u1, rfl⟩ := hs1.forms
        obtain ⟨T2, u2, rfl⟩ := hs2.forms
        obtain ⟨f1, hf1, E1⟩ := RE.out.2 0 p rfl
        obtain ⟨f2, hf2, E2⟩ := RE.out.2 1 q rfl
        have I1 := Lib.hid E1.isC
        have I2 := Lib.hid E2.isC
        obtain ⟨ar, cap, rfl, hcap, hcell⟩ := RR.out.any
        obtain ⟨g, rfl, hg1, hg2⟩ := hcell 0 f1 hf1
        obtain ⟨g', eg, _, hg3⟩ := hcell 1 f2 hf2
        have eg' : g' = g := by cases eg; rfl
        subst eg'
        have hlen : fvs.length = 2 := RE.out.1
        rw [hlen] at R0 hcap
        have t1 := tas_asg_seq (.agg #[.iface T1 (.agg u1), .iface T2 (.agg u2)])
        have t2 := tas_seq_seq (.agg #[.iface T1 (.agg u1), .iface T2 (.agg u2)])
        have bx := Lib.hid ((Below.refl wr.heap.size wr).alloc (Nat.le_refl _) (.cells #[.iface T1 (.agg u1), .iface T2 (.agg u2)] 139))
        have HG := Lib.hid (And.intro hg1 (And.intro hg2 hg3))
        have HCA := Lib.hid hcap
        clear hcell hg1 hg2 hg3 eg hs1 hs2 E1 E2 hf1 hf2 RE RR hcap
        go_wp2_with fail
        go_ret
        refine ⟨_, _, rfl, ⟨_, _, rfl, fun a w => by kernel_rfl, fun w5 ha F => ?_⟩, bnext RB.out bx.out⟩
        have hgc : w.heap.size ≤ g' := by have := HG.out.1; have := HR.out; omega
        have A5 := (Agr.of bx.out).trans ha
        exact seq_call I1.out I2.out w.heap.size g' cap HCA.out F w5 A5 (A5.high (Nat.le_refl _) (R0.out.cell 0)) (A5.high hgc HG.out.2.1) (A5.high hgc HG.out.2.2)
      | ite t p q =>
        obtain ⟨x, y, a, b, e1, hr, hs1, hs2⟩ := HST.out
        cases e1
        obtain ⟨T1, u1, rfl⟩ := hs1.forms
        obtain ⟨T2, u2, rfl⟩ := hs2.forms
        obtain ⟨ya, yn, ym, rfl, rfl⟩ := hr.forms
        have HR1 := Lib.hid hr.rep
        obtain ⟨ht, _, _⟩ := HP.out
        obtain ⟨f1, hf1, E1⟩ := RE.out.2 0 p rfl
        obtain ⟨f2, hf2, E2⟩ := RE.out.2 1 q rfl
        have I1 := Lib.hid E1.isC
        have I2 := Lib.hid E2.isC
        obtain ⟨ar, cap, rfl, hcap, hcell⟩ := RR.out.any
        obtain ⟨g, rfl, hg1, hg2⟩ := hcell 0 f1 hf1
        obtain ⟨g', eg, _, hg3⟩ := hcell 1 f2 hf2
        have eg' : g' = g := by cases eg; rfl
        subst eg'
        have hlen : fvs.length = 2 := RE.out.1
        rw [hlen] at R0 hcap
        have t1 := tas_asg_ite (.agg #[.int .u8 t.head.toNat, .slice ya yn ym, .iface T1 (.agg u1), .iface T2 (.agg u2)])
        have t2 := tas_seq_ite (.agg #[.int .u8 t.head.toNat, .slice ya yn ym, .iface T1 (.agg u1), .iface T2 (.agg u2)])
        have t3 := tas_ite_ite (.agg #[.int .u8 t.head.toNat, .slice ya yn ym, .iface T1 (.agg u1), .iface T2 (.agg u2)])
        have bx := Lib.hid ((Below.refl wr.heap.size wr).alloc (Nat.le_refl _) (.cells #[.int .u8 t.head.toNat, .slice ya yn ym, .iface T1 (.agg u1), .iface T2 (.agg u2)] 141))
        have HG := Lib.hid (And.intro hg1 (And.intro hg2 hg3))
        have HCA := Lib.hid hcap
        have S := Lib.hid (implStates t B t.head.toNat ya yn ym (wr.alloc (.cells #[.int .u8 t.head.toNat, .slice ya yn ym, .iface T1 (.agg u1), .iface T2 (.agg u2)] 141)) ht (HR1.out.below (bnext BW.out bx.out)))
        clear hcell hg1 hg2 hg3 eg hs1 hs2 E1 E2 hf1 hf2 RE RR hcap hr
        go_wp2_with fail
        refine S.out.mono ?_
        rintro e w2 ⟨rfl, hb2⟩
        have b2 := Lib.hid (bnext bx.out hb2)
        have b3 := Lib.hid ((bnext bx.out hb2).alloc (by have := (bnext bx.out hb2).size; omega) (.cells #[.int .u32 (nb 27 (tst t))] 54))
        have k3 := Lib.hid (Blk.new w2 #[.int .u32 (nb 27 (tst t))] 54)
        clear hb2
        go_wp2_with fail
        go_ret
        refine ⟨_, _, rfl, ⟨_, _, rfl, fun a w => by kernel_rfl, fun w5 ha F => ?_⟩, bnext RB.out b3.out⟩
        have hgc : w.heap.size ≤ g' := by have := HG.out.1; have := HR.out; omega
        have A5 := (Agr.of b3.out).trans ha
        exact ite_call I1.out I2.out w2.heap.size w.heap.size g' cap HCA.out F w5 (ha.blk (by have := RB.out.size; have := b2.out.size; omega) k3.out) A5 (A5.high (Nat.le_refl _) (R0.out.cell 0)) (A5.high hgc HG.out.2.1) (A5.high hgc HG.out.2.2)
      | cho p q =>
        obtain ⟨a, b, e1, hs1, hs2⟩ := HST.out
        cases e1
        obtain ⟨T1, u1, rfl⟩ := hs1.forms
        obtain ⟨T2, u2, rfl⟩ := hs2.forms
        obtain ⟨f1, hf1, E1⟩ := RE.out.2 0 p rfl
        obtain ⟨f2, hf2, E2⟩ := RE.out.2 1 q rfl
        have I1 := Lib.hid E1.isC
        have I2 := Lib.hid E2.isC
        obtain ⟨ar, cap, rfl, hcap, hcell⟩ := RR.out.any
        obtain ⟨g, rfl, hg1, hg2⟩ := hcell 0 f1 hf1
        obtain ⟨g', eg, _, hg3⟩ := hcell 1 f2 hf2
        have eg' : g' = g := by cases eg; rfl
        subst eg'
        have hlen : fvs.length = 2 := RE.out.1
        rw [hlen] at R0 hcap
        have t1 := tas_asg_cho (.agg #[.iface T1 (.agg u1), .iface T2 (.agg u2)])
        have t2 := tas_seq_cho (.agg #[.iface T1 (.agg u1), .iface T2 (.agg u2)])
        have t3 := tas_ite_cho (.agg #[.iface T1 (.agg u1), .iface T2 (.agg u2)])
        have t4 := tas_whl_cho (.agg #[.iface T1 (.agg u1), .iface T2 (.agg u2)])
        have t5 := tas_cho_cho (.agg #[.iface T1 (.agg u1), .iface T2 (.agg u2)])
        have bx := Lib.hid ((Below.refl wr.heap.size wr).alloc (Nat.le_refl _) (.cells #[.iface T1 (.agg u1), .iface T2 (.agg u2)] 93))
        have HG := Lib.hid (And.intro hg1 (And.intro hg2 hg3))
        have HCA := Lib.hid hcap
        clear hcell hg1 hg2 hg3 eg hs1 hs2 E1 E2 hf1 hf2 RE RR hcap
        go_wp2_with fail
        go_ret
        refine ⟨_, _, rfl, ⟨_, _, rfl, fun a w => by kernel_rfl, fun w5 ha F => ?_⟩, bnext RB.out bx.out⟩
        have hgc : w.heap.size ≤ g' := by have := HG.out.1; have := HR.out; omega
        have A5 := (Agr.of bx.out).trans ha
        exact cho_call I1.out I2.out w.heap.size g' cap HCA.out F w5 A5 (A5.high (Nat.le_refl _) (R0.out.cell 0)) (A5.high hgc HG.out.2.1) (A5.high hgc HG.out.2.2)
      | asm t =>
        obtain ⟨x, y, e1, hr⟩ := HST.out
        cases e1
        obtain ⟨ya, yn, ym, rfl, rfl⟩ := hr.forms
        have HR1 := Lib.hid hr.rep
        have ht : Ok false true t := HP.out
        have t1 := tas_asg_asm (.agg #[.int .u8 t.head.toNat, .slice ya yn ym])
        have t2 := tas_seq_asm (.agg #[.int .u8 t.head.toNat, .slice ya yn ym])
        have t3 := tas_ite_asm (.agg #[.int .u8 t.head.toNat, .slice ya yn ym])
        have t4 := tas_whl_asm (.agg #[.int .u8 t.head.toNat, .slice ya yn ym])
        have t5 := tas_cho_asm (.agg #[.int .u8 t.head.toNat, .slice ya yn ym])
        have t6 := tas_asm_asm (.agg #[.int .u8 t.head.toNat, .slice ya yn ym])
        have bx := Lib.hid ((Below.refl wr.heap.size wr).alloc (Nat.le_refl _) (.cells #[.int .u8 t.head.toNat, .slice ya yn ym] 101))
        have S := Lib.hid (implStates t B t.head.toNat ya yn ym (wr.alloc (.cells #[.int .u8 t.head.toNat, .slice ya yn ym] 101)) ht (HR1.out.below (bnext BW.out bx.out)))
        have N0 := fun w => Lib.hid (implNot (tst t) w)
        clear hr
        go_wp2_with fail
        refine S.out.mono ?_
        rintro e w2 ⟨rfl, hb2⟩
        have b2 := Lib.hid (bnext bx.out hb2)
        have b3 := Lib.hid ((bnext bx.out hb2).alloc (by have := (bnext bx.out hb2).size; omega) (.cells #[.int .u32 (nb 27 (fun i => !tst t i))] 54))
        have k3 := Lib.hid (Blk.new w2 #[.int .u32 (nb 27 (fun i => !tst t i))] 54)
        clear hb2
        go_wp2_with fail
        refine (N0 _).out.mono ?_
        rintro e w3 ⟨rfl, rfl⟩
        go_wp2_with fail
        go_ret
        refine ⟨_, _, rfl, ⟨_, _, rfl, fun a w => by kernel_rfl, fun w5 ha F => ?_⟩, bnext RB.out b3.out⟩
        exact asm_call t w2.heap.size F w5 (ha.blk (by have := RB.out.size; have := b2.out.size; omega) k3.out)
      | whl t p =>
        obtain ⟨x, y, a, e1, hr, hs1⟩ := HST.out
        cases e1
        obtain ⟨T1, u1, rfl⟩ := hs1.forms
        obtain ⟨ya, yn, ym, rfl, rfl⟩ := hr.forms
        have HR1 := Lib.hid hr.rep
        obtain ⟨ht, hpp⟩ := HP.out
        obtain ⟨f1, hf1, E1⟩ := RE.out.2 0 p rfl
        have I1 := Lib.hid E1.isC
        obtain ⟨ar, cap, rfl, hcap, hcell⟩ := RR.out.any
        obtain ⟨g, rfl, hg1, hg2⟩ := hcell 0 f1 hf1
        have hlen : fvs.length = 1 := RE.out.1
        rw [hlen] at R0 hcap
        have t1 := tas_asg_whl (.agg #[.int .u8 t.head.toNat, .slice ya yn ym, .iface T1 (.agg u1)])
        have t2 := tas_seq_whl (.agg #[.int .u8 t.head.toNat, .slice ya yn ym, .iface T1 (.agg u1)])
        have t3 := tas_ite_whl (.agg #[.int .u8 t.head.toNat, .slice ya yn ym, .iface T1 (.agg u1)])
        have t4 := tas_whl_whl (.agg #[.int .u8 t.head.toNat, .slice ya yn ym, .iface T1 (.agg u1)])
        have bx := Lib.hid ((Below.refl wr.heap.size wr).alloc (Nat.le_refl _) (.cells #[.int .u8 t.head.toNat, .slice ya yn ym, .iface T1 (.agg u1)] 104))
        have kx := Blk.new wr #[.int .u8 t.head.toNat, .slice ya yn ym, .iface T1 (.agg u1)] 104
        have S := fun w' (h : Below (wr.alloc (.cells #[.int .u8 t.head.toNat, .slice ya yn ym, .iface T1 (.agg u1)] 104)).heap.size (wr.alloc (.cells #[.int .u8 t.head.toNat, .slice ya yn ym, .iface T1 (.agg u1)] 104)) w') => Lib.hid (implStates t B t.head.toNat ya yn ym w' ht (HR1.out.below (bnext BW.out (bnext bx.out h))))
        have TB := fun w' (h : Below (wr.alloc (.cells #[.int .u8 t.head.toNat, .slice ya yn ym, .iface T1 (.agg u1)] 104)).heap.size (wr.alloc (.cells #[.int .u8 t.head.toNat, .slice ya yn ym, .iface T1 (.agg u1)] 104)) w') => Lib.hid (tabled_any hpp I1.out w' (Agr.of (bnext bx.out h)) (by have := RB.out.size; have := (bnext bx.out h).size; omega))
        have HP1 := Lib.hid hpp
        have RBS := Lib.hid RB.out.size
        have q0 := ((R0.out.alloc (.cells #[.int .u8 t.head.toNat, .slice ya yn ym, .iface T1 (.agg u1)] 104))).cell 0
        have q1 : (wr.alloc (.cells #[.int .u8 t.head.toNat, .slice ya yn ym, .iface T1 (.agg u1)] 104)).cell? ⟨g, 0, none⟩ = some f1 := ckeep bx.out hg2
        have q2 := kx.cell 0
        have q3 := kx.cell 1
        clear hcell hg1 hg2 hs1 E1 hf1 RE RR hr kx R0
        generalize hW : wr.alloc (.cells #[.int .u8 t.head.toNat, .slice ya yn ym, .iface T1 (.agg u1)] 104) = W at *
        have RG : ∀ w', Below W.heap.size W w' → Below W.heap.size W w' ∧ w'.cell? ⟨w.heap.size, 0, none⟩ = some (.slice (some ⟨g, 0, none⟩) 1 cap) ∧ w'.cell? ⟨g, 0, none⟩ = some f1 ∧ w'.cell? ⟨wr.heap.size, 0, none⟩ = some (.int .u8 t.head.toNat) ∧ w'.cell? ⟨wr.heap.size, 1, none⟩ = some (.slice ya yn ym) := fun w' h => ⟨h, ckeep h q0, ckeep h q1, ckeep h q2, ckeep h q3⟩
        have RG' := Lib.hid RG
        clear RG
        subst hW
        go_wp2_with fail
        generalize wr.alloc (.cells #[.int .u8 t.head.toNat, .slice ya yn ym, .iface T1 (.agg u1)] 104) = W at *
        have hbb := (Below.refl W.heap.size W).drew
        have HSZ : ∀ w', Below W.heap.size W w' → w.heap.size ≤ w'.heap.size := fun w' h => by have := RBS.out; have := (bnext bx.out h).size; omega
        have HSZ' := Lib.hid HSZ
        clear HSZ q0 q1 q2 q3
        go_region_held3 (fun w' => Below W.heap.size W w' ∧ w'.cell? ⟨w.heap.size, 0, none⟩ = some (.slice (some ⟨g, 0, none⟩) 1 cap) ∧ w'.cell? ⟨g, 0, none⟩ = some f1 ∧ w'.cell? ⟨wr.heap.size, 0, none⟩ = some (.int .u8 t.head.toNat) ∧ w'.cell? ⟨wr.heap.size, 1, none⟩ = some (.slice ya yn ym))
          ((first
            | exact RG'.out _ (by assumption)
            | (go_split_ands; exact RG'.out _ (bnext (by assumption) hq))))
          (first
            | ((with_reducible refine (S _ (by go_split_ands; assumption)).out.mono ?_); rintro e w5 ⟨rfl, hq⟩)
            | ((with_reducible refine (TB _ (by go_split_ands; assumption)).out.mono ?_); rintro e w5 ⟨fn, caps, rfl, hic, hq⟩)
            | ((with_reducible refine (loopCond_any HP1.out hic _ (by first | exact Agr.refl _ _ _ | exact Agr.of (by assumption)) (HSZ'.out _ (by go_split_ands; assumption))).mono ?_); rintro e w5 ⟨fn2, caps2, rfl, hic2, hq⟩))
        all_goals
          go_split_ands
          rename_i hbw _ _ _ _
          go_wp2_with fail
          go_ret
          exact ⟨_, _, rfl, hic2, bnext RB.out (bnext bx.out hbw)⟩
theorem cond_any : ∀ (p : Pg), p.ok false → CondOk p := by
  intro p
  induction p with
  | skip => exact fun hp => cond_of _ hp (fun q h => by cases h) (by simp [Pg.pks])
  | asg x e => exact fun hp => cond_of _ hp (fun q h => by cases h) (by simp [Pg.pks])
  | asm t => exact fun hp => cond_of _ hp (fun q h => by cases h) (by simp [Pg.pks])
  | seq p q ihp ihq =>
    intro hp
    refine cond_of _ hp (fun r h => ?_) (by simp [Pg.pks])
    simp only [Pg.pks, List.mem_cons, List.not_mem_nil, or_false] at h
    rcases h with rfl | rfl
    · exact ihp hp.1
    · exact ihq hp.2
  | cho p q ihp ihq =>
    intro hp
    refine cond_of _ hp (fun r h => ?_) (by simp [Pg.pks])
    simp only [Pg.pks, List.mem_cons, List.not_mem_nil, or_false] at h
    rcases h with rfl | rfl
    · exact ihp hp.1
    · exact ihq hp.2
  | ite t p q ihp ihq =>
    intro hp
    refine cond_of _ hp (fun r h => ?_) (by simp [Pg.pks])
    simp only [Pg.pks, List.mem_cons, List.not_mem_nil, or_false] at h
    rcases h with rfl | rfl
    · exact ihp hp.2.1
    · exact ihq hp.2.2
  | whl t p ihp =>
    intro hp
    refine cond_of _ hp (fun r h => ?_) (by simp [Pg.pks])
    simp only [Pg.pks, List.mem_cons, List.not_mem_nil, or_false] at h
    subst h
    exact ihp hp.2
end Go.Proofs.YthmghadepimcnaaGreat

namespace Go.Proofs.YthmghadepimcnaaGreat
open Go.RowKit Tm Go.Great Classical

def frS (B : Nat → Nat → Bool) (S : Nat → Bool) : Nat → Bool := fun i => !upto 27 (fun j => B i j && !S j)
theorem wF_eq {p : Pg} (hp : p.ok false) {S : Nat → Bool} {i : Nat} (hi : i < 27) : wF p S i = frS (rT p) S i := by
  rw [Bool.eq_iff_iff, wF_iff]
  unfold frS
  rw [Bool.not_eq_true', ← Bool.not_eq_true, upto_fin hp hi]
  constructor
  · rintro h ⟨m, h1, h2⟩
    rw [h m h1] at h2
    cases h2
  · intro h j hj
    cases hS : S j
    · exact absurd ⟨j, hj, by rw [hS]; rfl⟩ h
    · rfl
theorem eql0 (F : Nat → Bool) : (((nb 27 F : Nat) : Int) == 0) = !upto 27 F := by
  have := neq0 F
  rw [← this]
  simp [bne]
theorem s_free (B : Nat → Nat → Bool) (S : Nat → Bool) (k : Nat) : (bits .andNot .i64 (nb 27 (B k) : Nat) (nb 27 S : Nat) == 0) = frS B S k := by rw [s_andNot, eql0]; rfl
set_option maxRecDepth 100000 in
set_option maxHeartbeats 2000000 in
theorem specFree (B : Nat → Nat → Bool) (L K S : Nat → Bool) (w : World) : Calls Tryz.prog 69 #[.agg (allC B L K), .int .i64 (nb 27 S)] w fun e w' => e = .returned (.int .i64 (nb 27 (frS B S))) ∧ Below w.heap.size w w' := by
  have z0 : w.heap.size = w.heap.size := rfl
  have hb0 := Below.refl w.heap.size w
  obtain ⟨z1, k0⟩ := al1 z0 (allC B L K) 69
  replace hb0 := Below.alloc hb0 (by omega) (.cells (allC B L K) 69)
  have K0 := Lib.hid k0
  have HZ1 := Lib.hid z1
  have HB := Lib.hid hb0
  have HE := Lib.hid (s_free B S)
  clear hb0 z0 k0 z1
  go_enter Tryz.func69, Tryz.ntmps69
  go_wp2_with (first
    | (refine wpList_boxTo rfl 69 _ rfl (some 2) rfl w.heap.size rfl (allC B L K) (by rfl) ?_))
  generalize (w).alloc (.cells (allC B L K) 69) = w1 at *
  clear HZ1
  go_wp2_with fail
  go_loopw [5, 6] (fun o i wr => ∃ k : Nat, k ≤ 27 ∧ i = .int .i64 k ∧ o = .int .i64 (nb 27 (lowF (frS B S) k)) ∧ Hid (Blk wr w.heap.size (allC B L K) 69) ∧ Hid (Below w.heap.size w wr)) (fun o i _ => 27 - (intOf i).toNat)
  case atStart => exact ⟨0, by omega, rfl, by rw [lowF_zero]; rfl, K0, HB⟩
  case round =>
    clear K0 HB
    obtain ⟨k, hk, rfl, rfl, RB, RW⟩ := hrel
    by_cases hlt : k < 27
    · have c0 := (RB.out.cell k).trans (allC_get _ _ _ hlt)
      have hv := HE.out k
      cases hT : frS B S k <;> rw [hT] at hv
      · go_wp2_with fail
        exact ⟨⟨k + 1, by omega, by go_num, by rw [lowF_nil (F := frS B S) hT], RB, RW⟩, by simp [intOf]; omega⟩
      · go_wp2_with fail
        exact ⟨⟨k + 1, by omega, by go_num, by rw [s_bit hlt, lowF_one (F := frS B S) hT], RB, RW⟩, by simp [intOf]; omega⟩
    · have hk2 : k = 27 := by omega
      subst hk2
      go_wp2_with fail
      go_ret
      exact ⟨by rw [← lowF_all]; rfl, RW.out⟩
def AimPost (p : Pg) (F : Nat → Bool) (w : World) (e : Ending) (w' : World) : Prop := ∃ T u, e = .returned (.tuple #[.iface T (.agg u), .int .u32 (nb 27 F), .bool true]) ∧ StV w' w.heap.size p (.iface T (.agg u)) ∧ Below w.heap.size w w'
set_option maxRecDepth 100000 in
set_option maxHeartbeats 4000000 in
theorem readAim_yes (s q : ByteArray) {p : Pg} (hp : p.ok false) (he : s.data.toList = p.ser) (hl : s.size ≤ 200) (hq : Set27 q) (w : World) : Calls Tryz.prog 60 #[.string s, .string q] w (AimPost p (hs q.data.toList) w) := by
  have CR := fun w => Lib.hid (prog_yes s w hp he hl)
  have CQ := fun w => Lib.hid (implRead_yes q w hq)
  clear hp he hl hq
  go_enter Tryz.func60, Tryz.ntmps60
  go_wp2_with fail
  refine (CR _).out.mono ?_
  rintro e w1 ⟨T, u, rfl, hst, hb⟩
  have HB := Lib.hid hb
  have HS := Lib.hid hst
  clear hb hst
  go_wp2_with fail
  refine (CQ _).out.mono ?_
  rintro e w' ⟨rfl, rfl⟩
  go_wp2_with fail
  go_ret3
  exact ⟨_, _, rfl, HS.out, HB.out⟩
def NoAim (w : World) (e : Ending) (w' : World) : Prop := e = .returned (.tuple #[.nilIface, .int .u32 0, .bool false]) ∧ Below w.heap.size w w'
set_option maxRecDepth 100000 in
set_option maxHeartbeats 4000000 in
theorem readAim_no (s q : ByteArray) (h : ¬ (IsP s ∧ Set27 q)) (w : World) : Calls Tryz.prog 60 #[.string s, .string q] w (NoAim w) := by
  by_cases hp : IsP s
  · have hq : ¬ Set27 q := fun hq => h ⟨hp, hq⟩
    obtain ⟨⟨p, hp, he⟩, hl⟩ := hp
    have CR := fun w => Lib.hid (prog_yes s w hp he hl)
    have CQ := fun w => Lib.hid (implRead_no q w hq)
    clear hp he hl hq h
    go_enter Tryz.func60, Tryz.ntmps60
    go_wp2_with fail
    refine (CR _).out.mono ?_
    rintro e w1 ⟨T, u, rfl, hst, hb⟩
    clear hst
    go_wp2_with fail
    refine (CQ _).out.mono ?_
    rintro e w' ⟨rfl, rfl⟩
    go_wp2_with fail
    go_ret3
    exact ⟨rfl, hb⟩
  · have CR := fun w => Lib.hid (prog_no s w hp)
    by_cases hq : Set27 q
    · have CQ := fun w => Lib.hid (implRead_yes q w hq)
      clear hp hq h
      go_enter Tryz.func60, Tryz.ntmps60
      go_wp2_with fail
      refine (CR _).out.mono ?_
      rintro e w1 ⟨rfl, hb⟩
      go_wp2_with fail
      refine (CQ _).out.mono ?_
      rintro e w' ⟨rfl, rfl⟩
      go_wp2_with fail
      go_ret3
      exact ⟨rfl, hb⟩
    · have CQ := fun w => Lib.hid (implRead_no q w hq)
      clear hp hq h
      go_enter Tryz.func60, Tryz.ntmps60
      go_wp2_with fail
      refine (CR _).out.mono ?_
      rintro e w1 ⟨rfl, hb⟩
      go_wp2_with fail
      refine (CQ _).out.mono ?_
      rintro e w' ⟨rfl, rfl⟩
      go_wp2_with fail
      go_ret3
      exact ⟨rfl, hb⟩
set_option maxRecDepth 100000 in
set_option maxHeartbeats 4000000 in
theorem implFree_yes (s q : ByteArray) {p : Pg} (hp : p.ok false) (he : s.data.toList = p.ser) (hl : s.size ≤ 200) (hq : Set27 q) (w : World) : Calls Tryz.prog 29 #[.string s, .string q] w (TextPost (wF p (hs q.data.toList)) w) := by
  have CA := fun w => Lib.hid (readAim_yes s q hp he hl hq w)
  have CC := Lib.hid (cond_any p hp)
  clear hp he hl hq
  go_enter Tryz.func29, Tryz.ntmps29
  go_wp2_with fail
  refine (CA _).out.mono ?_
  rintro e w1 ⟨T, u, rfl, hst, hb⟩
  have HB := Lib.hid hb
  have D := Lib.hid (CC.out _ _ _ _ hst w1 (Below.refl _ _))
  clear hb hst
  go_wp2_with fail
  refine D.out.mono ?_
  rintro e w2 ⟨fn, caps, rfl, ⟨fn', caps', e1, hcf, hcall⟩, hb⟩
  cases e1
  have HB2 := Lib.hid (bnext HB.out hb)
  have HC := Lib.hid (hcall w2 (Agr.refl _ _ _) (hs q.data.toList))
  clear hb hcall
  go_wp2_with fail
  refine HC.out.mono ?_
  rintro e w3 ⟨rfl, hb⟩
  have HB3 := Lib.hid (bnext HB2.out hb)
  clear hb
  go_wp2_with fail
  refine (implText _ _).mono ?_
  rintro e w4 ⟨rfl, hb⟩
  have HB4 := Lib.hid (bnext HB3.out hb)
  clear hb
  go_wp2_with fail
  go_ret2
  exact ⟨rfl, HB4.out⟩
set_option maxRecDepth 100000 in
set_option maxHeartbeats 4000000 in
theorem implFree_no (s q : ByteArray) (h : ¬ (IsP s ∧ Set27 q)) (w : World) : Calls Tryz.prog 29 #[.string s, .string q] w (NoPost w) := by
  have CA := fun w => Lib.hid (readAim_no s q h w)
  clear h
  go_enter Tryz.func29, Tryz.ntmps29
  go_wp2_with fail
  refine (CA _).out.mono ?_
  rintro e w1 ⟨rfl, hb⟩
  go_wp2_with fail
  go_ret2
  exact ⟨rfl, hb⟩
set_option maxRecDepth 100000 in
set_option maxHeartbeats 4000000 in
theorem specReady (s q : ByteArray) (hm : q.size ≤ maxLen) (w : World) : Calls Tryz.prog 66 #[.string s, .string q] w fun e w' => e = .returned (.bool (decide (IsP s ∧ Set27 q))) ∧ Below w.heap.size w w' := by
  by_cases hp : IsP s
  · have C := fun w => Lib.hid (specPV_yes s w hp.1 hp.2)
    by_cases hq : Set27 q
    · have CQ := fun w => Lib.hid (specPredValid_yes q w hq)
      rw [decide_eq_true (⟨hp, hq⟩ : IsP s ∧ Set27 q)]
      clear hp hq
      go_enter Tryz.func66, Tryz.ntmps66
      go_wp2_with fail
      refine (C _).out.mono ?_
      rintro e w1 ⟨rfl, n0, rfl⟩
      go_wp2_with fail
      refine (CQ _).out.mono ?_
      rintro e w' ⟨rfl, rfl⟩
      go_wp2_with fail
      go_ret
      exact ⟨rfl, bdrewN (Below.refl _ _) n0⟩
    · have CQ := fun w => Lib.hid (specPredValid_no q w hq hm)
      rw [decide_eq_false (fun h : IsP s ∧ Set27 q => hq h.2)]
      clear hp hq
      go_enter Tryz.func66, Tryz.ntmps66
      go_wp2_with fail
      refine (C _).out.mono ?_
      rintro e w1 ⟨rfl, n0, rfl⟩
      go_wp2_with fail
      refine (CQ _).out.mono ?_
      rintro e w' ⟨rfl, rfl⟩
      go_wp2_with fail
      go_ret
      exact ⟨rfl, bdrewN (Below.refl _ _) n0⟩
  · have C := fun w => Lib.hid (specPV_no s w hp)
    rw [decide_eq_false (fun h : IsP s ∧ Set27 q => hp h.1)]
    clear hp
    go_enter Tryz.func66, Tryz.ntmps66
    go_wp2_with fail
    refine (C _).out.mono ?_
    rintro e w1 ⟨rfl, n0, rfl⟩
    go_wp2_with fail
    go_ret
    exact ⟨rfl, bdrewN (Below.refl _ _) n0⟩
set_option maxRecDepth 100000 in
set_option maxHeartbeats 4000000 in
theorem specFree_yes (s q : ByteArray) {p : Pg} (hp : p.ok false) (he : s.data.toList = p.ser) (hl : s.size ≤ 200) (hq : Set27 q) (hm : q.size ≤ maxLen) (w : World) : Calls Tryz.prog 30 #[.string s, .string q] w (TextPost (wF p (hs q.data.toList)) w) := by
  have C := fun w => Lib.hid (specReady s q hm w)
  rw [decide_eq_true (⟨⟨⟨p, hp, he⟩, hl⟩, hq⟩ : IsP s ∧ Set27 q)] at C
  have CM := fun w => Lib.hid (specMask q w hq)
  have CR := fun w => Lib.hid (run_bs hp he hl w)
  have HT := Lib.hid (tb_congr (F := frS (rT p) (hs q.data.toList)) (G := wF p (hs q.data.toList)) fun i hi => (wF_eq hp hi).symm)
  clear hp he hl hq
  go_enter Tryz.func30, Tryz.ntmps30
  go_wp2_with fail
  refine (C _).out.mono ?_
  rintro e w1 ⟨rfl, hb⟩
  have HB := Lib.hid hb
  clear hb
  go_wp2_with fail
  refine (CR _).out.mono ?_
  rintro e w2 ⟨rfl, hb⟩
  replace HB := Lib.hid (bnext HB.out hb)
  clear hb
  go_wp2_with fail
  refine (CM _).out.mono ?_
  rintro e w3 ⟨rfl, hb⟩
  replace HB := Lib.hid (bnext HB.out hb)
  clear hb
  go_wp2_with fail
  refine (specFree _ _ _ _ _).mono ?_
  rintro e w4 ⟨rfl, hb⟩
  replace HB := Lib.hid (bnext HB.out hb)
  clear hb
  go_wp2_with fail
  refine (specTextS _ _).mono ?_
  rintro e w5 ⟨rfl, hb⟩
  have HB4 := Lib.hid (bnext HB.out hb)
  clear hb
  go_wp2_with fail
  go_ret2
  exact ⟨by rw [HT.out]; rfl, HB4.out⟩
set_option maxRecDepth 100000 in
set_option maxHeartbeats 4000000 in
theorem specFree_no (s q : ByteArray) (hm : q.size ≤ maxLen) (h : ¬ (IsP s ∧ Set27 q)) (w : World) : Calls Tryz.prog 30 #[.string s, .string q] w (NoPost w) := by
  have C := fun w => Lib.hid (specReady s q hm w)
  rw [decide_eq_false h] at C
  clear h
  go_enter Tryz.func30, Tryz.ntmps30
  go_wp2_with fail
  refine (C _).out.mono ?_
  rintro e w1 ⟨rfl, hb⟩
  go_wp2_with fail
  go_ret2
  exact ⟨rfl, hb⟩
end Go.Proofs.YthmghadepimcnaaGreat

namespace Go.Proofs.YthmghadepimcnaaGreat
open Go.RowKit

set_option maxHeartbeats 1000000 in
theorem implWithin (F G : Nat → Bool) (w : World) : Calls Tryz.prog 81 #[.int .u32 (nb 27 F), .int .u32 (nb 27 G)] w fun e w' => e = .returned (.bool (wi 27 F G)) ∧ w = w' := by
  have H := Lib.hid (within_bits F G)
  go_enter Tryz.func81, Tryz.ntmps81
  go_wp2_with fail
  go_ret
  exact ⟨by rw [← H.out]; rfl, rfl⟩
end Go.Proofs.YthmghadepimcnaaGreat

namespace Go.Proofs.YthmghadepimcnaaGreat
open Go.RowKit

set_option maxHeartbeats 1000000 in
theorem implPredValid_yes (s : ByteArray) (w : World) (hv : Set27 s) : Calls Tryz.prog 31 #[.string s] w fun e w' => e = .returned (.bool true) ∧ w = w' := by
  have C := fun w => Lib.hid (implRead_yes s w hv)
  go_enter Tryz.func31, Tryz.ntmps31
  go_wp2_with fail
  refine (C _).out.mono ?_
  rintro e w' ⟨rfl, rfl⟩
  go_wp2_with fail
  go_ret
  exact ⟨rfl, rfl⟩
set_option maxHeartbeats 1000000 in
theorem implPredValid_no (s : ByteArray) (w : World) (hv : ¬ Set27 s) : Calls Tryz.prog 31 #[.string s] w fun e w' => e = .returned (.bool false) ∧ w = w' := by
  have C := fun w => Lib.hid (implRead_no s w hv)
  clear hv
  go_enter Tryz.func31, Tryz.ntmps31
  go_wp2_with fail
  refine (C _).out.mono ?_
  rintro e w' ⟨rfl, rfl⟩
  go_wp2_with fail
  go_ret
  exact ⟨rfl, rfl⟩

set_option maxHeartbeats 1000000 in
theorem implReads_yes (p q : ByteArray) (w : World) (hp : Set27 p) (hq : Set27 q) : Calls Tryz.prog 80 #[.string p, .string q] w fun e w' => e = .returned (.tuple #[.int .u32 (nb 27 (hs p.data.toList)), .int .u32 (nb 27 (hs q.data.toList)), .bool true]) ∧ w = w' := by
  have C := fun w => Lib.hid (implRead_yes p w hp)
  have D := fun w => Lib.hid (implRead_yes q w hq)
  go_enter Tryz.func80, Tryz.ntmps80
  go_wp2_with fail
  refine (C _).out.mono ?_
  rintro e w' ⟨rfl, rfl⟩
  go_wp2_with fail
  refine (D _).out.mono ?_
  rintro e w' ⟨rfl, rfl⟩
  go_wp2_with fail
  go_ret3
  exact ⟨rfl, rfl⟩
set_option maxHeartbeats 1000000 in
theorem implReads_no (p q : ByteArray) (w : World) (h : ¬ (Set27 p ∧ Set27 q)) : Calls Tryz.prog 80 #[.string p, .string q] w fun e w' => e = .returned (.tuple #[.int .u32 0, .int .u32 0, .bool false]) ∧ w = w' := by
  by_cases hp : Set27 p
  · have hq : ¬ Set27 q := fun hq => h ⟨hp, hq⟩
    have C := fun w => Lib.hid (implRead_yes p w hp)
    have D := fun w => Lib.hid (implRead_no q w hq)
    clear h hq
    go_enter Tryz.func80, Tryz.ntmps80
    go_wp2_with fail
    refine (C _).out.mono ?_
    rintro e w' ⟨rfl, rfl⟩
    go_wp2_with fail
    refine (D _).out.mono ?_
    rintro e w' ⟨rfl, rfl⟩
    go_wp2_with fail
    go_ret3
    exact ⟨rfl, rfl⟩
  · have C := fun w => Lib.hid (implRead_no p w hp)
    clear h hp
    by_cases hq : Set27 q
    · have D := fun w => Lib.hid (implRead_yes q w hq)
      clear hq
      go_enter Tryz.func80, Tryz.ntmps80
      go_wp2_with fail
      refine (C _).out.mono ?_
      rintro e w' ⟨rfl, rfl⟩
      go_wp2_with fail
      refine (D _).out.mono ?_
      rintro e w' ⟨rfl, rfl⟩
      go_wp2_with fail
      go_ret3
      exact ⟨rfl, rfl⟩
    · have D := fun w => Lib.hid (implRead_no q w hq)
      clear hq
      go_enter Tryz.func80, Tryz.ntmps80
      go_wp2_with fail
      refine (C _).out.mono ?_
      rintro e w' ⟨rfl, rfl⟩
      go_wp2_with fail
      refine (D _).out.mono ?_
      rintro e w' ⟨rfl, rfl⟩
      go_wp2_with fail
      go_ret3
      exact ⟨rfl, rfl⟩

theorem and_bits (F G : Nat → Bool) : bits .and .u32 (nb 27 F : Nat) (nb 27 G : Nat) = (nb 27 (fun i => F i && G i) : Nat) := by
  have h := nb_lt27 F; have h' := nb_lt27 G
  rw [u32_and_nat _ _ (by omega) (by omega), nb_and]
theorem or_bits (F G : Nat → Bool) : bits .or .u32 (nb 27 F : Nat) (nb 27 G : Nat) = (nb 27 (fun i => F i || G i) : Nat) := by
  have h := nb_lt27 F; have h' := nb_lt27 G
  rw [u32_or_nat _ _ (by omega) (by omega), nb_or2]

set_option maxHeartbeats 1000000 in
theorem implAnd_yes (p q : ByteArray) (w : World) (hp : Set27 p) (hq : Set27 q) : Calls Tryz.prog 74 #[.string p, .string q] w fun e w' => e = .returned (.tuple #[.string (bs (tb (fun i => hs p.data.toList i && hs q.data.toList i))), .bool true]) ∧ Below w.heap.size w w' := by
  have C := fun w => Lib.hid (implReads_yes p q w hp hq)
  have H := Lib.hid (and_bits (hs p.data.toList) (hs q.data.toList))
  have D := fun w => Lib.hid (implText (fun i => hs p.data.toList i && hs q.data.toList i) w)
  go_enter Tryz.func74, Tryz.ntmps74
  go_wp2_with fail
  refine (C _).out.mono ?_
  rintro e w' ⟨rfl, rfl⟩
  go_wp2_with fail
  rw [H.out]
  refine (D _).out.mono ?_
  rintro e w1 ⟨rfl, hb⟩
  have HB := Lib.hid hb
  clear hb
  go_wp2_with fail
  go_ret2
  exact ⟨rfl, HB.out⟩
set_option maxHeartbeats 1000000 in
theorem implAnd_no (p q : ByteArray) (w : World) (h : ¬ (Set27 p ∧ Set27 q)) : Calls Tryz.prog 74 #[.string p, .string q] w fun e w' => e = .returned (.tuple #[.string (bs []), .bool false]) ∧ Below w.heap.size w w' := by
  have C := fun w => Lib.hid (implReads_no p q w h)
  clear h
  go_enter Tryz.func74, Tryz.ntmps74
  go_wp2_with fail
  refine (C _).out.mono ?_
  rintro e w' ⟨rfl, rfl⟩
  go_wp2_with fail
  go_ret2
  exact ⟨rfl, Below.refl _ _⟩

set_option maxHeartbeats 1000000 in
theorem implOr_yes (p q : ByteArray) (w : World) (hp : Set27 p) (hq : Set27 q) : Calls Tryz.prog 84 #[.string p, .string q] w fun e w' => e = .returned (.tuple #[.string (bs (tb (fun i => hs p.data.toList i || hs q.data.toList i))), .bool true]) ∧ Below w.heap.size w w' := by
  have C := fun w => Lib.hid (implReads_yes p q w hp hq)
  have H := Lib.hid (or_bits (hs p.data.toList) (hs q.data.toList))
  have D := fun w => Lib.hid (implText (fun i => hs p.data.toList i || hs q.data.toList i) w)
  go_enter Tryz.func84, Tryz.ntmps84
  go_wp2_with fail
  refine (C _).out.mono ?_
  rintro e w' ⟨rfl, rfl⟩
  go_wp2_with fail
  rw [H.out]
  refine (D _).out.mono ?_
  rintro e w1 ⟨rfl, hb⟩
  have HB := Lib.hid hb
  clear hb
  go_wp2_with fail
  go_ret2
  exact ⟨rfl, HB.out⟩
set_option maxHeartbeats 1000000 in
theorem implOr_no (p q : ByteArray) (w : World) (h : ¬ (Set27 p ∧ Set27 q)) : Calls Tryz.prog 84 #[.string p, .string q] w fun e w' => e = .returned (.tuple #[.string (bs []), .bool false]) ∧ Below w.heap.size w w' := by
  have C := fun w => Lib.hid (implReads_no p q w h)
  clear h
  go_enter Tryz.func84, Tryz.ntmps84
  go_wp2_with fail
  refine (C _).out.mono ?_
  rintro e w' ⟨rfl, rfl⟩
  go_wp2_with fail
  go_ret2
  exact ⟨rfl, Below.refl _ _⟩

set_option maxHeartbeats 1000000 in
theorem implNotP_yes (p : ByteArray) (w : World) (hp : Set27 p) : Calls Tryz.prog 72 #[.string p] w fun e w' => e = .returned (.tuple #[.string (bs (tb (fun i => !hs p.data.toList i))), .bool true]) ∧ Below w.heap.size w w' := by
  have C := fun w => Lib.hid (implRead_yes p w hp)
  have N := fun w => Lib.hid (implNot (hs p.data.toList) w)
  have D := fun w => Lib.hid (implText (fun i => !hs p.data.toList i) w)
  go_enter Tryz.func72, Tryz.ntmps72
  go_wp2_with fail
  refine (C _).out.mono ?_
  rintro e w' ⟨rfl, rfl⟩
  go_wp2_with fail
  refine (N _).out.mono ?_
  rintro e w' ⟨rfl, rfl⟩
  go_wp2_with fail
  refine (D _).out.mono ?_
  rintro e w1 ⟨rfl, hb⟩
  have HB := Lib.hid hb
  clear hb
  go_wp2_with fail
  go_ret2
  exact ⟨rfl, HB.out⟩
set_option maxHeartbeats 1000000 in
theorem implNotP_no (p : ByteArray) (w : World) (h : ¬ Set27 p) : Calls Tryz.prog 72 #[.string p] w fun e w' => e = .returned (.tuple #[.string (bs []), .bool false]) ∧ Below w.heap.size w w' := by
  have C := fun w => Lib.hid (implRead_no p w h)
  clear h
  go_enter Tryz.func72, Tryz.ntmps72
  go_wp2_with fail
  refine (C _).out.mono ?_
  rintro e w' ⟨rfl, rfl⟩
  go_wp2_with fail
  go_ret2
  exact ⟨rfl, Below.refl _ _⟩

set_option maxHeartbeats 1000000 in
theorem implPWithin_yes (p q : ByteArray) (w : World) (hp : Set27 p) (hq : Set27 q) : Calls Tryz.prog 26 #[.string p, .string q] w fun e w' => e = .returned (.bool (wi 27 (hs p.data.toList) (hs q.data.toList))) ∧ w = w' := by
  have C := fun w => Lib.hid (implReads_yes p q w hp hq)
  have D := fun w => Lib.hid (implWithin (hs p.data.toList) (hs q.data.toList) w)
  go_enter Tryz.func26, Tryz.ntmps26
  go_wp2_with fail
  refine (C _).out.mono ?_
  rintro e w' ⟨rfl, rfl⟩
  go_wp2_with fail
  refine (D _).out.mono ?_
  rintro e w' ⟨rfl, rfl⟩
  go_wp2_with fail
  go_ret
  exact ⟨rfl, rfl⟩
set_option maxHeartbeats 1000000 in
theorem implPWithin_no (p q : ByteArray) (w : World) (h : ¬ (Set27 p ∧ Set27 q)) : Calls Tryz.prog 26 #[.string p, .string q] w fun e w' => e = .returned (.bool false) ∧ w = w' := by
  have C := fun w => Lib.hid (implReads_no p q w h)
  clear h
  go_enter Tryz.func26, Tryz.ntmps26
  go_wp2_with fail
  refine (C _).out.mono ?_
  rintro e w' ⟨rfl, rfl⟩
  go_wp2_with fail
  go_ret
  exact ⟨rfl, rfl⟩

/-- The number of a state. -/
def ixn (x y z : Int) : Nat := (x + 3 * y + 9 * z).toNat
theorem ixn_lt {x y z : Int} (h : st3 x y z = true) : ixn x y z < 27 ∧ ((ixn x y z : Nat) : Int) = x + 3 * y + 9 * z := by
  have h := st3_lt h
  unfold ixn; omega

set_option maxHeartbeats 1000000 in
theorem implHasS_yes (p : ByteArray) (x y z : Int) (w : World) (hp : Set27 p) (h : st3 x y z = true) : Calls Tryz.prog 45 #[.string p, .agg #[.int .i64 x, .int .i64 y, .int .i64 z]] w fun e w' => e = .returned (.bool (hs p.data.toList (ixn x y z))) ∧ Below w.heap.size w w' := by
  have C := fun w => Lib.hid (implRead_yes p w hp)
  have V := fun w => Lib.hid (implStateValid x y z w)
  rw [h] at V
  have hi := ixn_lt h
  have I := fun w => Lib.hid (implIx_yes x y z w h)
  rw [← hi.2] at I
  have D := fun w => Lib.hid (implHasB (hs p.data.toList) (ixn x y z) w hi.1)
  clear hi h
  go_enter Tryz.func45, Tryz.ntmps45
  go_wp2_with fail
  have HT0 := Lib.hid (Blk.new w #[.int .i64 x, .int .i64 y, .int .i64 z] 46)
  have HB0 := Lib.hid ((Below.refl _ w).alloc (Nat.le_refl _) (.cells #[.int .i64 x, .int .i64 y, .int .i64 z] 46))
  generalize w.alloc (.cells #[.int .i64 x, .int .i64 y, .int .i64 z] 46) = w0 at *
  refine (C _).out.mono ?_
  rintro e w' ⟨rfl, rfl⟩
  obtain ⟨q0, q1, q2⟩ := HT0.out.c3
  go_wp2_with fail
  clear q0 q1 q2
  refine (V _).out.mono ?_
  rintro e w1 ⟨rfl, hb⟩
  have HB1 := Lib.hid (bnext HB0.out hb)
  have HT1 := Lib.hid (HT0.out.kept hb)
  clear hb
  obtain ⟨q0, q1, q2⟩ := HT1.out.c3
  go_wp2_with fail
  clear q0 q1 q2
  refine (I _).out.mono ?_
  rintro e w2 ⟨rfl, hb⟩
  have HB2 := Lib.hid (bnext HB1.out hb)
  clear hb
  go_wp2_with fail
  refine (D _).out.mono ?_
  rintro e w' ⟨rfl, rfl⟩
  go_wp2_with fail
  go_ret
  exact ⟨rfl, HB2.out⟩
set_option maxHeartbeats 1000000 in
theorem implHasS_st (p : ByteArray) (x y z : Int) (w : World) (hp : Set27 p) (h : st3 x y z = false) : Calls Tryz.prog 45 #[.string p, .agg #[.int .i64 x, .int .i64 y, .int .i64 z]] w fun e w' => e = .returned (.bool false) ∧ Below w.heap.size w w' := by
  have C := fun w => Lib.hid (implRead_yes p w hp)
  have V := fun w => Lib.hid (implStateValid x y z w)
  rw [h] at V
  clear h
  go_enter Tryz.func45, Tryz.ntmps45
  go_wp2_with fail
  have HT0 := Lib.hid (Blk.new w #[.int .i64 x, .int .i64 y, .int .i64 z] 46)
  have HB0 := Lib.hid ((Below.refl _ w).alloc (Nat.le_refl _) (.cells #[.int .i64 x, .int .i64 y, .int .i64 z] 46))
  generalize w.alloc (.cells #[.int .i64 x, .int .i64 y, .int .i64 z] 46) = w0 at *
  refine (C _).out.mono ?_
  rintro e w' ⟨rfl, rfl⟩
  obtain ⟨q0, q1, q2⟩ := HT0.out.c3
  go_wp2_with fail
  clear q0 q1 q2
  refine (V _).out.mono ?_
  rintro e w1 ⟨rfl, hb⟩
  have HB1 := Lib.hid (bnext HB0.out hb)
  clear hb
  go_wp2_with fail
  go_ret
  exact ⟨rfl, HB1.out⟩
set_option maxHeartbeats 1000000 in
theorem implHasS_no (p : ByteArray) (x y z : Int) (w : World) (hp : ¬ Set27 p) : Calls Tryz.prog 45 #[.string p, .agg #[.int .i64 x, .int .i64 y, .int .i64 z]] w fun e w' => e = .returned (.bool false) ∧ Below w.heap.size w w' := by
  have C := fun w => Lib.hid (implRead_no p w hp)
  clear hp
  go_enter Tryz.func45, Tryz.ntmps45
  go_wp2_with fail
  refine (C _).out.mono ?_
  rintro e w' ⟨rfl, rfl⟩
  go_wp2_with fail
  go_ret
  exact ⟨rfl, (Below.refl _ _).alloc (Nat.le_refl _) _⟩
end Go.Proofs.YthmghadepimcnaaGreat

namespace Go.Proofs.YthmghadepimcnaaGreat
open Go.RowKit

theorem set27_size {p : ByteArray} (h : Set27 p) : p.size = 27 := by have := h.1; simpa using this

theorem wi_eq (p q : ByteArray) (hp : Set27 p) : ((bs (tb (fun i => hs p.data.toList i && hs q.data.toList i))).toList == p.toList) = wi 27 (hs p.data.toList) (hs q.data.toList) := by
  rw [bytes_eq, Bool.eq_iff_iff, decide_eq_true_eq, wi_iff]
  have e : bs p.data.toList = p := by apply ByteArray.ext; simp [bs]
  constructor
  · intro h i hi hF
    have h2 : tb (fun i => hs p.data.toList i && hs q.data.toList i) = tbn 27 (hs p.data.toList) := by
      rw [tbn_hs hp]
      have := congrArg (fun b : ByteArray => b.data.toList) h
      simpa [bs] using this
    have h3 := tbn_inj h2 i hi
    simpa [hF] using h3
  · intro h
    rw [show tb (fun i => hs p.data.toList i && hs q.data.toList i) = tbn 27 (hs p.data.toList) from tbn_congr fun i hi => by
      cases hF : hs p.data.toList i
      · rfl
      · simp [h i hi hF], tbn_hs hp, e]

set_option maxHeartbeats 1000000 in
theorem specPWithin_yes (p q : ByteArray) (w : World) (hp : Set27 p) (hq : Set27 q) : Calls Tryz.prog 79 #[.string p, .string q] w fun e w' => e = .returned (.bool (wi 27 (hs p.data.toList) (hs q.data.toList))) ∧ Below w.heap.size w w' := by
  have C := fun w => Lib.hid (specPredValid_yes p w hp)
  have D := fun w => Lib.hid (specPredValid_yes q w hq)
  have E := fun w => Lib.hid (specAnd0 p q 27 w (set27_size hp) (set27_size hq) (by omega))
  have H := Lib.hid (wi_eq p q hp)
  go_enter Tryz.func79, Tryz.ntmps79
  go_wp2_with fail
  refine (C _).out.mono ?_
  rintro e w' ⟨rfl, rfl⟩
  go_wp2_with fail
  refine (D _).out.mono ?_
  rintro e w' ⟨rfl, rfl⟩
  go_wp2_with fail
  refine (E _).out.mono ?_
  rintro e w1 ⟨rfl, hb⟩
  have HB := Lib.hid hb
  clear hb
  go_wp2_with fail
  go_ret
  exact ⟨by rw [← H.out]; rfl, HB.out⟩
set_option maxHeartbeats 1000000 in
theorem specPWithin_no (p q : ByteArray) (w : World) (h : ¬ (Set27 p ∧ Set27 q)) (hm : p.size ≤ maxLen) (hm2 : q.size ≤ maxLen) : Calls Tryz.prog 79 #[.string p, .string q] w fun e w' => e = .returned (.bool false) ∧ Below w.heap.size w w' := by
  by_cases hp : Set27 p
  · have C := fun w => Lib.hid (specPredValid_yes p w hp)
    have D := fun w => Lib.hid (specPredValid_no q w (fun hq => h ⟨hp, hq⟩) hm2)
    clear h
    go_enter Tryz.func79, Tryz.ntmps79
    go_wp2_with fail
    refine (C _).out.mono ?_
    rintro e w' ⟨rfl, rfl⟩
    go_wp2_with fail
    refine (D _).out.mono ?_
    rintro e w' ⟨rfl, rfl⟩
    go_wp2_with fail
    go_ret
    exact ⟨rfl, Below.refl _ _⟩
  · have C := fun w => Lib.hid (specPredValid_no p w hp hm)
    clear h hp
    go_enter Tryz.func79, Tryz.ntmps79
    go_wp2_with fail
    refine (C _).out.mono ?_
    rintro e w' ⟨rfl, rfl⟩
    go_wp2_with fail
    go_ret
    exact ⟨rfl, Below.refl _ _⟩

/-- The number of a state. -/
def ixs (x y z : Int) : Nat := (x + 3 * y + 9 * z).toNat
theorem ixs_lt {x y z : Int} (h : st3 x y z = true) : ixs x y z < 27 ∧ ((ixs x y z : Nat) : Int) = x + 3 * y + 9 * z := by
  have h := st3_lt h
  unfold ixs; omega

end Go.Proofs.YthmghadepimcnaaGreat

namespace Go.Proofs.YthmghadepimcnaaGreat
open Go.RowKit Tm Go.Great Classical

/-! ### Plain mathematics -/
theorem frS_congr {B : Nat → Nat → Bool} {S S' : Nat → Bool} (h : ∀ i, i < 27 → S i = S' i) (i : Nat) : frS B S i = frS B S' i := by
  unfold frS
  congr 1
  rw [Bool.eq_iff_iff, upto_iff, upto_iff]
  constructor
  · rintro ⟨j, hj, h1⟩
    exact ⟨j, hj, by rw [← h j hj]; exact h1⟩
  · rintro ⟨j, hj, h1⟩
    exact ⟨j, hj, by rw [h j hj]; exact h1⟩
def giS (T : Nat → Bool) (B : Nat → Nat → Bool) (K : Nat → Bool) : Nat → Bool := fun i => K i && (frS B K i || (true && !T i))
theorem giS_iff {T : Nat → Bool} {B : Nat → Nat → Bool} {K : Nat → Bool} {i : Nat} : giS T B K i = true ↔ K i = true ∧ (frS B K i = true ∨ T i = false) := by
  unfold giS
  cases T i <;> simp
theorem giS_congr {T : Nat → Bool} {B : Nat → Nat → Bool} {H G : Nat → Bool} (h : ∀ i, i < 27 → H i = G i) : ∀ i, i < 27 → giS T B H i = giS T B G i := by
  intro i hi
  unfold giS
  rw [h i hi, frS_congr h]
theorem giS_stop {T : Nat → Bool} {B : Nat → Nat → Bool} {H : Nat → Bool} (e : nb 27 H = nb 27 (giS T B H)) : nb 27 (giS T B (giS T B H)) = nb 27 (giS T B H) := nb_congr (giS_congr fun i hi => (nb_inj e i hi).symm)
theorem giS_le {T : Nat → Bool} {B : Nat → Nat → Bool} {H : Nat → Bool} : nb 27 (giS T B H) ≤ nb 27 H := nb_mono fun _ _ h => (giS_iff.1 h).1
structure WInv (t : Tm) (p : Pg) (F K : Nat → Bool) : Prop where
  top : ∀ i, i < 27 → wF (.whl t p) F i = true → K i = true
  low : ∀ i, i < 27 → K i = true → tst t i = true ∨ F i = true
theorem WInv.start (t : Tm) (p : Pg) (F : Nat → Bool) : WInv t p F (fun i => tst t i || F i) where
  top := by
    intro i _ hw
    cases ht : tst t i
    · rw [Bool.false_or]; exact wF_iff.1 hw i ⟨.refl i, ht⟩
    · rfl
  low := fun i _ h => by rwa [Bool.or_eq_true] at h
theorem WInv.step {t : Tm} {p : Pg} (hp : p.ok false) {F K : Nat → Bool} (h : WInv t p F K) : WInv t p F (giS (tst t) (rT p) K) where
  top := by
    intro i hi hw
    rw [giS_iff]
    refine ⟨h.top i hi hw, ?_⟩
    cases ht : tst t i
    · exact .inr rfl
    · left
      rw [← wF_eq hp hi, wF_iff]
      exact fun m hm => h.top m (fin_lt hp hi hm) (wF_iff.2 fun j hj => wF_iff.1 hw j ⟨.head ⟨ht, hm⟩ hj.1, hj.2⟩)
  low := fun i hi h' => h.low i hi (giS_iff.1 h').1
theorem WInv.done {t : Tm} {p : Pg} (hp : p.ok false) {F K : Nat → Bool} (h : WInv t p F K) (e : nb 27 (giS (tst t) (rT p) K) = nb 27 K) : nb 27 K = nb 27 (wF (.whl t p) F) := by
  refine nb_congr fun i hi => ?_
  rw [Bool.eq_iff_iff]
  constructor
  · intro hk
    rw [wF_iff]
    rintro j ⟨hs, hj⟩
    have hs' : Star (fun u v => mdl.t t u = true ∧ Fin mdl p u v) i j := hs
    clear hs
    have : ∀ u v : Nat, Star (fun u v => mdl.t t u = true ∧ Fin mdl p u v) u v → u < 27 → K u = true → v < 27 ∧ K v = true := by
      intro u v hst
      induction hst with
      | refl => exact fun a b => ⟨a, b⟩
      | head h1 _ ih =>
        intro hu hk
        rename_i u m v _
        have h2 := nb_inj e u hu
        rw [hk] at h2
        have h5 : tst t u = true := h1.1
        rcases (giS_iff.1 h2).2 with h4 | h3
        · rw [← wF_eq hp hu] at h4
          exact ih (fin_lt hp hu h1.2) (wF_iff.1 h4 m h1.2)
        · rw [h3] at h5; cases h5
    obtain ⟨hj27, hkj⟩ := this i j hs' hi hk
    rcases h.low j hj27 hkj with h3 | h4
    · have h5 : tst t j = false := hj
      rw [h3] at h5; cases h5
    · exact h4
  · exact h.top i hi
/-- What a loop keeps. -/
noncomputable def kpS (t : Tm) (p : Pg) (F : Nat → Bool) : Bool := wi 27 (fun i => F i && tst t i) (wF p F)
theorem keep_eq {t : Tm} {p : Pg} (hp : p.ok false) {F : Nat → Bool} : (!upto 27 (fun j => postS (fun i => F i && tst t i) (rT p) 27 j && !F j)) = kpS t p F := by
  unfold kpS
  rw [Bool.eq_iff_iff, Bool.not_eq_true', ← Bool.not_eq_true, upto_iff, wi_iff]
  constructor
  · intro h i hi h1
    rw [wF_eq hp hi]
    unfold frS
    rw [Bool.not_eq_true', ← Bool.not_eq_true, upto_iff]
    rintro ⟨j, hj, h2⟩
    rw [Bool.and_eq_true] at h2
    exact h ⟨j, hj, by rw [Bool.and_eq_true]; exact ⟨upto_iff.2 ⟨i, hi, by rw [Bool.and_eq_true]; exact ⟨h1, h2.1⟩⟩, h2.2⟩⟩
  · rintro h ⟨j, hj, h1⟩
    rw [Bool.and_eq_true] at h1
    obtain ⟨i, hi, h2⟩ := upto_iff.1 h1.1
    rw [Bool.and_eq_true] at h2
    have h3 := h i hi h2.1
    rw [wF_eq hp hi] at h3
    unfold frS at h3
    rw [Bool.not_eq_true', ← Bool.not_eq_true, upto_iff] at h3
    exact h3 ⟨j, hj, by rw [Bool.and_eq_true]; exact ⟨h2.2, h1.2⟩⟩
theorem s_keeps (t : Tm) {p : Pg} (hp : p.ok false) (F : Nat → Bool) : (bits .andNot .i64 (nb 27 (postS (fun i => F i && tst t i) (rT p) 27) : Nat) (nb 27 F : Nat) == 0) = kpS t p F := by rw [s_andNot, eql0, keep_eq hp]

/-! ### WeakestInvariant -/
set_option maxRecDepth 100000 in
set_option maxHeartbeats 4000000 in
theorem implWeak_yes (q s b : ByteArray) {t : Tm} {p : Pg} (ht : Ok false true t) (hs0 : s.data.toList = t.ser) (hl : s.size ≤ 200) (hp : p.ok false) (he : b.data.toList = p.ser) (hl2 : b.size ≤ 200) (hq : Set27 q) (w : World) : Calls Tryz.prog 35 #[.string s, .string b, .string q] w (TextPost (wF (.whl t p) (hs q.data.toList)) w) := by
  have CL := fun w => Lib.hid (readLoop_yes s b ht hs0 hl hp he hl2 w)
  have CQ := fun w => Lib.hid (implRead_yes q w hq)
  have CC := Lib.hid (cond_any (.whl t p) (whl_ok ht hp))
  clear ht hs0 hl hp he hl2 hq
  go_enter Tryz.func35, Tryz.ntmps35
  go_wp2_with fail
  refine (CL _).out.mono ?_
  rintro e w1 ⟨xc, ya, yn, ym, T, u, rfl, hst, hb⟩
  have KB := Lib.hid hb
  clear hb
  have P0 := Lib.hid (Blk.new w1 #[.int .u8 xc, .slice ya yn ym, .iface T (.agg u)] 104)
  have pb := (Below.refl w1.heap.size w1).alloc (Nat.le_refl _) (.cells #[.int .u8 xc, .slice ya yn ym, .iface T (.agg u)] 104)
  have D := Lib.hid (CC.out _ _ _ _ hst _ pb)
  replace KB := Lib.hid (bnext KB.out pb)
  obtain ⟨q0, q1, q2⟩ := P0.out.c3
  clear pb hst
  go_wp2_with fail
  generalize w1.alloc (.cells #[.int .u8 xc, .slice ya yn ym, .iface T (.agg u)] 104) = wx at *
  refine (CQ _).out.mono ?_
  rintro e w2 ⟨rfl, rfl⟩
  go_wp2_with fail
  refine D.out.mono ?_
  rintro e w3 ⟨fn, caps, rfl, ⟨fn', caps', e1, hcf, hcall⟩, hb⟩
  cases e1
  replace KB := Lib.hid (bnext KB.out hb)
  have HC := Lib.hid (hcall w3 (Agr.refl _ _ _) (hs q.data.toList))
  clear hb hcall q0 q1 q2
  go_wp2_with fail
  refine HC.out.mono ?_
  rintro e w4 ⟨rfl, hb⟩
  replace KB := Lib.hid (bnext KB.out hb)
  clear hb
  go_wp2_with fail
  refine (implText _ _).mono ?_
  rintro e w6 ⟨rfl, hb⟩
  replace KB := Lib.hid (bnext KB.out hb)
  clear hb
  go_wp2_with fail
  go_ret2
  exact ⟨rfl, KB.out⟩
set_option maxRecDepth 100000 in
set_option maxHeartbeats 4000000 in
theorem implWeak_no (q s b : ByteArray) (h : ¬ ((IsT s ∧ IsP b) ∧ Set27 q)) (w : World) : Calls Tryz.prog 35 #[.string s, .string b, .string q] w (NoPost w) := by
  by_cases hx : IsT s ∧ IsP b
  · have hq : ¬ Set27 q := fun hq => h ⟨hx, hq⟩
    obtain ⟨⟨⟨t, ht, hs0⟩, hl⟩, ⟨⟨p, hp, he⟩, hl2⟩⟩ := hx
    have CL := fun w => Lib.hid (readLoop_yes s b ht hs0 hl hp he hl2 w)
    have CQ := fun w => Lib.hid (implRead_no q w hq)
    clear ht hs0 hl hp he hl2 hq h
    go_enter Tryz.func35, Tryz.ntmps35
    go_wp2_with fail
    refine (CL _).out.mono ?_
    rintro e w1 ⟨xc, ya, yn, ym, T, u, rfl, hst, hb⟩
    have KB := Lib.hid hb
    clear hb hst
    have pb := (Below.refl w1.heap.size w1).alloc (Nat.le_refl _) (.cells #[.int .u8 xc, .slice ya yn ym, .iface T (.agg u)] 104)
    replace KB := Lib.hid (bnext KB.out pb)
    clear pb
    go_wp2_with fail
    refine (CQ _).out.mono ?_
    rintro e w2 ⟨rfl, rfl⟩
    go_wp2_with fail
    go_ret2
    exact ⟨rfl, KB.out⟩
  · have CL := fun w => Lib.hid (readLoop_no s b hx w)
    by_cases hq : Set27 q
    · have CQ := fun w => Lib.hid (implRead_yes q w hq)
      clear hx hq h
      go_enter Tryz.func35, Tryz.ntmps35
      go_wp2_with fail
      refine (CL _).out.mono ?_
      rintro e w1 ⟨rfl, hb⟩
      have KB := Lib.hid hb
      clear hb
      have P0 := Lib.hid (Blk.new w1 #[.int .u8 0, .slice none 0 0, .nilIface] 104)
      have pb := (Below.refl w1.heap.size w1).alloc (Nat.le_refl _) (.cells #[.int .u8 0, .slice none 0 0, .nilIface] 104)
      replace KB := Lib.hid (bnext KB.out pb)
      clear pb
      go_wp2_with fail
      refine (CQ _).out.mono ?_
      rintro e w2 ⟨rfl, rfl⟩
      go_wp2_with fail
      go_ret2
      exact ⟨rfl, KB.out⟩
    · have CQ := fun w => Lib.hid (implRead_no q w hq)
      clear hx hq h
      go_enter Tryz.func35, Tryz.ntmps35
      go_wp2_with fail
      refine (CL _).out.mono ?_
      rintro e w1 ⟨rfl, hb⟩
      have KB := Lib.hid hb
      clear hb
      have P0 := Lib.hid (Blk.new w1 #[.int .u8 0, .slice none 0 0, .nilIface] 104)
      have pb := (Below.refl w1.heap.size w1).alloc (Nat.le_refl _) (.cells #[.int .u8 0, .slice none 0 0, .nilIface] 104)
      replace KB := Lib.hid (bnext KB.out pb)
      clear pb
      go_wp2_with fail
      refine (CQ _).out.mono ?_
      rintro e w2 ⟨rfl, rfl⟩
      go_wp2_with fail
      go_ret2
      exact ⟨rfl, KB.out⟩
set_option maxRecDepth 100000 in
set_option maxHeartbeats 4000000 in
theorem specWeak_yes (q s b : ByteArray) {t : Tm} {p : Pg} (ht : Ok false true t) (hs0 : s.data.toList = t.ser) (hl : s.size ≤ 200) (hp : p.ok false) (he : b.data.toList = p.ser) (hl2 : b.size ≤ 200) (hq : Set27 q) (w : World) : Calls Tryz.prog 36 #[.string s, .string b, .string q] w (TextPost (wF (.whl t p) (hs q.data.toList)) w) := by
  have CL := fun w => Lib.hid (specL5_yes s b w ⟨⟨t, ht, hs0⟩, hl⟩ ⟨⟨p, hp, he⟩, hl2⟩)
  have CQ := fun w => Lib.hid (specPredValid_yes q w hq)
  have CR := fun w => Lib.hid (run_bs hp he hl2 w)
  have CT := fun w => Lib.hid (specTest s t w (ok_wide ht) hs0 (by omega))
  have CM := fun w => Lib.hid (specMask q w hq)
  have HP := Lib.hid hp
  have HO1 := Lib.hid (s_or (tst t) (hs q.data.toList))
  clear ht hs0 hl hp he hl2 hq
  go_enter Tryz.func36, Tryz.ntmps36
  go_wp2_with fail
  refine (CL _).out.mono ?_
  rintro e w1 ⟨rfl, n0, rfl⟩
  have KB := Lib.hid (bdrewN (Below.refl w.heap.size w) n0)
  go_wp2_with fail
  refine (CQ _).out.mono ?_
  rintro e w' ⟨rfl, rfl⟩
  go_wp2_with fail
  refine (CR _).out.mono ?_
  rintro e w2 ⟨rfl, hb⟩
  replace KB := Lib.hid (bnext KB.out hb)
  clear hb
  have k0 := Blk.new w2 (allC noT noS noS) 69
  have L0 := Lib.hid k0
  have K0 := Lib.hid (k0.row (allC (rT p) (rL p) (rK p)))
  have kb := Below.setRow ((Below.refl w2.heap.size w2).alloc (Nat.le_refl _) (.cells (allC noT noS noS) 69)) (g := w2.heap.size) (Nat.le_refl _) (allC (rT p) (rL p) (rK p))
  replace KB := Lib.hid (bnext KB.out kb)
  clear k0 kb
  go_wp2_with (first
    | (refine ar_alloc rfl rfl (some 8) rfl w2.heap.size rfl ?_)
    | (refine wpList_store_row rfl 69 _ _ rfl w2.heap.size (allC (rT p) (rL p) (rK p)) (by rfl) (by rfl) 69 (allC noT noS noS) L0.out (infoAll' _ _ _) (by rw [allC_size, allC_size]) (allC_one _ _ _) ?_))
  clear L0
  generalize hwx : (w2.alloc (.cells (allC noT noS noS) 69)).setRow w2.heap.size (allC (rT p) (rL p) (rK p)) = wx at *
  clear hwx
  obtain ⟨g, hg⟩ : ∃ g, w2.heap.size = g := ⟨_, rfl⟩
  rw [hg] at K0 ⊢
  clear hg
  refine (CT _).out.mono ?_
  rintro e w3 ⟨rfl, hb⟩
  replace KB := Lib.hid (bnext KB.out hb)
  replace K0 := Lib.hid (K0.out.kept hb)
  clear hb
  go_wp2_with fail
  refine (CM _).out.mono ?_
  rintro e w4 ⟨rfl, hb⟩
  replace KB := Lib.hid (bnext KB.out hb)
  replace K0 := Lib.hid (K0.out.kept hb)
  clear hb
  go_wp2_with fail
  rw [HO1.out]
  go_loopw [10, 11] (fun v d wr => ∃ (H : Nat → Bool) (m : Int), v = .int .i64 (nb 27 H) ∧ d = .int .i64 m ∧ Hid (WInv t p (hs q.data.toList) H) ∧ Hid (m = (nb 27 H : Nat) → nb 27 (giS (tst t) (rT p) H) = nb 27 H) ∧ Hid (Blk wr g (allC (rT p) (rL p) (rK p)) 69) ∧ Hid (Below w.heap.size w wr)) (fun v d _ => (intOf v).toNat * 2 + if intOf d = intOf v then 0 else 1)
  case atStart => exact ⟨fun i => tst t i || hs q.data.toList i, -1, rfl, rfl, WInv.start _ _ _, fun h => by have := nb_lt27 (fun i => tst t i || hs q.data.toList i); omega, K0, KB⟩
  case round =>
    clear K0 KB
    obtain ⟨H, m, rfl, rfl, RI, RD, R0, RB⟩ := hrel
    by_cases hm : m = (nb 27 H : Nat)
    · have hne : (m != ((nb 27 H : Nat) : Int)) = false := by rw [bne_eq_false_iff_eq]; exact hm
      have HF := Lib.hid (RI.out.done HP.out (RD.out hm))
      clear hm RD
      go_wp2_with fail
      refine (specTextS _ _).mono ?_
      rintro e w5 ⟨rfl, hb⟩
      replace RB := Lib.hid (bnext RB.out hb)
      clear hb
      go_wp2_with fail
      go_ret2
      exact ⟨by rw [← tb_of_nb HF.out]; rfl, RB.out⟩
    · have hne : (m != ((nb 27 H : Nat) : Int)) = true := by rw [bne_iff_ne]; exact hm
      have HM := Lib.hid hm
      have HN : Hid (bits .andNot .i64 134217727 (nb 27 (tst t) : Nat) = (nb 27 (fun i => true && !tst t i) : Nat)) := by
        have := s_andNot (fun _ => true) (tst t)
        rw [nb_all] at this
        exact this
      have HO := Lib.hid (s_or (frS (rT p) H) (fun i => true && !tst t i))
      have HA := Lib.hid (s_and H (fun i => frS (rT p) H i || (true && !tst t i)))
      clear hm
      go_wp2_with (refine wpList_load_row rfl 69 _ rfl g (by rfl) 69 (allC (rT p) (rL p) (rK p)) (0, 0) _ R0.out undAll rfl (infoAll' _ _ _) ?_)
      refine (specFree (rT p) (rL p) (rK p) H _).mono ?_
      rintro e w5 ⟨rfl, hb⟩
      replace RB := Lib.hid (bnext RB.out hb)
      replace R0 := Lib.hid (R0.out.kept hb)
      clear hb hne
      go_wp2_with fail
      rw [HN.out, HO.out, HA.out]
      refine ⟨⟨giS (tst t) (rT p) H, nb 27 H, rfl, rfl, RI.out.step HP.out, ?_, R0, RB⟩, ?_⟩
      · exact fun h => giS_stop (by exact_mod_cast h)
      · have h1 := giS_le (T := tst t) (B := rT p) (H := H)
        have h3 := HM.out
        show ((nb 27 (giS (tst t) (rT p) H) : Nat) : Int).toNat * 2 + (if ((nb 27 H : Nat) : Int) = ((nb 27 (giS (tst t) (rT p) H) : Nat) : Int) then 0 else 1) < ((nb 27 H : Nat) : Int).toNat * 2 + (if m = ((nb 27 H : Nat) : Int) then 0 else 1)
        rw [if_neg h3]
        split <;> omega
set_option maxRecDepth 100000 in
set_option maxHeartbeats 4000000 in
theorem specWeak_no (q s b : ByteArray) (h : ¬ ((IsT s ∧ IsP b) ∧ Set27 q)) (hm : q.size ≤ maxLen) (w : World) : Calls Tryz.prog 36 #[.string s, .string b, .string q] w (NoPost w) := by
  by_cases hx : IsT s ∧ IsP b
  · have hq : ¬ Set27 q := fun hq => h ⟨hx, hq⟩
    have CL := fun w => Lib.hid (specL5_yes s b w hx.1 hx.2)
    have CQ := fun w => Lib.hid (specPredValid_no q w hq hm)
    clear hx hq h
    go_enter Tryz.func36, Tryz.ntmps36
    go_wp2_with fail
    refine (CL _).out.mono ?_
    rintro e w1 ⟨rfl, n0, rfl⟩
    go_wp2_with fail
    refine (CQ _).out.mono ?_
    rintro e w' ⟨rfl, rfl⟩
    go_wp2_with fail
    go_ret2
    exact ⟨rfl, bdrewN (Below.refl _ _) n0⟩
  · have CL := fun w => Lib.hid (specL5_no s b w hx)
    clear hx h
    go_enter Tryz.func36, Tryz.ntmps36
    go_wp2_with fail
    refine (CL _).out.mono ?_
    rintro e w1 ⟨rfl, n0, rfl⟩
    go_wp2_with fail
    go_ret2
    exact ⟨rfl, bdrewN (Below.refl _ _) n0⟩

/-! ### LoopKeeps -/
theorem implWithinB (F G : Nat → Bool) (w : World) : Calls Tryz.prog 81 #[.int .u32 (nb 27 F), .int .u32 (nb 27 G)] w fun e w' => e = .returned (.bool (wi 27 F G)) ∧ Below w.heap.size w w' := (implWithin F G w).mono fun _ _ ⟨h1, h2⟩ => ⟨h1, h2 ▸ Below.refl _ _⟩
set_option maxRecDepth 100000 in
set_option maxHeartbeats 4000000 in
theorem keeps_any {w0 : World} {B : Nat} {t : Tm} {p : Pg} (ht : Ok false true t) (hp : p.ok false) {xc : Int} {ya : Option Addr} {yn ym : Nat} {T : TypeId} {u : Array Value} (hst : StV w0 B (.whl t p) (.iface 104 (.agg #[.int .u8 xc, .slice ya yn ym, .iface T (.agg u)]))) (F : Nat → Bool) (w : World) (hb0 : Below w0.heap.size w0 w) : Calls Tryz.prog 92 #[.agg #[.int .u8 xc, .slice ya yn ym, .iface T (.agg u)], .int .u32 (nb 27 F)] w fun e w' => e = .returned (.bool (kpS t p F)) ∧ Below w.heap.size w w' := by
  obtain ⟨x, y, a, e1, hr, hs1⟩ := hst
  cases e1
  have HB0 := Lib.hid hb0
  have K0 := Blk.new w #[.int .u8 xc, .slice ya yn ym, .iface T (.agg u)] 104
  have KB := Lib.hid ((Below.refl w.heap.size w).alloc (Nat.le_refl _) (.cells #[.int .u8 xc, .slice ya yn ym, .iface T (.agg u)] 104))
  obtain ⟨q0, q1, q2⟩ := K0.c3
  have S := fun w' (h : Below w.heap.size w w') => Lib.hid (implStates t B xc ya yn ym w' ht (hr.rep.below (bnext HB0.out h)))
  have CC := fun w' (h : Below w.heap.size w w') => Lib.hid (cond_any p hp w0 B T u hs1 w' (bnext HB0.out h))
  have HW : ∀ (G : Nat → Bool) (w : World), Hid (Calls Tryz.prog 81 #[.int .u32 (bits .and .u32 (nb 27 F : Nat) (nb 27 (tst t) : Nat)), .int .u32 (nb 27 G)] w fun e w' => e = .returned (.bool (wi 27 (fun i => F i && tst t i) G)) ∧ Below w.heap.size w w') := fun G w => by rw [u_and]; exact implWithinB _ _ _
  have KP : kpS t p F = wi 27 (fun i => F i && tst t i) (wF p F) := rfl
  have HK := Lib.hid KP
  clear hb0 hr hs1 ht hp KP K0
  go_enter Tryz.func92, Tryz.ntmps92
  go_wp2_with fail
  generalize w.alloc (.cells #[.int .u8 xc, .slice ya yn ym, .iface T (.agg u)] 104) = W at *
  have hbb := (Below.refl W.heap.size W).drew
  have RG : ∀ w', Below W.heap.size W w' → Below W.heap.size W w' ∧ w'.cell? ⟨w.heap.size, 0, none⟩ = some (.int .u8 xc) ∧ w'.cell? ⟨w.heap.size, 1, none⟩ = some (.slice ya yn ym) ∧ w'.cell? ⟨w.heap.size, 2, none⟩ = some (.iface T (.agg u)) := fun w' h => ⟨h, ckeep h q0, ckeep h q1, ckeep h q2⟩
  have RG' := Lib.hid RG
  clear RG q0 q1 q2
  go_region_held3 (fun w' => Below W.heap.size W w' ∧ w'.cell? ⟨w.heap.size, 0, none⟩ = some (.int .u8 xc) ∧ w'.cell? ⟨w.heap.size, 1, none⟩ = some (.slice ya yn ym) ∧ w'.cell? ⟨w.heap.size, 2, none⟩ = some (.iface T (.agg u)))
    ((first
      | exact RG'.out _ (by assumption)
      | (go_split_ands; exact RG'.out _ (bnext (by assumption) hq))))
    (first
      | ((with_reducible refine (S _ (bnext KB.out (by go_split_ands; assumption))).out.mono ?_); rintro e w5 ⟨rfl, hq⟩)
      | ((with_reducible refine (CC _ (bnext KB.out (by go_split_ands; assumption))).out.mono ?_); rintro e w5 ⟨fn, caps, rfl, ⟨fn', caps', e1, hcf, hcall⟩, hq⟩; cases e1)
      | ((with_reducible refine (HW _ _).out.mono ?_); rintro e w5 ⟨rfl, hq⟩)
      | ((with_reducible refine (hcall _ (by first | exact Agr.refl _ _ _ | exact Agr.of (by assumption)) _).mono ?_); rintro e w5 ⟨rfl, hq⟩))
  all_goals
    go_split_ands
    have HF := Lib.hid (bnext KB.out (by assumption))
    go_wp2_with fail
    go_ret
    exact ⟨by rw [HK.out]; rfl, HF.out⟩
set_option maxRecDepth 100000 in
set_option maxHeartbeats 4000000 in
theorem implKeeps_yes (q s b : ByteArray) {t : Tm} {p : Pg} (ht : Ok false true t) (hs0 : s.data.toList = t.ser) (hl : s.size ≤ 200) (hp : p.ok false) (he : b.data.toList = p.ser) (hl2 : b.size ≤ 200) (hq : Set27 q) (w : World) : Calls Tryz.prog 37 #[.string s, .string b, .string q] w fun e w' => e = .returned (.bool (kpS t p (hs q.data.toList))) ∧ Below w.heap.size w w' := by
  have CL := fun w => Lib.hid (readLoop_yes s b ht hs0 hl hp he hl2 w)
  have CQ := fun w => Lib.hid (implRead_yes q w hq)
  have CC := fun {w0 : World} {B : Nat} {xc : Int} {ya : Option Addr} {yn ym : Nat} {T : TypeId} {u : Array Value} hst w hb => Lib.hid (keeps_any (w0 := w0) (B := B) (xc := xc) (ya := ya) (yn := yn) (ym := ym) (T := T) (u := u) ht hp hst (hs q.data.toList) w hb)
  clear ht hs0 hl hp he hl2 hq
  go_enter Tryz.func37, Tryz.ntmps37
  go_wp2_with fail
  refine (CL _).out.mono ?_
  rintro e w1 ⟨xc, ya, yn, ym, T, u, rfl, hst, hb⟩
  have KB := Lib.hid hb
  clear hb
  have P0 := Lib.hid (Blk.new w1 #[.int .u8 xc, .slice ya yn ym, .iface T (.agg u)] 104)
  have pb := (Below.refl w1.heap.size w1).alloc (Nat.le_refl _) (.cells #[.int .u8 xc, .slice ya yn ym, .iface T (.agg u)] 104)
  have D := Lib.hid (CC hst _ pb).out
  replace KB := Lib.hid (bnext KB.out pb)
  obtain ⟨q0, q1, q2⟩ := P0.out.c3
  clear pb hst
  go_wp2_with fail
  generalize w1.alloc (.cells #[.int .u8 xc, .slice ya yn ym, .iface T (.agg u)] 104) = wx at *
  refine (CQ _).out.mono ?_
  rintro e w2 ⟨rfl, rfl⟩
  go_wp2_with fail
  refine D.out.mono ?_
  rintro e w3 ⟨rfl, hb⟩
  replace KB := Lib.hid (bnext KB.out hb)
  clear hb q0 q1 q2
  go_wp2_with fail
  go_ret
  exact ⟨rfl, KB.out⟩
set_option maxRecDepth 100000 in
set_option maxHeartbeats 4000000 in
theorem implKeeps_no (q s b : ByteArray) (h : ¬ ((IsT s ∧ IsP b) ∧ Set27 q)) (w : World) : Calls Tryz.prog 37 #[.string s, .string b, .string q] w (fun e w' => e = .returned (.bool false) ∧ Below w.heap.size w w') := by
  by_cases hx : IsT s ∧ IsP b
  · have hq : ¬ Set27 q := fun hq => h ⟨hx, hq⟩
    obtain ⟨⟨⟨t, ht, hs0⟩, hl⟩, ⟨⟨p, hp, he⟩, hl2⟩⟩ := hx
    have CL := fun w => Lib.hid (readLoop_yes s b ht hs0 hl hp he hl2 w)
    have CQ := fun w => Lib.hid (implRead_no q w hq)
    clear ht hs0 hl hp he hl2 hq h
    go_enter Tryz.func37, Tryz.ntmps37
    go_wp2_with fail
    refine (CL _).out.mono ?_
    rintro e w1 ⟨xc, ya, yn, ym, T, u, rfl, hst, hb⟩
    have KB := Lib.hid hb
    clear hb hst
    have pb := (Below.refl w1.heap.size w1).alloc (Nat.le_refl _) (.cells #[.int .u8 xc, .slice ya yn ym, .iface T (.agg u)] 104)
    replace KB := Lib.hid (bnext KB.out pb)
    clear pb
    go_wp2_with fail
    refine (CQ _).out.mono ?_
    rintro e w2 ⟨rfl, rfl⟩
    go_wp2_with fail
    go_ret
    exact ⟨rfl, KB.out⟩
  · have CL := fun w => Lib.hid (readLoop_no s b hx w)
    by_cases hq : Set27 q
    · have CQ := fun w => Lib.hid (implRead_yes q w hq)
      clear hx hq h
      go_enter Tryz.func37, Tryz.ntmps37
      go_wp2_with fail
      refine (CL _).out.mono ?_
      rintro e w1 ⟨rfl, hb⟩
      have KB := Lib.hid hb
      clear hb
      have P0 := Lib.hid (Blk.new w1 #[.int .u8 0, .slice none 0 0, .nilIface] 104)
      have pb := (Below.refl w1.heap.size w1).alloc (Nat.le_refl _) (.cells #[.int .u8 0, .slice none 0 0, .nilIface] 104)
      replace KB := Lib.hid (bnext KB.out pb)
      clear pb
      go_wp2_with fail
      refine (CQ _).out.mono ?_
      rintro e w2 ⟨rfl, rfl⟩
      go_wp2_with fail
      go_ret
      exact ⟨rfl, KB.out⟩
    · have CQ := fun w => Lib.hid (implRead_no q w hq)
      clear hx hq h
      go_enter Tryz.func37, Tryz.ntmps37
      go_wp2_with fail
      refine (CL _).out.mono ?_
      rintro e w1 ⟨rfl, hb⟩
      have KB := Lib.hid hb
      clear hb
      have P0 := Lib.hid (Blk.new w1 #[.int .u8 0, .slice none 0 0, .nilIface] 104)
      have pb := (Below.refl w1.heap.size w1).alloc (Nat.le_refl _) (.cells #[.int .u8 0, .slice none 0 0, .nilIface] 104)
      replace KB := Lib.hid (bnext KB.out pb)
      clear pb
      go_wp2_with fail
      refine (CQ _).out.mono ?_
      rintro e w2 ⟨rfl, rfl⟩
      go_wp2_with fail
      go_ret
      exact ⟨rfl, KB.out⟩
set_option maxRecDepth 100000 in
set_option maxHeartbeats 4000000 in
theorem specKeeps_yes (q s b : ByteArray) {t : Tm} {p : Pg} (ht : Ok false true t) (hs0 : s.data.toList = t.ser) (hl : s.size ≤ 200) (hp : p.ok false) (he : b.data.toList = p.ser) (hl2 : b.size ≤ 200) (hq : Set27 q) (w : World) : Calls Tryz.prog 48 #[.string s, .string b, .string q] w fun e w' => e = .returned (.bool (kpS t p (hs q.data.toList))) ∧ Below w.heap.size w w' := by
  have CL := fun w => Lib.hid (specL5_yes s b w ⟨⟨t, ht, hs0⟩, hl⟩ ⟨⟨p, hp, he⟩, hl2⟩)
  have CQ := fun w => Lib.hid (specPredValid_yes q w hq)
  have CR := fun w => Lib.hid (run_bs hp he hl2 w)
  have CT := fun w => Lib.hid (specTest s t w (ok_wide ht) hs0 (by omega))
  have CM := fun w => Lib.hid (specMask q w hq)
  have HA := Lib.hid (s_and (hs q.data.toList) (tst t))
  have HK := Lib.hid (s_keeps t hp (hs q.data.toList))
  clear ht hs0 hl hp he hl2 hq
  go_enter Tryz.func48, Tryz.ntmps48
  go_wp2_with fail
  refine (CL _).out.mono ?_
  rintro e w1 ⟨rfl, n0, rfl⟩
  have KB := Lib.hid (bdrewN (Below.refl w.heap.size w) n0)
  go_wp2_with fail
  refine (CQ _).out.mono ?_
  rintro e w' ⟨rfl, rfl⟩
  go_wp2_with fail
  refine (CM _).out.mono ?_
  rintro e w2 ⟨rfl, hb⟩
  replace KB := Lib.hid (bnext KB.out hb)
  clear hb
  go_wp2_with fail
  refine (CR _).out.mono ?_
  rintro e w3 ⟨rfl, hb⟩
  replace KB := Lib.hid (bnext KB.out hb)
  clear hb
  go_wp2_with fail
  refine (CT _).out.mono ?_
  rintro e w4 ⟨rfl, hb⟩
  replace KB := Lib.hid (bnext KB.out hb)
  clear hb
  go_wp2_with fail
  rw [HA.out]
  refine (specPost _ _ _ _ _).mono ?_
  rintro e w5 ⟨rfl, hb⟩
  replace KB := Lib.hid (bnext KB.out hb)
  clear hb
  go_wp2_with fail
  go_ret
  exact ⟨by rw [← HK.out]; rfl, KB.out⟩
set_option maxRecDepth 100000 in
set_option maxHeartbeats 4000000 in
theorem specKeeps_no (q s b : ByteArray) (h : ¬ ((IsT s ∧ IsP b) ∧ Set27 q)) (hm : q.size ≤ maxLen) (w : World) : Calls Tryz.prog 48 #[.string s, .string b, .string q] w (fun e w' => e = .returned (.bool false) ∧ Below w.heap.size w w') := by
  by_cases hx : IsT s ∧ IsP b
  · have hq : ¬ Set27 q := fun hq => h ⟨hx, hq⟩
    have CL := fun w => Lib.hid (specL5_yes s b w hx.1 hx.2)
    have CQ := fun w => Lib.hid (specPredValid_no q w hq hm)
    clear hx hq h
    go_enter Tryz.func48, Tryz.ntmps48
    go_wp2_with fail
    refine (CL _).out.mono ?_
    rintro e w1 ⟨rfl, n0, rfl⟩
    go_wp2_with fail
    refine (CQ _).out.mono ?_
    rintro e w' ⟨rfl, rfl⟩
    go_wp2_with fail
    go_ret
    exact ⟨rfl, bdrewN (Below.refl _ _) n0⟩
  · have CL := fun w => Lib.hid (specL5_no s b w hx)
    clear hx h
    go_enter Tryz.func48, Tryz.ntmps48
    go_wp2_with fail
    refine (CL _).out.mono ?_
    rintro e w1 ⟨rfl, n0, rfl⟩
    go_wp2_with fail
    go_ret
    exact ⟨rfl, bdrewN (Below.refl _ _) n0⟩
end Go.Proofs.YthmghadepimcnaaGreat

namespace Go.Proofs.YthmghadepimcnaaGreat
open Go.RowKit Tm Go.Great Classical

theorem set27_tb' (F : Nat → Bool) : Set27 (bs (tb F)) := by
  unfold Set27
  rw [show (bs (tb F)).data.toList = tb F by simp [bs]]
  exact bits_tbn 27 F
theorem set27_le (F : Nat → Bool) : (bs (tb F)).size ≤ maxLen := by
  have := set27_tb' F
  have h27 : (bs (tb F)).size = 27 := by have := this.1; simpa using this
  rw [h27]; unfold maxLen; omega

/-! ### TripleHolds -/
set_option maxRecDepth 100000 in
set_option maxHeartbeats 4000000 in
theorem implTriple_yes (a s q : ByteArray) {p : Pg} (hp : p.ok false) (he : s.data.toList = p.ser) (hl : s.size ≤ 200) (hq : Set27 q) (ha : Set27 a) (w : World) : Calls Tryz.prog 25 #[.string a, .string s, .string q] w fun e w' => e = .returned (.bool (wi 27 (hs a.data.toList) (hs (bs (tb (wF p (hs q.data.toList)))).data.toList))) ∧ Below w.heap.size w w' := by
  have CA := fun w => Lib.hid (implFree_yes s q hp he hl hq w)
  have CW := fun w => Lib.hid (implPWithin_yes a (bs (tb (wF p (hs q.data.toList)))) w ha (set27_tb' _))
  clear hp he hl hq ha
  go_enter Tryz.func25, Tryz.ntmps25
  go_wp2_with fail
  refine (CA _).out.mono ?_
  rintro e w1 ⟨rfl, hb⟩
  have HB := Lib.hid hb
  clear hb
  go_wp2_with fail
  refine (CW _).out.mono ?_
  rintro e w2 ⟨rfl, rfl⟩
  go_wp2_with fail
  go_ret
  exact ⟨rfl, HB.out⟩
set_option maxRecDepth 100000 in
set_option maxHeartbeats 4000000 in
theorem implTriple_out (a s q : ByteArray) {p : Pg} (hp : p.ok false) (he : s.data.toList = p.ser) (hl : s.size ≤ 200) (hq : Set27 q) (ha : ¬ Set27 a) (w : World) : Calls Tryz.prog 25 #[.string a, .string s, .string q] w fun e w' => e = .returned (.bool (false)) ∧ Below w.heap.size w w' := by
  have CA := fun w => Lib.hid (implFree_yes s q hp he hl hq w)
  have CW := fun w => Lib.hid (implPWithin_no a (bs (tb (wF p (hs q.data.toList)))) w (fun h => ha h.1))
  clear hp he hl hq ha
  go_enter Tryz.func25, Tryz.ntmps25
  go_wp2_with fail
  refine (CA _).out.mono ?_
  rintro e w1 ⟨rfl, hb⟩
  have HB := Lib.hid hb
  clear hb
  go_wp2_with fail
  refine (CW _).out.mono ?_
  rintro e w2 ⟨rfl, rfl⟩
  go_wp2_with fail
  go_ret
  exact ⟨rfl, HB.out⟩
set_option maxRecDepth 100000 in
set_option maxHeartbeats 4000000 in
theorem implTriple_no (a s q : ByteArray) (h : ¬ (IsP s ∧ Set27 q)) (w : World) : Calls Tryz.prog 25 #[.string a, .string s, .string q] w fun e w' => e = .returned (.bool (false)) ∧ Below w.heap.size w w' := by
  have CA := fun w => Lib.hid (implFree_no s q h w)
  clear h
  go_enter Tryz.func25, Tryz.ntmps25
  go_wp2_with fail
  refine (CA _).out.mono ?_
  rintro e w1 ⟨rfl, hb⟩
  have HB := Lib.hid hb
  clear hb
  go_wp2_with fail
  go_ret
  exact ⟨rfl, HB.out⟩
set_option maxRecDepth 100000 in
set_option maxHeartbeats 4000000 in
theorem specTriple_yes (a s q : ByteArray) {p : Pg} (hp : p.ok false) (he : s.data.toList = p.ser) (hl : s.size ≤ 200) (hq : Set27 q) (ha : Set27 a) (hmq : q.size ≤ maxLen) (w : World) : Calls Tryz.prog 53 #[.string a, .string s, .string q] w fun e w' => e = .returned (.bool (wi 27 (hs a.data.toList) (hs (bs (tb (wF p (hs q.data.toList)))).data.toList))) ∧ Below w.heap.size w w' := by
  have CA := fun w => Lib.hid (specFree_yes s q hp he hl hq hmq w)
  have CW := fun w => Lib.hid (specPWithin_yes a (bs (tb (wF p (hs q.data.toList)))) w ha (set27_tb' _))
  clear hp he hl hq ha
  go_enter Tryz.func53, Tryz.ntmps53
  go_wp2_with fail
  refine (CA _).out.mono ?_
  rintro e w1 ⟨rfl, hb⟩
  have HB := Lib.hid hb
  clear hb
  go_wp2_with fail
  refine (CW _).out.mono ?_
  rintro e w2 ⟨rfl, hb⟩
  replace HB := Lib.hid (bnext HB.out hb)
  clear hb
  go_wp2_with fail
  go_ret
  exact ⟨rfl, HB.out⟩
set_option maxRecDepth 100000 in
set_option maxHeartbeats 4000000 in
theorem specTriple_out (a s q : ByteArray) {p : Pg} (hp : p.ok false) (he : s.data.toList = p.ser) (hl : s.size ≤ 200) (hq : Set27 q) (ha : ¬ Set27 a) (hma : a.size ≤ maxLen) (hmq : q.size ≤ maxLen) (w : World) : Calls Tryz.prog 53 #[.string a, .string s, .string q] w fun e w' => e = .returned (.bool (false)) ∧ Below w.heap.size w w' := by
  have CA := fun w => Lib.hid (specFree_yes s q hp he hl hq hmq w)
  have CW := fun w => Lib.hid (specPWithin_no a (bs (tb (wF p (hs q.data.toList)))) w (fun h => ha h.1) hma (set27_le _))
  clear hp he hl hq ha
  go_enter Tryz.func53, Tryz.ntmps53
  go_wp2_with fail
  refine (CA _).out.mono ?_
  rintro e w1 ⟨rfl, hb⟩
  have HB := Lib.hid hb
  clear hb
  go_wp2_with fail
  refine (CW _).out.mono ?_
  rintro e w2 ⟨rfl, hb⟩
  replace HB := Lib.hid (bnext HB.out hb)
  clear hb
  go_wp2_with fail
  go_ret
  exact ⟨rfl, HB.out⟩
set_option maxRecDepth 100000 in
set_option maxHeartbeats 4000000 in
theorem specTriple_no (a s q : ByteArray) (h : ¬ (IsP s ∧ Set27 q)) (hmq : q.size ≤ maxLen) (w : World) : Calls Tryz.prog 53 #[.string a, .string s, .string q] w fun e w' => e = .returned (.bool (false)) ∧ Below w.heap.size w w' := by
  have CA := fun w => Lib.hid (specFree_no s q hmq h w)
  clear h
  go_enter Tryz.func53, Tryz.ntmps53
  go_wp2_with fail
  refine (CA _).out.mono ?_
  rintro e w1 ⟨rfl, hb⟩
  have HB := Lib.hid hb
  clear hb
  go_wp2_with fail
  go_ret
  exact ⟨rfl, HB.out⟩

/-! ### ProvesLoop -/
theorem wi_upto (S Z : Nat → Bool) : (!upto 27 (fun i => S i && !Z i)) = wi 27 S Z := by
  rw [Bool.eq_iff_iff, Bool.not_eq_true', ← Bool.not_eq_true, upto_iff, wi_iff]
  constructor
  · intro h i hi h1
    cases hz : Z i
    · exact absurd ⟨i, hi, by rw [h1, hz]; rfl⟩ h
    · rfl
  · rintro h ⟨i, hi, h1⟩
    rw [Bool.and_eq_true] at h1
    rw [h i hi h1.1] at h1
    cases h1.2
theorem s_leave (Q T Z : Nat → Bool) : (bits .andNot .i64 (bits .andNot .i64 (nb 27 Q : Nat) (nb 27 T : Nat)) (nb 27 Z : Nat) == 0) = wi 27 (fun i => Q i && !T i) Z := by rw [s_andNot, s_andNot, eql0]; exact wi_upto _ _
set_option maxRecDepth 100000 in
set_option maxHeartbeats 4000000 in
theorem implProves_yes (a s b q z : ByteArray) {t : Tm} {p : Pg} (ht : Ok false true t) (hs0 : s.data.toList = t.ser) (hl : s.size ≤ 200) (hp : p.ok false) (he : b.data.toList = p.ser) (hl2 : b.size ≤ 200) (hq : Set27 q) (ha : Set27 a) (hz : Set27 z) (w : World) : Calls Tryz.prog 38 #[.string a, .string s, .string b, .string q, .string z] w fun e w' => e = .returned (.bool (kpS t p (hs q.data.toList) && wi 27 (hs a.data.toList) (hs q.data.toList) && wi 27 (fun i => hs q.data.toList i && !tst t i) (hs z.data.toList))) ∧ Below w.heap.size w w' := by
  have CL := fun w => Lib.hid (readLoop_yes s b ht hs0 hl hp he hl2 w)
  have CQ := fun w => Lib.hid (implRead_yes q w hq)
  have CZ := fun w => Lib.hid (implReads_yes a z w ha hz)
  have CC := fun {w0 : World} {B : Nat} {xc : Int} {ya : Option Addr} {yn ym : Nat} {T : TypeId} {u : Array Value} hst w hb => Lib.hid (keeps_any (w0 := w0) (B := B) (xc := xc) (ya := ya) (yn := yn) (ym := ym) (T := T) (u := u) ht hp hst (hs q.data.toList) w hb)
  have CS : ∀ {w0 : World} {B : Nat} {xc : Int} {ya : Option Addr} {yn ym : Nat} {T : TypeId} {u : Array Value} (_ : StV w0 B (.whl t p) (.iface 104 (.agg #[.int .u8 xc, .slice ya yn ym, .iface T (.agg u)]))) (w : World) (_ : Below w0.heap.size w0 w), Hid (Calls Tryz.prog 93 #[.agg #[.int .u8 xc, .slice ya yn ym]] w fun e w' => e = .returned (.int .u32 (nb 27 (tst t))) ∧ Below w.heap.size w w') := by
    intro w0 B xc ya yn ym T u hst w hb
    obtain ⟨x, y, a, e1, hr, _⟩ := hst
    cases e1
    exact implStates t B xc ya yn ym w ht (hr.rep.below hb)
  have CX := fun w => Lib.hid (implWithinB (hs a.data.toList) (hs q.data.toList) w)
  have CY : ∀ w, Hid (Calls Tryz.prog 81 #[.int .u32 (bits .andNot .u32 (nb 27 (hs q.data.toList) : Nat) (nb 27 (tst t) : Nat)), .int .u32 (nb 27 (hs z.data.toList))] w fun e w' => e = .returned (.bool (wi 27 (fun i => hs q.data.toList i && !tst t i) (hs z.data.toList))) ∧ Below w.heap.size w w') := fun w => by rw [u_andNot]; exact implWithinB _ _ _
  clear ht hs0 hl hp he hl2 hq ha hz
  generalize kpS t p (hs q.data.toList) = k at *
  generalize wi 27 (hs a.data.toList) (hs q.data.toList) = x at *
  generalize wi 27 (fun i => hs q.data.toList i && !tst t i) (hs z.data.toList) = y at *
  cases k
  · go_enter Tryz.func38, Tryz.ntmps38
    go_wp2_with fail
    refine (CL _).out.mono ?_
    rintro e w1 ⟨xc, ya, yn, ym, T, u, rfl, hst, hb⟩
    have KB := Lib.hid hb
    clear hb
    have P0 := Lib.hid (Blk.new w1 #[.int .u8 xc, .slice ya yn ym, .iface T (.agg u)] 104)
    have pb := (Below.refl w1.heap.size w1).alloc (Nat.le_refl _) (.cells #[.int .u8 xc, .slice ya yn ym, .iface T (.agg u)] 104)
    have D := fun w h => Lib.hid (CC (w0 := w1) hst w h).out
    have SS := fun w h => Lib.hid (CS (w0 := w1) hst w h).out
    have PB := Lib.hid pb
    replace KB := Lib.hid (bnext KB.out pb)
    obtain ⟨q0, q1, q2⟩ := P0.out.c3
    clear pb hst
    go_wp2_with fail
    generalize w1.alloc (.cells #[.int .u8 xc, .slice ya yn ym, .iface T (.agg u)] 104) = wx at *
    refine (CQ _).out.mono ?_
    rintro e w2 ⟨rfl, rfl⟩
    go_wp2_with fail
    refine (CZ _).out.mono ?_
    rintro e w2 ⟨rfl, rfl⟩
    go_wp2_with fail
    refine (SS _ PB.out).out.mono ?_
    rintro e w3 ⟨rfl, hb⟩
    replace KB := Lib.hid (bnext KB.out hb)
    replace PB := Lib.hid (bnext PB.out hb)
    replace P0 := Lib.hid (P0.out.kept hb)
    clear hb q0 q1 q2
    obtain ⟨q0, q1, q2⟩ := P0.out.c3
    go_wp2_with fail
    refine (D _ PB.out).out.mono ?_
    rintro e w4 ⟨rfl, hb⟩
    replace KB := Lib.hid (bnext KB.out hb)
    clear hb q0 q1 q2
    go_wp2_with fail
    go_ret
    exact ⟨rfl, KB.out⟩
  · cases x
    · go_enter Tryz.func38, Tryz.ntmps38
      go_wp2_with fail
      refine (CL _).out.mono ?_
      rintro e w1 ⟨xc, ya, yn, ym, T, u, rfl, hst, hb⟩
      have KB := Lib.hid hb
      clear hb
      have P0 := Lib.hid (Blk.new w1 #[.int .u8 xc, .slice ya yn ym, .iface T (.agg u)] 104)
      have pb := (Below.refl w1.heap.size w1).alloc (Nat.le_refl _) (.cells #[.int .u8 xc, .slice ya yn ym, .iface T (.agg u)] 104)
      have D := fun w h => Lib.hid (CC (w0 := w1) hst w h).out
      have SS := fun w h => Lib.hid (CS (w0 := w1) hst w h).out
      have PB := Lib.hid pb
      replace KB := Lib.hid (bnext KB.out pb)
      obtain ⟨q0, q1, q2⟩ := P0.out.c3
      clear pb hst
      go_wp2_with fail
      generalize w1.alloc (.cells #[.int .u8 xc, .slice ya yn ym, .iface T (.agg u)] 104) = wx at *
      refine (CQ _).out.mono ?_
      rintro e w2 ⟨rfl, rfl⟩
      go_wp2_with fail
      refine (CZ _).out.mono ?_
      rintro e w2 ⟨rfl, rfl⟩
      go_wp2_with fail
      refine (SS _ PB.out).out.mono ?_
      rintro e w3 ⟨rfl, hb⟩
      replace KB := Lib.hid (bnext KB.out hb)
      replace PB := Lib.hid (bnext PB.out hb)
      replace P0 := Lib.hid (P0.out.kept hb)
      clear hb q0 q1 q2
      obtain ⟨q0, q1, q2⟩ := P0.out.c3
      go_wp2_with fail
      refine (D _ PB.out).out.mono ?_
      rintro e w4 ⟨rfl, hb⟩
      replace KB := Lib.hid (bnext KB.out hb)
      clear hb q0 q1 q2
      go_wp2_with fail
      refine (CX _).out.mono ?_
      rintro e w5 ⟨rfl, hb⟩
      replace KB := Lib.hid (bnext KB.out hb)
      clear hb
      go_wp2_with fail
      go_ret
      exact ⟨rfl, KB.out⟩
    · go_enter Tryz.func38, Tryz.ntmps38
      go_wp2_with fail
      refine (CL _).out.mono ?_
      rintro e w1 ⟨xc, ya, yn, ym, T, u, rfl, hst, hb⟩
      have KB := Lib.hid hb
      clear hb
      have P0 := Lib.hid (Blk.new w1 #[.int .u8 xc, .slice ya yn ym, .iface T (.agg u)] 104)
      have pb := (Below.refl w1.heap.size w1).alloc (Nat.le_refl _) (.cells #[.int .u8 xc, .slice ya yn ym, .iface T (.agg u)] 104)
      have D := fun w h => Lib.hid (CC (w0 := w1) hst w h).out
      have SS := fun w h => Lib.hid (CS (w0 := w1) hst w h).out
      have PB := Lib.hid pb
      replace KB := Lib.hid (bnext KB.out pb)
      obtain ⟨q0, q1, q2⟩ := P0.out.c3
      clear pb hst
      go_wp2_with fail
      generalize w1.alloc (.cells #[.int .u8 xc, .slice ya yn ym, .iface T (.agg u)] 104) = wx at *
      refine (CQ _).out.mono ?_
      rintro e w2 ⟨rfl, rfl⟩
      go_wp2_with fail
      refine (CZ _).out.mono ?_
      rintro e w2 ⟨rfl, rfl⟩
      go_wp2_with fail
      refine (SS _ PB.out).out.mono ?_
      rintro e w3 ⟨rfl, hb⟩
      replace KB := Lib.hid (bnext KB.out hb)
      replace PB := Lib.hid (bnext PB.out hb)
      replace P0 := Lib.hid (P0.out.kept hb)
      clear hb q0 q1 q2
      obtain ⟨q0, q1, q2⟩ := P0.out.c3
      go_wp2_with fail
      refine (D _ PB.out).out.mono ?_
      rintro e w4 ⟨rfl, hb⟩
      replace KB := Lib.hid (bnext KB.out hb)
      clear hb q0 q1 q2
      go_wp2_with fail
      refine (CX _).out.mono ?_
      rintro e w5 ⟨rfl, hb⟩
      replace KB := Lib.hid (bnext KB.out hb)
      clear hb
      go_wp2_with fail
      refine (CY _).out.mono ?_
      rintro e w6 ⟨rfl, hb⟩
      replace KB := Lib.hid (bnext KB.out hb)
      clear hb
      go_wp2_with fail
      go_ret
      exact ⟨rfl, KB.out⟩
set_option maxRecDepth 100000 in
set_option maxHeartbeats 4000000 in
theorem implProves_no (a s b q z : ByteArray) (h : ¬ (((IsT s ∧ IsP b) ∧ Set27 q) ∧ (Set27 a ∧ Set27 z))) (w : World) : Calls Tryz.prog 38 #[.string a, .string s, .string b, .string q, .string z] w fun e w' => e = .returned (.bool (false)) ∧ Below w.heap.size w w' := by
  by_cases hx : IsT s ∧ IsP b
  · by_cases hq : Set27 q
    · have hr : ¬ (Set27 a ∧ Set27 z) := fun hr => h ⟨⟨hx, hq⟩, hr⟩
      obtain ⟨⟨⟨t, ht, hs0⟩, hl⟩, ⟨⟨p, hp, he⟩, hl2⟩⟩ := hx
      have CL := fun w => Lib.hid (readLoop_yes s b ht hs0 hl hp he hl2 w)
      clear ht hs0 hl hp he hl2
      have CQ := fun w => Lib.hid (implRead_yes q w hq)
      have CZ := fun w => Lib.hid (implReads_no a z w hr)
      clear hq hr h
      go_enter Tryz.func38, Tryz.ntmps38
      go_wp2_with fail
      refine (CL _).out.mono ?_
      rintro e w1 ⟨xc, ya, yn, ym, T, u, rfl, hst, hb⟩
      have KB := Lib.hid hb
      clear hb hst
      have pb := (Below.refl w1.heap.size w1).alloc (Nat.le_refl _) (.cells #[.int .u8 xc, .slice ya yn ym, .iface T (.agg u)] 104)
      replace KB := Lib.hid (bnext KB.out pb)
      clear pb
      go_wp2_with fail
      refine (CQ _).out.mono ?_
      rintro e w2 ⟨rfl, rfl⟩
      go_wp2_with fail
      refine (CZ _).out.mono ?_
      rintro e w2 ⟨rfl, rfl⟩
      go_wp2_with fail
      go_ret
      exact ⟨rfl, KB.out⟩
    · by_cases hr : Set27 a ∧ Set27 z
      · obtain ⟨⟨⟨t, ht, hs0⟩, hl⟩, ⟨⟨p, hp, he⟩, hl2⟩⟩ := hx
        have CL := fun w => Lib.hid (readLoop_yes s b ht hs0 hl hp he hl2 w)
        clear ht hs0 hl hp he hl2
        have CQ := fun w => Lib.hid (implRead_no q w hq)
        have CZ := fun w => Lib.hid (implReads_yes a z w hr.1 hr.2)
        clear hq hr h
        go_enter Tryz.func38, Tryz.ntmps38
        go_wp2_with fail
        refine (CL _).out.mono ?_
        rintro e w1 ⟨xc, ya, yn, ym, T, u, rfl, hst, hb⟩
        have KB := Lib.hid hb
        clear hb hst
        have pb := (Below.refl w1.heap.size w1).alloc (Nat.le_refl _) (.cells #[.int .u8 xc, .slice ya yn ym, .iface T (.agg u)] 104)
        replace KB := Lib.hid (bnext KB.out pb)
        clear pb
        go_wp2_with fail
        refine (CQ _).out.mono ?_
        rintro e w2 ⟨rfl, rfl⟩
        go_wp2_with fail
        refine (CZ _).out.mono ?_
        rintro e w2 ⟨rfl, rfl⟩
        go_wp2_with fail
        go_ret
        exact ⟨rfl, KB.out⟩
      · obtain ⟨⟨⟨t, ht, hs0⟩, hl⟩, ⟨⟨p, hp, he⟩, hl2⟩⟩ := hx
        have CL := fun w => Lib.hid (readLoop_yes s b ht hs0 hl hp he hl2 w)
        clear ht hs0 hl hp he hl2
        have CQ := fun w => Lib.hid (implRead_no q w hq)
        have CZ := fun w => Lib.hid (implReads_no a z w hr)
        clear hq hr h
        go_enter Tryz.func38, Tryz.ntmps38
        go_wp2_with fail
        refine (CL _).out.mono ?_
        rintro e w1 ⟨xc, ya, yn, ym, T, u, rfl, hst, hb⟩
        have KB := Lib.hid hb
        clear hb hst
        have pb := (Below.refl w1.heap.size w1).alloc (Nat.le_refl _) (.cells #[.int .u8 xc, .slice ya yn ym, .iface T (.agg u)] 104)
        replace KB := Lib.hid (bnext KB.out pb)
        clear pb
        go_wp2_with fail
        refine (CQ _).out.mono ?_
        rintro e w2 ⟨rfl, rfl⟩
        go_wp2_with fail
        refine (CZ _).out.mono ?_
        rintro e w2 ⟨rfl, rfl⟩
        go_wp2_with fail
        go_ret
        exact ⟨rfl, KB.out⟩
  · by_cases hq : Set27 q
    · by_cases hr : Set27 a ∧ Set27 z
      · have CL := fun w => Lib.hid (readLoop_no s b hx w)
        clear hx
        have CQ := fun w => Lib.hid (implRead_yes q w hq)
        have CZ := fun w => Lib.hid (implReads_yes a z w hr.1 hr.2)
        clear hq hr h
        go_enter Tryz.func38, Tryz.ntmps38
        go_wp2_with fail
        refine (CL _).out.mono ?_
        rintro e w1 ⟨rfl, hb⟩
        have KB := Lib.hid hb
        clear hb
        have pb := (Below.refl w1.heap.size w1).alloc (Nat.le_refl _) (.cells #[.int .u8 0, .slice none 0 0, .nilIface] 104)
        replace KB := Lib.hid (bnext KB.out pb)
        clear pb
        go_wp2_with fail
        refine (CQ _).out.mono ?_
        rintro e w2 ⟨rfl, rfl⟩
        go_wp2_with fail
        refine (CZ _).out.mono ?_
        rintro e w2 ⟨rfl, rfl⟩
        go_wp2_with fail
        go_ret
        exact ⟨rfl, KB.out⟩
      · have CL := fun w => Lib.hid (readLoop_no s b hx w)
        clear hx
        have CQ := fun w => Lib.hid (implRead_yes q w hq)
        have CZ := fun w => Lib.hid (implReads_no a z w hr)
        clear hq hr h
        go_enter Tryz.func38, Tryz.ntmps38
        go_wp2_with fail
        refine (CL _).out.mono ?_
        rintro e w1 ⟨rfl, hb⟩
        have KB := Lib.hid hb
        clear hb
        have pb := (Below.refl w1.heap.size w1).alloc (Nat.le_refl _) (.cells #[.int .u8 0, .slice none 0 0, .nilIface] 104)
        replace KB := Lib.hid (bnext KB.out pb)
        clear pb
        go_wp2_with fail
        refine (CQ _).out.mono ?_
        rintro e w2 ⟨rfl, rfl⟩
        go_wp2_with fail
        refine (CZ _).out.mono ?_
        rintro e w2 ⟨rfl, rfl⟩
        go_wp2_with fail
        go_ret
        exact ⟨rfl, KB.out⟩
    · by_cases hr : Set27 a ∧ Set27 z
      · have CL := fun w => Lib.hid (readLoop_no s b hx w)
        clear hx
        have CQ := fun w => Lib.hid (implRead_no q w hq)
        have CZ := fun w => Lib.hid (implReads_yes a z w hr.1 hr.2)
        clear hq hr h
        go_enter Tryz.func38, Tryz.ntmps38
        go_wp2_with fail
        refine (CL _).out.mono ?_
        rintro e w1 ⟨rfl, hb⟩
        have KB := Lib.hid hb
        clear hb
        have pb := (Below.refl w1.heap.size w1).alloc (Nat.le_refl _) (.cells #[.int .u8 0, .slice none 0 0, .nilIface] 104)
        replace KB := Lib.hid (bnext KB.out pb)
        clear pb
        go_wp2_with fail
        refine (CQ _).out.mono ?_
        rintro e w2 ⟨rfl, rfl⟩
        go_wp2_with fail
        refine (CZ _).out.mono ?_
        rintro e w2 ⟨rfl, rfl⟩
        go_wp2_with fail
        go_ret
        exact ⟨rfl, KB.out⟩
      · have CL := fun w => Lib.hid (readLoop_no s b hx w)
        clear hx
        have CQ := fun w => Lib.hid (implRead_no q w hq)
        have CZ := fun w => Lib.hid (implReads_no a z w hr)
        clear hq hr h
        go_enter Tryz.func38, Tryz.ntmps38
        go_wp2_with fail
        refine (CL _).out.mono ?_
        rintro e w1 ⟨rfl, hb⟩
        have KB := Lib.hid hb
        clear hb
        have pb := (Below.refl w1.heap.size w1).alloc (Nat.le_refl _) (.cells #[.int .u8 0, .slice none 0 0, .nilIface] 104)
        replace KB := Lib.hid (bnext KB.out pb)
        clear pb
        go_wp2_with fail
        refine (CQ _).out.mono ?_
        rintro e w2 ⟨rfl, rfl⟩
        go_wp2_with fail
        refine (CZ _).out.mono ?_
        rintro e w2 ⟨rfl, rfl⟩
        go_wp2_with fail
        go_ret
        exact ⟨rfl, KB.out⟩
set_option maxRecDepth 100000 in
set_option maxHeartbeats 4000000 in
theorem specProves_yes (a s b q z : ByteArray) {t : Tm} {p : Pg} (ht : Ok false true t) (hs0 : s.data.toList = t.ser) (hl : s.size ≤ 200) (hp : p.ok false) (he : b.data.toList = p.ser) (hl2 : b.size ≤ 200) (hq : Set27 q) (ha : Set27 a) (hz : Set27 z) (w : World) : Calls Tryz.prog 40 #[.string a, .string s, .string b, .string q, .string z] w fun e w' => e = .returned (.bool (kpS t p (hs q.data.toList) && wi 27 (hs a.data.toList) (hs q.data.toList) && wi 27 (fun i => hs q.data.toList i && !tst t i) (hs z.data.toList))) ∧ Below w.heap.size w w' := by
  have CK := fun w => Lib.hid (specKeeps_yes q s b ht hs0 hl hp he hl2 hq w)
  have CX := fun w => Lib.hid (specPWithin_yes a q w ha hq)
  have CV := fun w => Lib.hid (specPredValid_yes z w hz)
  have CT := fun w => Lib.hid (specTest s t w (ok_wide ht) hs0 (by omega))
  have CM := fun w => Lib.hid (specMask q w hq)
  have CN := fun w => Lib.hid (specMask z w hz)
  have HK := Lib.hid (s_leave (hs q.data.toList) (tst t) (hs z.data.toList))
  clear ht hs0 hl hp he hl2 hq ha hz
  generalize kpS t p (hs q.data.toList) = k at *
  generalize wi 27 (hs a.data.toList) (hs q.data.toList) = x at *
  cases k
  · go_enter Tryz.func40, Tryz.ntmps40
    go_wp2_with fail
    refine (CK _).out.mono ?_
    rintro e w1 ⟨rfl, hb⟩
    have KB := Lib.hid hb
    clear hb
    go_wp2_with fail
    go_ret
    exact ⟨rfl, KB.out⟩
  · cases x
    · go_enter Tryz.func40, Tryz.ntmps40
      go_wp2_with fail
      refine (CK _).out.mono ?_
      rintro e w1 ⟨rfl, hb⟩
      have KB := Lib.hid hb
      clear hb
      go_wp2_with fail
      refine (CX _).out.mono ?_
      rintro e w2 ⟨rfl, hb⟩
      replace KB := Lib.hid (bnext KB.out hb)
      clear hb
      go_wp2_with fail
      go_ret
      exact ⟨rfl, KB.out⟩
    · go_enter Tryz.func40, Tryz.ntmps40
      go_wp2_with fail
      refine (CK _).out.mono ?_
      rintro e w1 ⟨rfl, hb⟩
      have KB := Lib.hid hb
      clear hb
      go_wp2_with fail
      refine (CX _).out.mono ?_
      rintro e w2 ⟨rfl, hb⟩
      replace KB := Lib.hid (bnext KB.out hb)
      clear hb
      go_wp2_with fail
      refine (CV _).out.mono ?_
      rintro e w2 ⟨rfl, rfl⟩
      go_wp2_with fail
      refine (CM _).out.mono ?_
      rintro e w2 ⟨rfl, hb⟩
      replace KB := Lib.hid (bnext KB.out hb)
      clear hb
      go_wp2_with fail
      refine (CT _).out.mono ?_
      rintro e w2 ⟨rfl, hb⟩
      replace KB := Lib.hid (bnext KB.out hb)
      clear hb
      go_wp2_with fail
      refine (CN _).out.mono ?_
      rintro e w2 ⟨rfl, hb⟩
      replace KB := Lib.hid (bnext KB.out hb)
      clear hb
      go_wp2_with fail
      go_ret
      exact ⟨by rw [← HK.out]; rfl, KB.out⟩
set_option maxRecDepth 100000 in
set_option maxHeartbeats 4000000 in
theorem specProves_no (a s b q z : ByteArray) (h : ¬ (((IsT s ∧ IsP b) ∧ Set27 q) ∧ (Set27 a ∧ Set27 z))) (hma : a.size ≤ maxLen) (hmq : q.size ≤ maxLen) (hmz : z.size ≤ maxLen) (w : World) : Calls Tryz.prog 40 #[.string a, .string s, .string b, .string q, .string z] w fun e w' => e = .returned (.bool (false)) ∧ Below w.heap.size w w' := by
  by_cases hx : (IsT s ∧ IsP b) ∧ Set27 q
  · obtain ⟨⟨⟨⟨t, ht, hs0⟩, hl⟩, ⟨⟨p, hp, he⟩, hl2⟩⟩, hq⟩ := id hx
    have CK := fun w => Lib.hid (specKeeps_yes q s b ht hs0 hl hp he hl2 hq w)
    by_cases ha : Set27 a
    · have hz : ¬ Set27 z := fun hz => h ⟨hx, ha, hz⟩
      have CX := fun w => Lib.hid (specPWithin_yes a q w ha hq)
      have CV := fun w => Lib.hid (specPredValid_no z w hz hmz)
      clear ht hs0 hl hp he hl2 hq ha hz hx h
      generalize kpS t p (hs q.data.toList) = k at *
      generalize wi 27 (hs a.data.toList) (hs q.data.toList) = x at *
      cases k
      · go_enter Tryz.func40, Tryz.ntmps40
        go_wp2_with fail
        refine (CK _).out.mono ?_
        rintro e w1 ⟨rfl, hb⟩
        have KB := Lib.hid hb
        clear hb
        go_wp2_with fail
        go_ret
        exact ⟨rfl, KB.out⟩
      · cases x
        · go_enter Tryz.func40, Tryz.ntmps40
          go_wp2_with fail
          refine (CK _).out.mono ?_
          rintro e w1 ⟨rfl, hb⟩
          have KB := Lib.hid hb
          clear hb
          go_wp2_with fail
          refine (CX _).out.mono ?_
          rintro e w2 ⟨rfl, hb⟩
          replace KB := Lib.hid (bnext KB.out hb)
          clear hb
          go_wp2_with fail
          go_ret
          exact ⟨rfl, KB.out⟩
        · go_enter Tryz.func40, Tryz.ntmps40
          go_wp2_with fail
          refine (CK _).out.mono ?_
          rintro e w1 ⟨rfl, hb⟩
          have KB := Lib.hid hb
          clear hb
          go_wp2_with fail
          refine (CX _).out.mono ?_
          rintro e w2 ⟨rfl, hb⟩
          replace KB := Lib.hid (bnext KB.out hb)
          clear hb
          go_wp2_with fail
          refine (CV _).out.mono ?_
          rintro e w2 ⟨rfl, rfl⟩
          go_wp2_with fail
          go_ret
          exact ⟨rfl, KB.out⟩
    · have CX := fun w => Lib.hid (specPWithin_no a q w (fun h => ha h.1) hma hmq)
      clear ht hs0 hl hp he hl2 hq ha hx h
      generalize kpS t p (hs q.data.toList) = k at *
      cases k
      · go_enter Tryz.func40, Tryz.ntmps40
        go_wp2_with fail
        refine (CK _).out.mono ?_
        rintro e w1 ⟨rfl, hb⟩
        have KB := Lib.hid hb
        clear hb
        go_wp2_with fail
        go_ret
        exact ⟨rfl, KB.out⟩
      · go_enter Tryz.func40, Tryz.ntmps40
        go_wp2_with fail
        refine (CK _).out.mono ?_
        rintro e w1 ⟨rfl, hb⟩
        have KB := Lib.hid hb
        clear hb
        go_wp2_with fail
        refine (CX _).out.mono ?_
        rintro e w2 ⟨rfl, hb⟩
        replace KB := Lib.hid (bnext KB.out hb)
        clear hb
        go_wp2_with fail
        go_ret
        exact ⟨rfl, KB.out⟩
  · have CK := fun w => Lib.hid (specKeeps_no q s b hx hmq w)
    clear hx h
    go_enter Tryz.func40, Tryz.ntmps40
    go_wp2_with fail
    refine (CK _).out.mono ?_
    rintro e w1 ⟨rfl, hb⟩
    have KB := Lib.hid hb
    clear hb
    go_wp2_with fail
    go_ret
    exact ⟨rfl, KB.out⟩
end Go.Proofs.YthmghadepimcnaaGreat
