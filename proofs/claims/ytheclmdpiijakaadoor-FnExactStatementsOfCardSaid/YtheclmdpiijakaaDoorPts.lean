/-
  The words of the interface of statements: 'parts' and 'head', whatever kind a statement is of.
-/
import Derived.Test.YtheclmdpiijakaaDoorStm
import Derived.Test.YtheclmdpiijakaaDoorPgW
import Derived.Test.YtheclmdpiijakaaDoorRow
namespace Go.Proofs.YtheclmdpiijakaaDoor
open Go.RowKit


/-- The values are those of the statements. -/
def StVs (w : World) (B : Nat) : List Pg → List Value → Prop
  | [], vs => vs = []
  | p :: ps, vs => ∃ T u vs', vs = .iface T (.agg u) :: vs' ∧ StV w B p (.iface T (.agg u)) ∧ StVs w B ps vs'
theorem StVs.below {w w' : World} {B : Nat} (hb : Below w.heap.size w w') : ∀ {ps : List Pg} {vs : List Value}, StVs w B ps vs → StVs w' B ps vs := by
  intro ps
  induction ps with
  | nil => exact fun h => h
  | cons p ps ih => rintro vs ⟨T, u, vs', h, h1, h2⟩; exact ⟨T, u, vs', h, h1.below hb, ih h2⟩
theorem StVs.len {w : World} {B : Nat} : ∀ {ps : List Pg} {vs : List Value}, StVs w B ps vs → vs.length = ps.length := by
  intro ps
  induction ps with
  | nil => intro vs h; rw [show vs = [] from h]; rfl
  | cons p ps ih => rintro vs ⟨T, u, vs', rfl, h1, h2⟩; simp [ih h2]
theorem StVs.append {w : World} {B : Nat} : ∀ {ps qs : List Pg} {vs ws : List Value}, StVs w B ps vs → StVs w B qs ws → StVs w B (ps ++ qs) (vs ++ ws) := by
  intro ps
  induction ps with
  | nil => intro qs vs ws h h2; rw [show vs = [] from h]; exact h2
  | cons p ps ih => rintro qs vs ws ⟨T, u, vs', rfl, h1, h2⟩ h3; exact ⟨T, u, vs' ++ ws, rfl, h1, ih h2 h3⟩
theorem StVs.at {w : World} {B : Nat} : ∀ {ps : List Pg} {vs : List Value} (m : Nat) (hm : m < ps.length), StVs w B ps vs → ∃ T u, vs[m]? = some (.iface T (.agg u)) ∧ StV w B ps[m] (.iface T (.agg u)) := by
  intro ps
  induction ps with
  | nil => intro vs m hm; simp at hm
  | cons p ps ih =>
    rintro vs m hm ⟨T, u, vs', rfl, h1, h2⟩
    cases m with
    | zero => exact ⟨T, u, rfl, h1⟩
    | succ m => exact ih m (by simpa using hm) h2

def PartsPost (kv : List Value) (w : World) (e : Ending) (w' : World) : Prop := ∃ sl, e = .returned sl ∧ Row w' w.heap.size 89 sl kv ∧ Below w.heap.size w w'

theorem parts_none (w : World) : Calls Tryd.prog 187 #[.agg #[]] w (PartsPost [] w) := by
  go_enter Tryd.func187, Tryd.ntmps187
  go_wp2_with fail
  go_ret
  exact ⟨_, rfl, Row.nil _ _ _, (Below.refl _ _).alloc (Nat.le_refl _) _⟩
theorem parts_two (T T2 : TypeId) (u u2 : Array Value) (w : World) : Calls Tryd.prog 184 #[.agg #[.iface T (.agg u), .iface T2 (.agg u2)]] w (PartsPost [.iface T (.agg u), .iface T2 (.agg u2)] w) := by
  have hB := (Below.refl w.heap.size w).alloc (Nat.le_refl _) (.cells #[.iface T (.agg u), .iface T2 (.agg u2)] 128)
  have hz : w.heap.size + 1 = (w.alloc (.cells #[.iface T (.agg u), .iface T2 (.agg u2)] 128)).heap.size := by simp
  have HN := Lib.hid (Row.new (w.alloc (.cells #[.iface T (.agg u), .iface T2 (.agg u2)] 128)) 89 [.iface T (.agg u), .iface T2 (.agg u2)] (by simp))
  have HZ := Lib.hid hz
  clear hz
  go_enter Tryd.func184, Tryd.ntmps184
  go_wp2_with fail
  go_ret
  refine ⟨_, rfl, Row.mono (by rw [HZ.out]; exact HN.out) (by simp), hB.alloc (by simp) _⟩
theorem parts_loop (x y : Value) (c : Int) (a : Option Addr) (n m : Nat) (hx : x = .int .u8 c) (hy : y = .slice a n m) (T : TypeId) (u : Array Value) (w : World) : Calls Tryd.prog 185 #[.agg #[x, y, .iface T (.agg u)]] w (PartsPost [.iface T (.agg u)] w) := by
  subst hx hy
  have hB := (Below.refl w.heap.size w).alloc (Nat.le_refl _) (.cells #[.int .u8 c, .slice a n m, .iface T (.agg u)] 143)
  have hz : w.heap.size + 1 = (w.alloc (.cells #[.int .u8 c, .slice a n m, .iface T (.agg u)] 143)).heap.size := by simp
  have HN := Lib.hid (Row.new (w.alloc (.cells #[.int .u8 c, .slice a n m, .iface T (.agg u)] 143)) 89 [.iface T (.agg u)] (by simp))
  have HZ := Lib.hid hz
  clear hz
  go_enter Tryd.func185, Tryd.ntmps185
  go_wp2_with fail
  go_ret
  refine ⟨_, rfl, Row.mono (by rw [HZ.out]; exact HN.out) (by simp), hB.alloc (by simp) _⟩

theorem inv_parts {w0 : World} {B : Nat} {p : Pg} {T : TypeId} {u : Array Value} (h : StV w0 B p (.iface T (.agg u))) : ∃ (f : Nat) (rc : Value) (kv : List Value),
    (∀ w, (method 337 T (.agg u) "loop.example/productprograms/impl.parts").run Tryd.prog w = .ok (f, rc) w) ∧ (∀ (a : Array Value) w, (callFunc f a).run Tryd.prog w = .ok (.enter f a) w) ∧ StVs w0 B p.pks kv ∧ ∀ w, Calls Tryd.prog f #[rc] w (PartsPost kv w) := by
  cases p with
  | skip => cases h; exact ⟨_, _, [], fun w => by kernel_rfl, fun a w => by kernel_rfl, rfl, fun w => parts_none w⟩
  | asg x e => obtain ⟨a, b, h, _⟩ := h; cases h; exact ⟨_, _, [], fun w => by kernel_rfl, fun a w => by kernel_rfl, rfl, fun w => parts_none w⟩
  | seq p q =>
    obtain ⟨a, b, h, h1, h2⟩ := h; cases h
    obtain ⟨T1, u1, rfl⟩ := h1.forms
    obtain ⟨T2, u2, rfl⟩ := h2.forms
    exact ⟨_, _, [_, _], fun w => by kernel_rfl, fun a w => by kernel_rfl, ⟨_, _, _, rfl, h1, _, _, _, rfl, h2, rfl⟩, fun w => parts_two _ _ _ _ w⟩
  | ite t p q =>
    obtain ⟨x, y, a, b, h, _, h1, h2⟩ := h; cases h
    obtain ⟨T1, u1, rfl⟩ := h1.forms
    obtain ⟨T2, u2, rfl⟩ := h2.forms
    exact ⟨_, _, [_, _], fun w => by kernel_rfl, fun a w => by kernel_rfl, ⟨_, _, _, rfl, h1, _, _, _, rfl, h2, rfl⟩, fun w => parts_two _ _ _ _ w⟩
  | whl t p =>
    obtain ⟨x, y, a, h, h0, h1⟩ := h; cases h
    obtain ⟨T1, u1, rfl⟩ := h1.forms
    obtain ⟨a, n, m, hx, hy⟩ := RepH.forms h0
    exact ⟨_, _, [_], fun w => by kernel_rfl, fun a w => by kernel_rfl, ⟨_, _, _, rfl, h1, rfl⟩, fun w => parts_loop _ _ _ _ _ _ hx hy _ _ w⟩
  | cho p q =>
    obtain ⟨a, b, h, h1, h2⟩ := h; cases h
    obtain ⟨T1, u1, rfl⟩ := h1.forms
    obtain ⟨T2, u2, rfl⟩ := h2.forms
    exact ⟨_, _, [_, _], fun w => by kernel_rfl, fun a w => by kernel_rfl, ⟨_, _, _, rfl, h1, _, _, _, rfl, h2, rfl⟩, fun w => parts_two _ _ _ _ w⟩
  | asm t => obtain ⟨x, y, h, _⟩ := h; cases h; exact ⟨_, _, [], fun w => by kernel_rfl, fun a w => by kernel_rfl, rfl, fun w => parts_none w⟩

/-! ### The head -/
def TxtPost (r : ByteArray) (w : World) (e : Ending) (w' : World) : Prop := e = .returned (.string r) ∧ Below w.heap.size w w'

theorem head_none (w : World) : Calls Tryd.prog 183 #[.agg #[]] w (TxtPost (bs []) w) := by
  go_enter Tryd.func183, Tryd.ntmps183
  go_wp2_with fail
  go_ret
  exact ⟨rfl, (Below.refl _ _).alloc (Nat.le_refl _) _⟩
theorem head_guard (c : Int) (a : Option Addr) (n m : Nat) (r : ByteArray) (w : World) (c1 : ∀ w', Below w.heap.size w w' → Calls Tryd.prog 121 #[.agg #[.int .u8 c, .slice a n m]] w' (TxtPost r w')) :
    Calls Tryd.prog 102 #[.agg #[.int .u8 c, .slice a n m]] w (TxtPost r w) := by
  have C1 := Lib.hid c1
  clear c1
  have hB := (Below.refl w.heap.size w).alloc (Nat.le_refl _) (.cells #[.int .u8 c, .slice a n m] 137)
  go_enter Tryd.func102, Tryd.ntmps102
  go_wp2_with fail
  refine (C1.out _ hB).mono ?_
  rintro e w2 ⟨rfl, hq⟩
  have HB := Lib.hid (bnext hB hq)
  clear hq hB
  go_wp2_with fail
  go_ret
  exact ⟨rfl, HB.out⟩
set_option maxRecDepth 100000 in
set_option maxHeartbeats 2000000 in
theorem head_asg (v : UInt8) (c : Int) (a : Option Addr) (n m : Nat) (r : ByteArray) (hr : r.size ≤ 1000) (w : World) (c1 : ∀ w', Below w.heap.size w w' → Calls Tryd.prog 121 #[.agg #[.int .u8 c, .slice a n m]] w' (TxtPost r w')) :
    Calls Tryd.prog 188 #[.agg #[.string (bs [v]), .int .u8 c, .slice a n m]] w (TxtPost (bs [v] ++ r) w) := by
  have C1 := Lib.hid c1
  clear c1
  have e1 : (bs [v]).size ≤ 1 := by rw [bs_size]; simp
  generalize bs [v] = V at *
  have f0 : ¬ (9223372036854775807 < V.size + r.size) := by omega
  have t0 := Blk.new w #[.string V, .int .u8 c, .slice a n m] 167
  have hB := (Below.refl w.heap.size w).alloc (Nat.le_refl _) (.cells #[.string V, .int .u8 c, .slice a n m] 167)
  go_enter Tryd.func188, Tryd.ntmps188
  go_wp2_with fail
  generalize w.alloc (.cells #[.string V, .int .u8 c, .slice a n m] 167) = W0 at *
  obtain ⟨q0, q1, q2⟩ := t0.c3
  have hB' := hB.drew
  clear t0
  go_region_held3 (fun w' => Below w.heap.size w w' ∧ w'.cell? ⟨w.heap.size, 0, none⟩ = some (.string V) ∧ w'.cell? ⟨w.heap.size, 1, none⟩ = some (.int .u8 c) ∧ w'.cell? ⟨w.heap.size, 2, none⟩ = some (.slice a n m))
    ((go_split_ands; refine ⟨?_, ?_, ?_, ?_⟩ <;> first | assumption | exact ckeep hq (by assumption) | exact Below.trans (by assumption) (hq.mono (by have := Below.size (by assumption : Below w.heap.size w _); omega))))
    (first | (go_at_call 121; (with_reducible refine (C1.out _ ?_).mono ?_); (go_split_ands; assumption); rintro e w2 ⟨rfl, hq⟩))
  go_wp2_with fail
  go_split_ands
  go_ret
  exact ⟨rfl, by assumption⟩

theorem inv_head {w0 : World} {B : Nat} {p : Pg} {T : TypeId} {u : Array Value} (hok : p.ok false) (hn : p.ser.length ≤ 1000) (h : StV w0 B p (.iface T (.agg u))) : ∃ (f : Nat) (rc : Value),
    (∀ w, (method 337 T (.agg u) "loop.example/productprograms/impl.head").run Tryd.prog w = .ok (f, rc) w) ∧ (∀ (a : Array Value) w, (callFunc f a).run Tryd.prog w = .ok (.enter f a) w) ∧ ∀ w, Below w0.heap.size w0 w → Calls Tryd.prog f #[rc] w (TxtPost (bs p.hd) w) := by
  cases p with
  | skip => cases h; exact ⟨_, _, fun w => by kernel_rfl, fun a w => by kernel_rfl, fun w _ => head_none w⟩
  | asg x e =>
    obtain ⟨a, b, h, h0⟩ := h; cases h
    obtain ⟨a, n, m, rfl, rfl⟩ := RepH.forms h0
    simp [Pg.ser] at hn
    refine ⟨188, .agg #[.string (bs [x]), .int .u8 e.head.toNat, .slice a n m], fun w => by kernel_rfl, fun a w => by kernel_rfl, fun w hb => ?_⟩
    have := head_asg x _ a n m (bs e.ser) (by rw [bs_size]; omega) w (fun w' hb' => text_tm e false B w' _ _ _ _ (by omega) hok.2 (h0.below (bnext hb hb')))
    rw [bs_append] at this
    exact this
  | seq p q => obtain ⟨a, b, h, _⟩ := h; cases h; exact ⟨_, _, fun w => by kernel_rfl, fun a w => by kernel_rfl, fun w _ => head_none w⟩
  | ite t p q =>
    obtain ⟨x, y, a, b, h, h0, _⟩ := h; cases h
    obtain ⟨a, n, m, rfl, rfl⟩ := RepH.forms h0
    simp [Pg.ser] at hn
    exact ⟨_, _, fun w => by kernel_rfl, fun a w => by kernel_rfl, fun w hb => head_guard _ _ _ _ _ w (fun w' hb' => text_tm t true B w' _ _ _ _ (by omega) hok.1 (h0.below (bnext hb hb')))⟩
  | whl t p =>
    obtain ⟨x, y, a, h, h0, _⟩ := h; cases h
    obtain ⟨a, n, m, rfl, rfl⟩ := RepH.forms h0
    simp [Pg.ser] at hn
    exact ⟨_, _, fun w => by kernel_rfl, fun a w => by kernel_rfl, fun w hb => head_guard _ _ _ _ _ w (fun w' hb' => text_tm t true B w' _ _ _ _ (by omega) hok.1 (h0.below (bnext hb hb')))⟩
  | cho p q => obtain ⟨a, b, h, _⟩ := h; cases h; exact ⟨_, _, fun w => by kernel_rfl, fun a w => by kernel_rfl, fun w _ => head_none w⟩
  | asm t =>
    obtain ⟨x, y, h, h0⟩ := h; cases h
    obtain ⟨a, n, m, rfl, rfl⟩ := RepH.forms h0
    simp [Pg.ser] at hn
    exact ⟨_, _, fun w => by kernel_rfl, fun a w => by kernel_rfl, fun w hb => head_guard _ _ _ _ _ w (fun w' hb' => text_tm t true B w' _ _ _ _ (by omega) hok (h0.below (bnext hb hb')))⟩
end Go.Proofs.YtheclmdpiijakaaDoor
