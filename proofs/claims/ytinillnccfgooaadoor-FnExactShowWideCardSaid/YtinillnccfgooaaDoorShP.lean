/-
  impl.showStatement: a program in the usual form.
-/
import Derived.Test.YtinillnccfgooaaDoorRdP
import Derived.Test.YtinillnccfgooaaDoorPts
import Derived.Test.YtinillnccfgooaaDoorShowS
import Derived.Test.YtinillnccfgooaaDoorTas
namespace Go.Proofs.YtinillnccfgooaaDoor
open Go.RowKit

def shP : Pg → List UInt8
  | .skip => [115, 107, 105, 112]
  | .asg v e => [v] ++ [58, 61] ++ shw e
  | .seq a b => shP a ++ [59, 32] ++ shP b
  | .ite t a b => [105, 102, 32] ++ shw t ++ [32, 123] ++ shP a ++ [125, 32, 101, 108, 115, 101, 32, 123] ++ shP b ++ [125]
  | .whl t a => [119, 104, 105, 108, 101, 32] ++ shw t ++ [32, 123] ++ shP a ++ [125]
  | .cho a b => [101, 105, 116, 104, 101, 114, 32, 123] ++ shP a ++ [125, 32, 111, 114, 32, 123] ++ shP b ++ [125]
  | .asm t => [97, 115, 115, 117, 109, 101, 32] ++ shw t
theorem shP_len {wide : Bool} : ∀ {p : Pg}, p.ok wide → (shP p).length ≤ 20 * p.ser.length := by
  intro p
  induction p with
  | skip => intro _; simp [shP, Pg.ser]
  | asg v e => intro h; have := shw_len' h.2; simp [shP, Pg.ser]; omega
  | seq a b ia ib => intro h; have := ia h.1; have := ib h.2; simp [shP, Pg.ser]; omega
  | ite t a b ia ib => intro h; have := shw_len' h.1; have := ia h.2.1; have := ib h.2.2; simp [shP, Pg.ser]; omega
  | whl t a ia => intro h; have := shw_len' h.1; have := ia h.2; simp [shP, Pg.ser]; omega
  | cho a b ia ib => intro h; have := ia h.1; have := ib h.2; simp [shP, Pg.ser]; omega
  | asm t => intro h; have := shw_len' (k := true) h; simp [shP, Pg.ser]; omega

def braces (r : ByteArray) : ByteArray := ⟨#[123]⟩ ++ r ++ ⟨#[125]⟩
theorem block_any (T : TypeId) (u : Array Value) (w : World) (r : ByteArray) (hr : r.size ≤ 100000) (c1 : Calls Tryd.prog 53 #[.iface T (.agg u)] w (TxtPost r w)) :
    Calls Tryd.prog 89 #[.iface T (.agg u)] w (TxtPost (braces r) w) := by
  have C1 := Lib.hid c1
  clear c1
  have f0 : ¬ (9223372036854775807 < 1 + r.size) := by omega
  have f1 : ¬ (9223372036854775807 < 1 + r.size + 1) := by omega
  go_enter Tryd.func89, Tryd.ntmps89
  go_wp2_with fail
  refine C1.out.mono ?_
  rintro e w2 ⟨rfl, hb⟩
  have HB := Lib.hid hb
  clear hb
  go_wp2_with fail
  go_ret
  exact ⟨rfl, HB.out⟩

theorem ss_skip (w : World) : Calls Tryd.prog 53 #[.iface 169 (.agg #[])] w (TxtPost ⟨#[115, 107, 105, 112]⟩ w) := by
  have a0 := tas_asg_skip
  have a1 := tas_seq_skip
  have a2 := tas_ite_skip
  have a3 := tas_whl_skip
  have a4 := tas_cho_skip
  have a5 := tas_asm_skip
  go_enter Tryd.func53, Tryd.ntmps53
  go_wp2_with fail
  go_ret
  exact ⟨rfl, Below.refl _ _⟩

set_option maxRecDepth 100000 in
set_option maxHeartbeats 8000000 in
theorem ss_asg (v : UInt8) (c : Int) (a : Option Addr) (n m : Nat) (w : World) (r1 : ByteArray) (zr1 : r1.size ≤ 100000) (R : ByteArray) (hR : bs [v] ++ ⟨#[58, 61]⟩ ++ r1 = R)
    (c0 : ∀ w', Below w.heap.size w w' → Calls Tryd.prog 88 #[.agg #[.int .u8 c, .slice a n m]] w' (TxtPost r1 w')) :
    Calls Tryd.prog 53 #[.iface 117 (.agg #[.string (bs [v]), .int .u8 c, .slice a n m])] w (TxtPost R w) := by
  have zV : (bs [v]).size ≤ 100000 := by rw [bs_size]; simp
  generalize bs [v] = V at *
  have C0 := Lib.hid c0
  have HR := Lib.hid hR
  clear hR c0
  have f1 : ¬ (9223372036854775807 < V.size + 2) := by omega
  have f2 : ¬ (9223372036854775807 < V.size + 2 + r1.size) := by omega
  have a0 := tas_asg_asg
  have a1 := tas_seq_asg
  have a2 := tas_ite_asg
  have a3 := tas_whl_asg
  have a4 := tas_cho_asg
  have a5 := tas_asm_asg
  have t0 := Blk.new w #[.string (V), .int .u8 c, .slice a n m] 117
  have hB := (Below.refl w.heap.size w).alloc (Nat.le_refl _) (.cells #[.string (V), .int .u8 c, .slice a n m] 117)
  go_enter Tryd.func53, Tryd.ntmps53
  go_wp2_with fail
  generalize w.alloc (.cells #[.string (V), .int .u8 c, .slice a n m] 117) = W0 at *
  have q0 : W0.cell? ⟨w.heap.size, 0, none⟩ = some (.string V) := t0.cell 0
  have q1 : W0.cell? ⟨w.heap.size, 1, none⟩ = some (.int .u8 c) := t0.cell 1
  have q2 : W0.cell? ⟨w.heap.size, 2, none⟩ = some (.slice a n m) := t0.cell 2
  have hB' := hB.drew
  clear t0
  go_region_held3 (fun w' => Below w.heap.size w w' ∧ w'.cell? ⟨w.heap.size, 0, none⟩ = some (.string V) ∧ w'.cell? ⟨w.heap.size, 1, none⟩ = some (.int .u8 c) ∧ w'.cell? ⟨w.heap.size, 2, none⟩ = some (.slice a n m))
    ((go_split_ands; refine ⟨?_, ?_, ?_, ?_⟩ <;> first | assumption | exact ckeep hq (by assumption) | exact Below.trans (by assumption) (hq.mono (by have := Below.size (by assumption : Below w.heap.size w _); omega))))
    (first | (go_at_call 88; (with_reducible refine (C0.out _ ?_).mono ?_); (go_split_ands; assumption); rintro e w2 ⟨rfl, hq⟩))
  go_wp2_with fail
  go_split_ands
  go_ret
  exact ⟨by rw [← HR.out]; rfl, by assumption⟩

set_option maxRecDepth 100000 in
set_option maxHeartbeats 8000000 in
theorem ss_seq (T1 T2 : TypeId) (u1 u2 : Array Value) (w : World) (r1 r2 : ByteArray) (zr1 : r1.size ≤ 100000) (zr2 : r2.size ≤ 100000) (R : ByteArray) (hR : r1 ++ ⟨#[59, 32]⟩ ++ r2 = R)
    (c0 : ∀ w', Below w.heap.size w w' → Calls Tryd.prog 53 #[.iface T1 (.agg u1)] w' (TxtPost r1 w'))
    (c1 : ∀ w', Below w.heap.size w w' → Calls Tryd.prog 53 #[.iface T2 (.agg u2)] w' (TxtPost r2 w')) :
    Calls Tryd.prog 53 #[.iface 96 (.agg #[.iface T1 (.agg u1), .iface T2 (.agg u2)])] w (TxtPost R w) := by
  have C0 := Lib.hid c0
  have C1 := Lib.hid c1
  have HR := Lib.hid hR
  clear hR c0 c1
  have f1 : ¬ (9223372036854775807 < r1.size + 2) := by omega
  have f2 : ¬ (9223372036854775807 < r1.size + 2 + r2.size) := by omega
  have a0 := tas_asg_seq
  have a1 := tas_seq_seq
  have a2 := tas_ite_seq
  have a3 := tas_whl_seq
  have a4 := tas_cho_seq
  have a5 := tas_asm_seq
  have t0 := Blk.new w #[.iface T1 (.agg u1), .iface T2 (.agg u2)] 96
  have hB := (Below.refl w.heap.size w).alloc (Nat.le_refl _) (.cells #[.iface T1 (.agg u1), .iface T2 (.agg u2)] 96)
  go_enter Tryd.func53, Tryd.ntmps53
  go_wp2_with fail
  generalize w.alloc (.cells #[.iface T1 (.agg u1), .iface T2 (.agg u2)] 96) = W0 at *
  have q0 : W0.cell? ⟨w.heap.size, 0, none⟩ = some (.iface T1 (.agg u1)) := t0.cell 0
  have q1 : W0.cell? ⟨w.heap.size, 1, none⟩ = some (.iface T2 (.agg u2)) := t0.cell 1
  have hB' := hB.drew
  clear t0
  go_region_held3 (fun w' => Below w.heap.size w w' ∧ w'.cell? ⟨w.heap.size, 0, none⟩ = some (.iface T1 (.agg u1)) ∧ w'.cell? ⟨w.heap.size, 1, none⟩ = some (.iface T2 (.agg u2)))
    ((go_split_ands; refine ⟨?_, ?_, ?_⟩ <;> first | assumption | exact ckeep hq (by assumption) | exact Below.trans (by assumption) (hq.mono (by have := Below.size (by assumption : Below w.heap.size w _); omega))))
    (first | (go_at_call 53; (with_reducible refine (C0.out _ ?_).mono ?_); (go_split_ands; assumption); rintro e w2 ⟨rfl, hq⟩) | (go_at_call 53; (with_reducible refine (C1.out _ ?_).mono ?_); (go_split_ands; assumption); rintro e w2 ⟨rfl, hq⟩))
  go_wp2_with fail
  go_split_ands
  go_ret
  exact ⟨by rw [← HR.out]; rfl, by assumption⟩

set_option maxRecDepth 100000 in
set_option maxHeartbeats 8000000 in
theorem ss_ite (c : Int) (a : Option Addr) (n m : Nat) (T1 T2 : TypeId) (u1 u2 : Array Value) (w : World) (r0 r1 r2 : ByteArray) (zr0 : r0.size ≤ 100000) (zr1 : r1.size ≤ 100000) (zr2 : r2.size ≤ 100000) (R : ByteArray) (hR : ⟨#[105, 102, 32]⟩ ++ r0 ++ ⟨#[32]⟩ ++ r1 ++ ⟨#[32, 101, 108, 115, 101, 32]⟩ ++ r2 = R)
    (c0 : ∀ w', Below w.heap.size w w' → Calls Tryd.prog 88 #[.agg #[.int .u8 c, .slice a n m]] w' (TxtPost r0 w'))
    (c1 : ∀ w', Below w.heap.size w w' → Calls Tryd.prog 89 #[.iface T1 (.agg u1)] w' (TxtPost r1 w'))
    (c2 : ∀ w', Below w.heap.size w w' → Calls Tryd.prog 89 #[.iface T2 (.agg u2)] w' (TxtPost r2 w')) :
    Calls Tryd.prog 53 #[.iface 101 (.agg #[.int .u8 c, .slice a n m, .iface T1 (.agg u1), .iface T2 (.agg u2)])] w (TxtPost R w) := by
  have C0 := Lib.hid c0
  have C1 := Lib.hid c1
  have C2 := Lib.hid c2
  have HR := Lib.hid hR
  clear hR c0 c1 c2
  have f1 : ¬ (9223372036854775807 < 3 + r0.size) := by omega
  have f2 : ¬ (9223372036854775807 < 3 + r0.size + 1) := by omega
  have f3 : ¬ (9223372036854775807 < 3 + r0.size + 1 + r1.size) := by omega
  have f4 : ¬ (9223372036854775807 < 3 + r0.size + 1 + r1.size + 6) := by omega
  have f5 : ¬ (9223372036854775807 < 3 + r0.size + 1 + r1.size + 6 + r2.size) := by omega
  have a0 := tas_asg_ite
  have a1 := tas_seq_ite
  have a2 := tas_ite_ite
  have a3 := tas_whl_ite
  have a4 := tas_cho_ite
  have a5 := tas_asm_ite
  have t0 := Blk.new w #[.int .u8 c, .slice a n m, .iface T1 (.agg u1), .iface T2 (.agg u2)] 101
  have hB := (Below.refl w.heap.size w).alloc (Nat.le_refl _) (.cells #[.int .u8 c, .slice a n m, .iface T1 (.agg u1), .iface T2 (.agg u2)] 101)
  go_enter Tryd.func53, Tryd.ntmps53
  go_wp2_with fail
  generalize w.alloc (.cells #[.int .u8 c, .slice a n m, .iface T1 (.agg u1), .iface T2 (.agg u2)] 101) = W0 at *
  have q0 : W0.cell? ⟨w.heap.size, 0, none⟩ = some (.int .u8 c) := t0.cell 0
  have q1 : W0.cell? ⟨w.heap.size, 1, none⟩ = some (.slice a n m) := t0.cell 1
  have q2 : W0.cell? ⟨w.heap.size, 2, none⟩ = some (.iface T1 (.agg u1)) := t0.cell 2
  have q3 : W0.cell? ⟨w.heap.size, 3, none⟩ = some (.iface T2 (.agg u2)) := t0.cell 3
  have hB' := hB.drew
  clear t0
  go_region_held3 (fun w' => Below w.heap.size w w' ∧ w'.cell? ⟨w.heap.size, 0, none⟩ = some (.int .u8 c) ∧ w'.cell? ⟨w.heap.size, 1, none⟩ = some (.slice a n m) ∧ w'.cell? ⟨w.heap.size, 2, none⟩ = some (.iface T1 (.agg u1)) ∧ w'.cell? ⟨w.heap.size, 3, none⟩ = some (.iface T2 (.agg u2)))
    ((go_split_ands; refine ⟨?_, ?_, ?_, ?_, ?_⟩ <;> first | assumption | exact ckeep hq (by assumption) | exact Below.trans (by assumption) (hq.mono (by have := Below.size (by assumption : Below w.heap.size w _); omega))))
    (first | (go_at_call 88; (with_reducible refine (C0.out _ ?_).mono ?_); (go_split_ands; assumption); rintro e w2 ⟨rfl, hq⟩) | (go_at_call 89; (with_reducible refine (C1.out _ ?_).mono ?_); (go_split_ands; assumption); rintro e w2 ⟨rfl, hq⟩) | (go_at_call 89; (with_reducible refine (C2.out _ ?_).mono ?_); (go_split_ands; assumption); rintro e w2 ⟨rfl, hq⟩))
  go_wp2_with fail
  go_split_ands
  go_ret
  exact ⟨by rw [← HR.out]; rfl, by assumption⟩

set_option maxRecDepth 100000 in
set_option maxHeartbeats 8000000 in
theorem ss_whl (c : Int) (a : Option Addr) (n m : Nat) (T1 : TypeId) (u1 : Array Value) (w : World) (r0 r1 : ByteArray) (zr0 : r0.size ≤ 100000) (zr1 : r1.size ≤ 100000) (R : ByteArray) (hR : ⟨#[119, 104, 105, 108, 101, 32]⟩ ++ r0 ++ ⟨#[32]⟩ ++ r1 = R)
    (c0 : ∀ w', Below w.heap.size w w' → Calls Tryd.prog 88 #[.agg #[.int .u8 c, .slice a n m]] w' (TxtPost r0 w'))
    (c1 : ∀ w', Below w.heap.size w w' → Calls Tryd.prog 89 #[.iface T1 (.agg u1)] w' (TxtPost r1 w')) :
    Calls Tryd.prog 53 #[.iface 105 (.agg #[.int .u8 c, .slice a n m, .iface T1 (.agg u1)])] w (TxtPost R w) := by
  have C0 := Lib.hid c0
  have C1 := Lib.hid c1
  have HR := Lib.hid hR
  clear hR c0 c1
  have f1 : ¬ (9223372036854775807 < 6 + r0.size) := by omega
  have f2 : ¬ (9223372036854775807 < 6 + r0.size + 1) := by omega
  have f3 : ¬ (9223372036854775807 < 6 + r0.size + 1 + r1.size) := by omega
  have a0 := tas_asg_whl
  have a1 := tas_seq_whl
  have a2 := tas_ite_whl
  have a3 := tas_whl_whl
  have a4 := tas_cho_whl
  have a5 := tas_asm_whl
  have t0 := Blk.new w #[.int .u8 c, .slice a n m, .iface T1 (.agg u1)] 105
  have hB := (Below.refl w.heap.size w).alloc (Nat.le_refl _) (.cells #[.int .u8 c, .slice a n m, .iface T1 (.agg u1)] 105)
  go_enter Tryd.func53, Tryd.ntmps53
  go_wp2_with fail
  generalize w.alloc (.cells #[.int .u8 c, .slice a n m, .iface T1 (.agg u1)] 105) = W0 at *
  have q0 : W0.cell? ⟨w.heap.size, 0, none⟩ = some (.int .u8 c) := t0.cell 0
  have q1 : W0.cell? ⟨w.heap.size, 1, none⟩ = some (.slice a n m) := t0.cell 1
  have q2 : W0.cell? ⟨w.heap.size, 2, none⟩ = some (.iface T1 (.agg u1)) := t0.cell 2
  have hB' := hB.drew
  clear t0
  go_region_held3 (fun w' => Below w.heap.size w w' ∧ w'.cell? ⟨w.heap.size, 0, none⟩ = some (.int .u8 c) ∧ w'.cell? ⟨w.heap.size, 1, none⟩ = some (.slice a n m) ∧ w'.cell? ⟨w.heap.size, 2, none⟩ = some (.iface T1 (.agg u1)))
    ((go_split_ands; refine ⟨?_, ?_, ?_, ?_⟩ <;> first | assumption | exact ckeep hq (by assumption) | exact Below.trans (by assumption) (hq.mono (by have := Below.size (by assumption : Below w.heap.size w _); omega))))
    (first | (go_at_call 88; (with_reducible refine (C0.out _ ?_).mono ?_); (go_split_ands; assumption); rintro e w2 ⟨rfl, hq⟩) | (go_at_call 89; (with_reducible refine (C1.out _ ?_).mono ?_); (go_split_ands; assumption); rintro e w2 ⟨rfl, hq⟩))
  go_wp2_with fail
  go_split_ands
  go_ret
  exact ⟨by rw [← HR.out]; rfl, by assumption⟩

set_option maxRecDepth 100000 in
set_option maxHeartbeats 8000000 in
theorem ss_cho (T1 T2 : TypeId) (u1 u2 : Array Value) (w : World) (r1 r2 : ByteArray) (zr1 : r1.size ≤ 100000) (zr2 : r2.size ≤ 100000) (R : ByteArray) (hR : ⟨#[101, 105, 116, 104, 101, 114, 32]⟩ ++ r1 ++ ⟨#[32, 111, 114, 32]⟩ ++ r2 = R)
    (c0 : ∀ w', Below w.heap.size w w' → Calls Tryd.prog 89 #[.iface T1 (.agg u1)] w' (TxtPost r1 w'))
    (c1 : ∀ w', Below w.heap.size w w' → Calls Tryd.prog 89 #[.iface T2 (.agg u2)] w' (TxtPost r2 w')) :
    Calls Tryd.prog 53 #[.iface 118 (.agg #[.iface T1 (.agg u1), .iface T2 (.agg u2)])] w (TxtPost R w) := by
  have C0 := Lib.hid c0
  have C1 := Lib.hid c1
  have HR := Lib.hid hR
  clear hR c0 c1
  have f1 : ¬ (9223372036854775807 < 7 + r1.size) := by omega
  have f2 : ¬ (9223372036854775807 < 7 + r1.size + 4) := by omega
  have f3 : ¬ (9223372036854775807 < 7 + r1.size + 4 + r2.size) := by omega
  have a0 := tas_asg_cho
  have a1 := tas_seq_cho
  have a2 := tas_ite_cho
  have a3 := tas_whl_cho
  have a4 := tas_cho_cho
  have a5 := tas_asm_cho
  have t0 := Blk.new w #[.iface T1 (.agg u1), .iface T2 (.agg u2)] 118
  have hB := (Below.refl w.heap.size w).alloc (Nat.le_refl _) (.cells #[.iface T1 (.agg u1), .iface T2 (.agg u2)] 118)
  go_enter Tryd.func53, Tryd.ntmps53
  go_wp2_with fail
  generalize w.alloc (.cells #[.iface T1 (.agg u1), .iface T2 (.agg u2)] 118) = W0 at *
  have q0 : W0.cell? ⟨w.heap.size, 0, none⟩ = some (.iface T1 (.agg u1)) := t0.cell 0
  have q1 : W0.cell? ⟨w.heap.size, 1, none⟩ = some (.iface T2 (.agg u2)) := t0.cell 1
  have hB' := hB.drew
  clear t0
  go_region_held3 (fun w' => Below w.heap.size w w' ∧ w'.cell? ⟨w.heap.size, 0, none⟩ = some (.iface T1 (.agg u1)) ∧ w'.cell? ⟨w.heap.size, 1, none⟩ = some (.iface T2 (.agg u2)))
    ((go_split_ands; refine ⟨?_, ?_, ?_⟩ <;> first | assumption | exact ckeep hq (by assumption) | exact Below.trans (by assumption) (hq.mono (by have := Below.size (by assumption : Below w.heap.size w _); omega))))
    (first | (go_at_call 89; (with_reducible refine (C0.out _ ?_).mono ?_); (go_split_ands; assumption); rintro e w2 ⟨rfl, hq⟩) | (go_at_call 89; (with_reducible refine (C1.out _ ?_).mono ?_); (go_split_ands; assumption); rintro e w2 ⟨rfl, hq⟩))
  go_wp2_with fail
  go_split_ands
  go_ret
  exact ⟨by rw [← HR.out]; rfl, by assumption⟩

set_option maxRecDepth 100000 in
set_option maxHeartbeats 8000000 in
theorem ss_asm (c : Int) (a : Option Addr) (n m : Nat) (w : World) (r0 : ByteArray) (zr0 : r0.size ≤ 100000) (R : ByteArray) (hR : ⟨#[97, 115, 115, 117, 109, 101, 32]⟩ ++ r0 = R)
    (c0 : ∀ w', Below w.heap.size w w' → Calls Tryd.prog 88 #[.agg #[.int .u8 c, .slice a n m]] w' (TxtPost r0 w')) :
    Calls Tryd.prog 53 #[.iface 120 (.agg #[.int .u8 c, .slice a n m])] w (TxtPost R w) := by
  have C0 := Lib.hid c0
  have HR := Lib.hid hR
  clear hR c0
  have f1 : ¬ (9223372036854775807 < 7 + r0.size) := by omega
  have a0 := tas_asg_asm
  have a1 := tas_seq_asm
  have a2 := tas_ite_asm
  have a3 := tas_whl_asm
  have a4 := tas_cho_asm
  have a5 := tas_asm_asm
  have t0 := Blk.new w #[.int .u8 c, .slice a n m] 120
  have hB := (Below.refl w.heap.size w).alloc (Nat.le_refl _) (.cells #[.int .u8 c, .slice a n m] 120)
  go_enter Tryd.func53, Tryd.ntmps53
  go_wp2_with fail
  refine (C0.out _ hB).mono ?_
  rintro e w2 ⟨rfl, hq⟩
  have HB := Lib.hid (bnext hB hq)
  clear hq hB
  go_wp2_with fail
  go_ret
  exact ⟨by rw [← HR.out]; rfl, HB.out⟩

theorem sst_any {wide : Bool} : ∀ (p : Pg), p.ok wide → p.ser.length ≤ 1000 → ∀ (w0 : World) (B : Nat) (T : TypeId) (u : Array Value) (w : World), StV w0 B p (.iface T (.agg u)) → Below w0.heap.size w0 w →
    Calls Tryd.prog 53 #[.iface T (.agg u)] w (TxtPost (bs (shP p)) w) := by
  have zz : ∀ {p : Pg}, p.ok wide → p.ser.length ≤ 1000 → (bs (shP p)).size ≤ 20000 := fun h hn => by rw [bs_size]; have := shP_len h; omega
  have zt : ∀ {t : Tm} {k : Bool}, Ok wide k t → t.ser.length ≤ 1000 → (bs (shw t)).size ≤ 100000 := fun h hn => by rw [bs_size]; have := shw_len' h; omega
  have zb : ∀ {r : ByteArray}, r.size ≤ 20000 → (braces r).size ≤ 100000 := fun h => by
    unfold braces
    have e1 : (ByteArray.mk #[123]).size = 1 := rfl
    have e2 : (ByteArray.mk #[125]).size = 1 := rfl
    rw [ByteArray.size_append, ByteArray.size_append]; omega
  intro p
  induction p with
  | skip => intro _ _ w0 B T u w hst _; cases hst; exact ss_skip w
  | asg v e =>
    intro hok hn w0 B T u w hst hb
    obtain ⟨va, vb, hst, h0⟩ := hst; cases hst
    obtain ⟨pa, pn, pm, rfl, rfl⟩ := RepH.forms h0
    simp [Pg.ser] at hn
    exact ss_asg v _ pa pn pm w (bs (shw e)) (zt hok.2 (by omega)) _ (by simp only [shP, ← bs_append]; rfl) (fun w' h => show_any e false B _ _ w' hok.2 (by omega) (RepH.rep (h0.below (bnext hb h))))
  | seq p q ip iq =>
    intro hok hn w0 B T u w hst hb
    obtain ⟨va, vb, hst, h1, h2⟩ := hst; cases hst
    obtain ⟨T1, u1, rfl⟩ := h1.forms
    obtain ⟨T2, u2, rfl⟩ := h2.forms
    simp [Pg.ser] at hn
    exact ss_seq T1 T2 u1 u2 w (bs (shP p)) (bs (shP q)) (Nat.le_trans (zz hok.1 (by omega)) (by omega)) (Nat.le_trans (zz hok.2 (by omega)) (by omega)) _ (by simp only [shP, ← bs_append]; rfl) (fun w' h => ip hok.1 (by omega) w0 B _ _ w' h1 (bnext hb h)) (fun w' h => iq hok.2 (by omega) w0 B _ _ w' h2 (bnext hb h))
  | ite t p q ip iq =>
    intro hok hn w0 B T u w hst hb
    obtain ⟨vx, vy, va, vb, hst, h0, h1, h2⟩ := hst; cases hst
    obtain ⟨pa, pn, pm, rfl, rfl⟩ := RepH.forms h0
    obtain ⟨T1, u1, rfl⟩ := h1.forms
    obtain ⟨T2, u2, rfl⟩ := h2.forms
    simp [Pg.ser] at hn
    refine ss_ite _ pa pn pm T1 T2 u1 u2 w (bs (shw t)) (braces (bs (shP p))) (braces (bs (shP q))) (zt hok.1 (by omega)) (zb (zz hok.2.1 (by omega))) (zb (zz hok.2.2 (by omega))) _ ?_ (fun w' h => show_any t true B _ _ w' hok.1 (by omega) (RepH.rep (h0.below (bnext hb h))))
      (fun w' h => block_any _ _ w' _ (Nat.le_trans (zz hok.2.1 (by omega)) (by omega)) (ip hok.2.1 (by omega) w0 B _ _ w' h1 (bnext hb h))) (fun w' h => block_any _ _ w' _ (Nat.le_trans (zz hok.2.2 (by omega)) (by omega)) (iq hok.2.2 (by omega) w0 B _ _ w' h2 (bnext hb h)))
    unfold braces
    apply ByteArray.ext
    simp [bs, shP]
  | whl t p ip =>
    intro hok hn w0 B T u w hst hb
    obtain ⟨vx, vy, va, hst, h0, h1⟩ := hst; cases hst
    obtain ⟨pa, pn, pm, rfl, rfl⟩ := RepH.forms h0
    obtain ⟨T1, u1, rfl⟩ := h1.forms
    simp [Pg.ser] at hn
    refine ss_whl _ pa pn pm T1 u1 w (bs (shw t)) (braces (bs (shP p))) (zt hok.1 (by omega)) (zb (zz hok.2 (by omega))) _ ?_ (fun w' h => show_any t true B _ _ w' hok.1 (by omega) (RepH.rep (h0.below (bnext hb h))))
      (fun w' h => block_any _ _ w' _ (Nat.le_trans (zz hok.2 (by omega)) (by omega)) (ip hok.2 (by omega) w0 B _ _ w' h1 (bnext hb h)))
    unfold braces
    apply ByteArray.ext
    simp [bs, shP]
  | cho p q ip iq =>
    intro hok hn w0 B T u w hst hb
    obtain ⟨va, vb, hst, h1, h2⟩ := hst; cases hst
    obtain ⟨T1, u1, rfl⟩ := h1.forms
    obtain ⟨T2, u2, rfl⟩ := h2.forms
    simp [Pg.ser] at hn
    refine ss_cho T1 T2 u1 u2 w (braces (bs (shP p))) (braces (bs (shP q))) (zb (zz hok.1 (by omega))) (zb (zz hok.2 (by omega))) _ ?_
      (fun w' h => block_any _ _ w' _ (Nat.le_trans (zz hok.1 (by omega)) (by omega)) (ip hok.1 (by omega) w0 B _ _ w' h1 (bnext hb h))) (fun w' h => block_any _ _ w' _ (Nat.le_trans (zz hok.2 (by omega)) (by omega)) (iq hok.2 (by omega) w0 B _ _ w' h2 (bnext hb h)))
    unfold braces
    apply ByteArray.ext
    simp [bs, shP]
  | asm t =>
    intro hok hn w0 B T u w hst hb
    obtain ⟨vx, vy, hst, h0⟩ := hst; cases hst
    obtain ⟨pa, pn, pm, rfl, rfl⟩ := RepH.forms h0
    simp [Pg.ser] at hn
    exact ss_asm _ pa pn pm w (bs (shw t)) (zt (k := true) hok (by omega)) _ (by simp only [shP, ← bs_append]; rfl) (fun w' h => show_any t true B _ _ w' hok (by omega) (RepH.rep (h0.below (bnext hb h))))

end Go.Proofs.YtinillnccfgooaaDoor
