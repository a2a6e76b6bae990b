/-
  The number of a state, of the program and of the model.
-/
import Derived.Test.YtgkoljphndgoeaaBlk
import Derived.Test.YtgkoljphndgoeaaStW
namespace Go.Proofs.Ytgkoljphndgoeaa
open Go.RowKit

theorem st3_lt {x y z : Int} (h : st3 x y z = true) : 0 ≤ x ∧ x < 3 ∧ 0 ≤ y ∧ y < 3 ∧ 0 ≤ z ∧ z < 3 := by
  unfold st3 at h
  simp only [Bool.and_eq_true] at h
  have a := val3_bd h.1.1; have b := val3_bd h.1.2; have c := val3_bd h.2
  exact ⟨a.1, a.2, b.1, b.2, c.1, c.2⟩

set_option maxHeartbeats 1000000 in
theorem implIx_yes (x y z : Int) (w : World) (h : st3 x y z = true) : Calls Try.prog 12 #[.agg #[.int .i64 x, .int .i64 y, .int .i64 z]] w fun e w' => e = .returned (.int .i64 (x + 3 * y + 9 * z)) ∧ Below w.heap.size w w' := by
  have hd := st3_lt h
  obtain ⟨hx0, hx1, hy0, hy1, hz0, hz1⟩ := hd
  have C := fun w => Lib.hid (implStateValid x y z w)
  rw [h] at C
  go_enter Try.func12, Try.ntmps12
  go_wp2_with fail
  refine (C _).out.mono ?_
  rintro e w1 ⟨rfl, hb⟩
  have t1 := (Blk.new _ _ _).kept hb
  obtain ⟨q0, q1, q2⟩ := t1.c3
  have HB := Lib.hid (bbox hb)
  clear hb t1
  go_wp2_with fail
  go_ret
  exact ⟨rfl, HB.out⟩

set_option maxHeartbeats 1000000 in
theorem implIx_no (x y z : Int) (w : World) (h : st3 x y z = false) : Calls Try.prog 12 #[.agg #[.int .i64 x, .int .i64 y, .int .i64 z]] w fun e w' => e = .returned (.int .i64 (-1)) ∧ Below w.heap.size w w' := by
  have C := fun w => Lib.hid (implStateValid x y z w)
  rw [h] at C
  clear h
  go_enter Try.func12, Try.ntmps12
  go_wp2_with fail
  refine (C _).out.mono ?_
  rintro e w1 ⟨rfl, hb⟩
  have HB := Lib.hid (bbox hb)
  clear hb
  go_wp2_with fail
  go_ret
  exact ⟨rfl, HB.out⟩

/-- The values of the state with a number. -/
def ax (i : Int) : Int := i % 3

def ay (i : Int) : Int := i / 3 % 3

def az (i : Int) : Int := i / 9

theorem at_st3 {i : Int} (h0 : 0 ≤ i) (h1 : i < 27) : st3 (ax i) (ay i) (az i) = true := by
  unfold st3 ax ay az
  rw [val3_t (by omega) (by omega), val3_t (by omega) (by omega), val3_t (by omega) (by omega)]; rfl

theorem at_ix (i : Int) : ax i + 3 * ay i + 9 * az i = i := by unfold ax ay az; omega

theorem ix_at {x y z : Int} (h : st3 x y z = true) : ax (x + 3 * y + 9 * z) = x ∧ ay (x + 3 * y + 9 * z) = y ∧ az (x + 3 * y + 9 * z) = z := by
  obtain ⟨hx0, hx1, hy0, hy1, hz0, hz1⟩ := st3_lt h
  unfold ax ay az; omega
end Go.Proofs.Ytgkoljphndgoeaa
