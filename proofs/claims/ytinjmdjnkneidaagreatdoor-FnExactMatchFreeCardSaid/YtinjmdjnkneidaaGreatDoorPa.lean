/-
  impl.pairAt: the pair with a number.
-/
import Derived.Test.YtinjmdjnkneidaaGreatDoorTopB
namespace Go.Proofs.YtinjmdjnkneidaaGreatDoor
open Go.RowKit

set_option maxRecDepth 100000 in
set_option maxHeartbeats 4000000 in
theorem pair_at (i j : Nat) (hi : i < 27) (hj : j < 27) (w : World) : Calls Tryz.prog 163 #[.int .i64 (i + 27 * j : Nat)] w fun e w' => e = .returned (.agg #[.int .i64 (ax i), .int .i64 (ay i), .int .i64 (az i), .int .i64 (ax j), .int .i64 (ay j), .int .i64 (az j)]) ∧ Below w.heap.size w w' := by
  have A1 := fun w => Lib.hid (implAt_yes i w (by omega) (by omega))
  have A2 := fun w => Lib.hid (implAt_yes j w (by omega) (by omega))
  obtain ⟨n, hn⟩ : ∃ n : Nat, n = i + 27 * j := ⟨_, rfl⟩
  have hr : ((n : Int)).tmod 27 = (i : Int) := by rw [Int.tmod_eq_emod_of_nonneg (by omega)]; omega
  have hq : ((n : Int)).tdiv 27 = (j : Int) := by rw [Int.tdiv_eq_ediv_of_nonneg (by omega)]; omega
  have hr' : ((n : Int)) % 27 = (i : Int) := by omega
  have hq' : ((n : Int)) / 27 = (j : Int) := by omega
  have hn0 : (0 : Int) ≤ (n : Int) := by omega
  rw [← hn]
  clear hn
  generalize ax i = a0 at *
  generalize ay i = a1 at *
  generalize az i = a2 at *
  generalize ax j = b0 at *
  generalize ay j = b1 at *
  generalize az j = b2 at *
  go_enter Tryz.func163, Tryz.ntmps163
  go_wp2_with fail
  refine (A1 _).out.mono ?_
  rintro e w1 ⟨rfl, hb⟩
  have z0 := (Blk.new w #[.int .i64 0, .int .i64 0, .int .i64 0, .int .i64 0, .int .i64 0, .int .i64 0] 74).kept hb
  have KB := bnext ((Below.refl w.heap.size w).alloc (Nat.le_refl _) (.cells #[.int .i64 0, .int .i64 0, .int .i64 0, .int .i64 0, .int .i64 0, .int .i64 0] 74)) hb
  have b1 := Blk.new w1 #[.int .i64 a0, .int .i64 a1, .int .i64 a2] 27
  replace z0 := z0.alloc (.cells #[.int .i64 a0, .int .i64 a1, .int .i64 a2] 27)
  replace KB := KB.alloc KB.size (.cells #[.int .i64 a0, .int .i64 a1, .int .i64 a2] 27)
  have Z0 := Lib.hid z0
  have B1 := Lib.hid b1
  have HB := Lib.hid KB
  clear hb z0 b1 KB
  go_wp2_with fail
  generalize w1.alloc (.cells #[.int .i64 a0, .int .i64 a1, .int .i64 a2] 27) = w2 at *
  refine (A2 _).out.mono ?_
  rintro e w3 ⟨rfl, hb⟩
  obtain ⟨q0, q1, q2⟩ := ((B1.out.kept hb).alloc (.cells #[.int .i64 b0, .int .i64 b1, .int .i64 b2] 27)).c3
  obtain ⟨q3, q4, q5⟩ := (Blk.new w3 #[.int .i64 b0, .int .i64 b1, .int .i64 b2] 27).c3
  have z0 := (Z0.out.kept hb).alloc (.cells #[.int .i64 b0, .int .i64 b1, .int .i64 b2] 27)
  have zi := z0.cell
  have i0 := zi 0; have i1 := zi 1; have i2 := zi 2; have i3 := zi 3; have i4 := zi 4; have i5 := zi 5
  have f0 := z0.free 0; have f1 := z0.free 1; have f2 := z0.free 2; have f3 := z0.free 3; have f4 := z0.free 4; have f5 := z0.free 5
  have KB := bnext HB.out hb
  have HB2 := Lib.hid (KB.alloc KB.size (.cells #[.int .i64 b0, .int .i64 b1, .int .i64 b2] 27))
  replace Z0 := Lib.hid z0
  clear hb z0 zi KB B1
  go_wp2_with fail
  exact bodyPost_ret (v := .agg #[.int .i64 a0, .int .i64 a1, .int .i64 a2, .int .i64 b0, .int .i64 b1, .int .i64 b2]) (results_cell_row rfl _ _ w.heap.size 74 _ (0, 0) _ (by rfl) ((((((Z0.out.set 0 (.int .i64 a0)).set 1 (.int .i64 a1)).set 2 (.int .i64 a2)).set 3 (.int .i64 b0)).set 4 (.int .i64 b1)).set 5 (.int .i64 b2)) Tryz.underlying74 rfl (by kernel_rfl)) rfl
    ⟨rfl, (((((HB2.out.setCell (p := ⟨w.heap.size, 0, none⟩) (Nat.le_refl _) _).setCell (p := ⟨w.heap.size, 1, none⟩) (Nat.le_refl _) _).setCell (p := ⟨w.heap.size, 2, none⟩) (Nat.le_refl _) _).setCell (p := ⟨w.heap.size, 3, none⟩) (Nat.le_refl _) _).setCell (p := ⟨w.heap.size, 4, none⟩) (Nat.le_refl _) _).setCell (p := ⟨w.heap.size, 5, none⟩) (Nat.le_refl _) _⟩
end Go.Proofs.YtinjmdjnkneidaaGreatDoor
