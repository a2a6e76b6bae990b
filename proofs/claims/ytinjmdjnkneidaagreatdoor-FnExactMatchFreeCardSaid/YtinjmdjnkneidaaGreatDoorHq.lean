/-
  HasPair of the program at valid states, over the number of a pair (relation.has and pair.number as they stand at 58f2a2e).
-/
import Derived.Test.YtinjmdjnkneidaaGreatDoorTopR1
import Derived.Test.YtinjmdjnkneidaaGreatDoorTopG
import Derived.Test.YtinjmdjnkneidaaGreatDoorPn
import Derived.Deep.RegionHeld3
import Derived.Deep.MidRow
namespace Go.Proofs.YtinjmdjnkneidaaGreatDoor
open Go.RowKit Go.Great

set_option maxRecDepth 100000 in
set_option maxHeartbeats 4000000 in
theorem rel_hasn (A : Nat → Nat → Bool) (i j : Nat) (hi : i < 27) (hj : j < 27) (w : World) : Calls Tryz.prog 100 #[.agg (relC .u32 A), .int .i64 (i + 27 * j : Nat)] w fun e w' => e = .returned (.bool (A i j)) ∧ Below w.heap.size w w' := by
  obtain ⟨k0, kb, kz⟩ := one_blk w (relC .u32 A) 46
  have c0 := rel_cell k0 hi
  have KB := Lib.hid kb
  have C := fun w => Lib.hid (implHasB (A i) j w hj)
  have h1 : (0 : Int) ≤ (i : Int) := by omega
  have h2 : (i : Int) < 27 := by omega
  obtain ⟨n, hn⟩ : ∃ n : Nat, n = i + 27 * j := ⟨_, rfl⟩
  have hr : ((n : Int)).tmod 27 = (i : Int) := by rw [Int.tmod_eq_emod_of_nonneg (by omega)]; omega
  have hq : ((n : Int)).tdiv 27 = (j : Int) := by rw [Int.tdiv_eq_ediv_of_nonneg (by omega)]; omega
  have hr' : ((n : Int)) % 27 = (i : Int) := by omega
  have hq' : ((n : Int)) / 27 = (j : Int) := by omega
  have hn0 : (0 : Int) ≤ (n : Int) := by omega
  rw [← hn]
  clear k0 kb kz hn
  go_enter Tryz.func100, Tryz.ntmps100
  go_wp2_with (refine wpList_boxTo rfl 46 _ rfl (some 2) rfl w.heap.size rfl (relC .u32 A) (by rfl) ?_)
  generalize w.alloc (.cells (relC .u32 A) 46) = w0 at *
  go_wp2_with fail
  refine (C _).out.mono ?_
  rintro e w2 ⟨rfl, rfl⟩
  go_wp2_with fail
  go_ret
  exact ⟨rfl, KB.out⟩

end Go.Proofs.YtinjmdjnkneidaaGreatDoor
