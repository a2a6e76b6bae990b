/-
  CountPred of the program at the text of a set.
-/
import Derived.Test.YtlhmdpkenkibiaaGreatDoorPopq
import Derived.Test.YtlhmdpkenkibiaaGreatDoorTopG2
namespace Go.Proofs.YtlhmdpkenkibiaaGreatDoor
open Go.RowKit

theorem cnt_nbQ (F : Nat → Bool) : cnt 27 (nb 27 F).testBit = cnt 27 F := cnt_congrQ fun i hi => by rw [nb_bit]; simp [hi]
set_option maxHeartbeats 1000000 in
theorem cnt_at (F : Nat → Bool) (w : World) : Calls Tryz.prog 55 #[.string (bs (tb F))] w fun e w' => e = .returned (.int .i64 (cnt 27 F : Nat)) ∧ Below w.heap.size w w' := by
  have C := fun w => Lib.hid (implRead_yes (bs (tb F)) w (set27_tb F))
  rw [nb_congr (k := 27) (F := hs (bs (tb F)).data.toList) (G := F) (fun i hi => hs_bs F i hi)] at C
  have E := fun w => Lib.hid (popAnyQ (nb 27 F) w (nb_lt27 _))
  rw [cnt_nbQ] at E
  go_enter Tryz.func55, Tryz.ntmps55
  go_wp2_with fail
  refine (C _).out.mono ?_
  rintro e w' ⟨rfl, rfl⟩
  go_wp2_with fail
  refine (E _).out.mono ?_
  rintro e w1 ⟨rfl, m, rfl⟩
  go_wp2_with fail
  go_ret
  exact ⟨rfl, bdrewN (Below.refl _ _) m⟩
end Go.Proofs.YtlhmdpkenkibiaaGreatDoor
