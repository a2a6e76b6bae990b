/-
  CountPred of the program.
-/
import Derived.Test.YtgkoljphndgoeaaPop
namespace Go.Proofs.Ytgkoljphndgoeaa
open Go.RowKit

theorem cnt_nb (F : Nat → Bool) : cnt 27 (nb 27 F).testBit = cnt 27 F := cnt_congr fun i hi => by rw [nb_bit]; simp [hi]

set_option maxHeartbeats 1000000 in
theorem implCountP_yes (p : ByteArray) (w : World) (hp : Set27 p) : Calls Try.prog 9 #[.string p] w fun e w' => e = .returned (.int .i64 (cnt 27 (hs p.data.toList))) ∧ Below w.heap.size w w' := by
  have C := fun w => Lib.hid (implRead_yes p w hp)
  have E := fun w => Lib.hid (popAny (nb 27 (hs p.data.toList)) w (nb_lt27 _))
  rw [cnt_nb] at E
  go_enter Try.func9, Try.ntmps9
  go_wp2_with fail
  refine (C _).out.mono ?_
  rintro e w' ⟨rfl, rfl⟩
  go_wp2_with fail
  refine (E _).out.mono ?_
  rintro e w1 ⟨rfl, m, rfl⟩
  go_wp2_with fail
  go_ret
  exact ⟨rfl, bdrewN (Below.refl _ _) m⟩
set_option maxHeartbeats 1000000 in
theorem implCountP_no (p : ByteArray) (w : World) (hp : ¬ Set27 p) : Calls Try.prog 9 #[.string p] w fun e w' => e = .returned (.int .i64 (-1)) ∧ Below w.heap.size w w' := by
  have C := fun w => Lib.hid (implRead_no p w hp)
  clear hp
  go_enter Try.func9, Try.ntmps9
  go_wp2_with fail
  refine (C _).out.mono ?_
  rintro e w' ⟨rfl, rfl⟩
  go_wp2_with fail
  go_ret
  exact ⟨rfl, Below.refl _ _⟩
end Go.Proofs.Ytgkoljphndgoeaa
