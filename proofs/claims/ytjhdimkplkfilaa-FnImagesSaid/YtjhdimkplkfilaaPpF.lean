/-
  The laws' own short functions of sets: ppNot, ppAnd, ppOr, ppSet hand on what the program's function returns.
-/
import Derived.Test.YtjhdimkplkfilaaTopB
namespace Go.Proofs.Ytjhdimkplkfilaa
open Go.RowKit

set_option maxHeartbeats 1000000 in
theorem ppNot_of (p q : ByteArray) (b : Bool) (C : ∀ w, Hid (Calls Try.prog 76 #[.string p] w fun e w' => e = .returned (.tuple #[.string q, .bool b]) ∧ Below w.heap.size w w')) (w : World) :
    Calls Try.prog 34 #[.string p] w fun e w' => e = .returned (.string q) ∧ Below w.heap.size w w' := by
  go_enter Try.func34, Try.ntmps34
  go_wp2_with fail
  refine (C _).out.mono ?_
  rintro e w1 ⟨rfl, hb⟩
  have HB := Lib.hid hb
  clear hb
  go_wp2_with fail
  go_ret
  exact ⟨rfl, HB.out⟩
end Go.Proofs.Ytjhdimkplkfilaa
