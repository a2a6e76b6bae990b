/-
  Whether a set lies within another one.
-/
import Derived.Test.YtjhdimkplkfilaaTopB
namespace Go.Proofs.Ytjhdimkplkfilaa
open Go.RowKit

set_option maxHeartbeats 1000000 in
theorem implWithin (F G : Nat → Bool) (w : World) : Calls Try.prog 75 #[.int .u32 (nb 27 F), .int .u32 (nb 27 G)] w fun e w' => e = .returned (.bool (wi 27 F G)) ∧ w = w' := by
  have H := Lib.hid (within_bits F G)
  go_enter Try.func75, Try.ntmps75
  go_wp2_with fail
  go_ret
  exact ⟨by rw [← H.out]; rfl, rfl⟩
end Go.Proofs.Ytjhdimkplkfilaa
