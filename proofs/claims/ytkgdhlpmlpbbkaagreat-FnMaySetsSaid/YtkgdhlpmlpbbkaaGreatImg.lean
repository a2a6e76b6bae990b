/-
  Images and preimages of a set by a step.
-/
import Derived.Test.YtkgdhlpmlpbbkaaGreatAsg
namespace Go.Proofs.YtkgdhlpmlpbbkaaGreat
open Go.RowKit Tm

theorem at_has (n : Nat) (w : World) : (method 323 57 (.int .u32 n) "loop.example/productprograms/impl.has").run Tryz.prog w = .ok (56, .int .u32 n) w := by kernel_rfl
theorem at_with (n : Nat) (w : World) : (method 323 57 (.int .u32 n) "loop.example/productprograms/impl.with").run Tryz.prog w = .ok (66, .int .u32 n) w := by kernel_rfl

end Go.Proofs.YtkgdhlpmlpbbkaaGreat
