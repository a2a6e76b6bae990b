/-
  Images and preimages of a set by a step.
-/
import Derived.Test.YtklenikoenoegaaAsg
namespace Go.Proofs.Ytklenikoenoegaa
open Go.RowKit Tm

theorem at_has (n : Nat) (w : World) : (method 295 55 (.int .u32 n) "loop.example/productprograms/impl.has").run Try.prog w = .ok (73, .int .u32 n) w := by kernel_rfl
theorem at_with (n : Nat) (w : World) : (method 295 55 (.int .u32 n) "loop.example/productprograms/impl.with").run Try.prog w = .ok (60, .int .u32 n) w := by kernel_rfl

end Go.Proofs.Ytklenikoenoegaa
