import Derived.Test.YtlhmdpkenkibiaaGreatDoorPp0
import Derived.Test.YtlhmdpkenkibiaaGreatDoorRp0
import Derived.Test.YtlhmdpkenkibiaaGreatDoorTopG2
namespace Go.Proofs.YtlhmdpkenkibiaaGreatDoor
open Go.RowKit Go.Great Tm
theorem rT_skipB (i j : Nat) : rT .skip i j = (i == j) := by
 rw [Bool.eq_iff_iff, rT_iff, beq_iff_eq]
 exact ⟨fun h => (show j = i from h).symm, fun h => (show j = i from h.symm)⟩
end Go.Proofs.YtlhmdpkenkibiaaGreatDoor
