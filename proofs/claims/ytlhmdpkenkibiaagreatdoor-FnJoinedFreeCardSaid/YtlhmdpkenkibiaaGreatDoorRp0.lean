import Derived.Test.YtlhmdpkenkibiaaGreatDoorTopP2
import Derived.Test.YtlhmdpkenkibiaaGreatDoorTopK2
import Derived.Test.YtlhmdpkenkibiaaGreatDoorTopS1
namespace Go.Proofs.YtlhmdpkenkibiaaGreatDoor
open Go.RowKit Tm Go.Great Go.ChangeMaps
section
variable {w w' : World} {g : Nat} {n : Int} {B : Nat}
end
end Go.Proofs.YtlhmdpkenkibiaaGreatDoor
