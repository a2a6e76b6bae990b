/-
  FirstDifference of the model.
-/
import Derived.Test.YtopbkkmplgllkaaGreatDoorFd0
import Derived.BigQuiet
namespace Go.Proofs.YtopbkkmplgllkaaGreatDoor
open Go.RowKit Tm Go.Great Go.ChangeMaps

end Go.Proofs.YtopbkkmplgllkaaGreatDoor
