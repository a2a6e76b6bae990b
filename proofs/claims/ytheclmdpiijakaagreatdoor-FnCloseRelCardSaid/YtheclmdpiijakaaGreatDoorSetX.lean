/-
  Whether a set lies within another one.
-/
import Derived.Test.YtheclmdpiijakaaGreatDoorTopB
namespace Go.Proofs.YtheclmdpiijakaaGreatDoor
open Go.RowKit

end Go.Proofs.YtheclmdpiijakaaGreatDoor
