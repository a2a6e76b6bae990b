/-
  A list of texts as values.
-/
import Derived.Test.YtheclmdpiijakaaGreatDoorTopB
namespace Go.Proofs.YtheclmdpiijakaaGreatDoor
open Go.RowKit
def strs (l : List (List UInt8)) : List Value := l.map fun b => .string (bs b)
end Go.Proofs.YtheclmdpiijakaaGreatDoor
