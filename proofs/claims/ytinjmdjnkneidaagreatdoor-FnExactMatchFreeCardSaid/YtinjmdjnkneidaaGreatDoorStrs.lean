/-
  A list of texts as values.
-/
import Derived.Test.YtinjmdjnkneidaaGreatDoorTopB
namespace Go.Proofs.YtinjmdjnkneidaaGreatDoor
open Go.RowKit
def strs (l : List (List UInt8)) : List Value := l.map fun b => .string (bs b)
end Go.Proofs.YtinjmdjnkneidaaGreatDoor
