/-
  A list of texts as values.
-/
import Derived.Test.YtopbkkmplgllkaaGreatDoorTopB
namespace Go.Proofs.YtopbkkmplgllkaaGreatDoor
open Go.RowKit
def strs (l : List (List UInt8)) : List Value := l.map fun b => .string (bs b)
end Go.Proofs.YtopbkkmplgllkaaGreatDoor
