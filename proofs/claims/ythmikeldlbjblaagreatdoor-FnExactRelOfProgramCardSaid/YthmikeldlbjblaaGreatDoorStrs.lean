/-
  A list of texts as values.
-/
import Derived.Test.YthmikeldlbjblaaGreatDoorTopB
namespace Go.Proofs.YthmikeldlbjblaaGreatDoor
open Go.RowKit
def strs (l : List (List UInt8)) : List Value := l.map fun b => .string (bs b)
end Go.Proofs.YthmikeldlbjblaaGreatDoor
