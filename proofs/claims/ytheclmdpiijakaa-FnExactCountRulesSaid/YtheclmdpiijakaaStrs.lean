/-
  A list of texts as values.
-/
import Derived.Test.YtheclmdpiijakaaTopB
namespace Go.Proofs.Ytheclmdpiijakaa
open Go.RowKit
def strs (l : List (List UInt8)) : List Value := l.map fun b => .string (bs b)
end Go.Proofs.Ytheclmdpiijakaa
