/-
  Whether a set lies within another one.
-/
import Derived.Test.YtheclmdpiijakaaTopB
namespace Go.Proofs.Ytheclmdpiijakaa
open Go.RowKit

end Go.Proofs.Ytheclmdpiijakaa
