/-
  The closure of a relation: closed of the program.
-/
import Derived.Test.YtheclmdpiijakaaRc
namespace Go.Proofs.Ytheclmdpiijakaa
open Go.RowKit Go.Great

end Go.Proofs.Ytheclmdpiijakaa
