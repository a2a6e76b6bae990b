/-
  Type assertions on the values of statements: each kind against each other one.
-/
import Derived.Test.YtheclmdpiijakaaBase
namespace Go.Proofs.Ytheclmdpiijakaa
open Go.RowKit

end Go.Proofs.Ytheclmdpiijakaa
