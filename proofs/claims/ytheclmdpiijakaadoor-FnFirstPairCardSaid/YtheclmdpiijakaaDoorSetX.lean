/-
  Whether a set lies within another one.
-/
import Derived.Test.YtheclmdpiijakaaDoorTopB
namespace Go.Proofs.YtheclmdpiijakaaDoor
open Go.RowKit

end Go.Proofs.YtheclmdpiijakaaDoor
