/-
  The closure of a relation: closed of the program.
-/
import Derived.Test.YtheclmdpiijakaaDoorRc
namespace Go.Proofs.YtheclmdpiijakaaDoor
open Go.RowKit Go.Great

end Go.Proofs.YtheclmdpiijakaaDoor
