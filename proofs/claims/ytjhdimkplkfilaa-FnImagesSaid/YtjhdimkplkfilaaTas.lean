/-
  Type assertions on the values of statements: each kind against each other one.
-/
import Derived.Test.YtjhdimkplkfilaaBase
namespace Go.Proofs.Ytjhdimkplkfilaa
open Go.RowKit

end Go.Proofs.Ytjhdimkplkfilaa
