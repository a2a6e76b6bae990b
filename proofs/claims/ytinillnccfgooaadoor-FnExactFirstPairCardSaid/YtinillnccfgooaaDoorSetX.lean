/-
  Whether a set lies within another one.
-/
import Derived.Test.YtinillnccfgooaaDoorSetW
namespace Go.Proofs.YtinillnccfgooaaDoor
open Go.RowKit

end Go.Proofs.YtinillnccfgooaaDoor
