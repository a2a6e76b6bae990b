/-
  The set of a test: statesOf and PredOf of the program, l2Of and PredOf of the model.
-/
import Derived.Test.YtinillnccfgooaaDoorSetW
import Derived.Test.YtinillnccfgooaaDoorSetQ
import Derived.Test.YtinillnccfgooaaDoorAt0
import Derived.Test.YtinillnccfgooaaDoorEvalT
namespace Go.Proofs.YtinillnccfgooaaDoor
open Go.RowKit Tm

/-- The values of the variables in the state with a number. -/
def env (i : Nat) : Nat → Int := one (ax i) (ay i) (az i)
def tst (t : Tm) (i : Nat) : Bool := tru (env i) t

end Go.Proofs.YtinillnccfgooaaDoor
