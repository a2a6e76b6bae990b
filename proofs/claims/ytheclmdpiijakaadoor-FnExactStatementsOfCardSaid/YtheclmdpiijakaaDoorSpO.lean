/-
  PartsOf of the model, and the law of PartsOf.
-/
import Derived.Test.YtheclmdpiijakaaDoorMark
import Derived.Test.YtheclmdpiijakaaDoorSpP
namespace Go.Proofs.YtheclmdpiijakaaDoor
open Go.RowKit Tm

def RowPost2 (vs : List Value) (w : World) (e : Ending) (w' : World) : Prop := ∃ sl, e = .returned sl ∧ Row w' w.heap.size 9 sl vs ∧ Below w.heap.size w w'
end Go.Proofs.YtheclmdpiijakaaDoor
