/-
  Drawing a text where a variable is asked: l1Which.
-/
import Derived.Test.YtgkoljphndgoeaaDraw
namespace Go.Proofs.Ytgkoljphndgoeaa
open Go.RowKit

end Go.Proofs.Ytgkoljphndgoeaa
