/-
  impl.operandKinds at every kind, the wide ones among them (strings.ToUpper by the library's contract).
-/
import Derived.Test.YtgkoljphndgoeaaGKinds
import Derived.Test.YtgkoljphndgoeaaShelf
namespace Go.Proofs.Ytgkoljphndgoeaa
open Go.RowKit

/-- The rune of the first state for one of the second. -/
def nrr (r : Int) : Int := if 88 ≤ r ∧ r ≤ 90 then r + 32 else r
end Go.Proofs.Ytgkoljphndgoeaa
