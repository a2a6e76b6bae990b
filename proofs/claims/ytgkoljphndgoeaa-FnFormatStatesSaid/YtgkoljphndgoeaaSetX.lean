/-
  Whether a set lies within another one.
-/
import Derived.Test.YtgkoljphndgoeaaSetW
namespace Go.Proofs.Ytgkoljphndgoeaa
open Go.RowKit

end Go.Proofs.Ytgkoljphndgoeaa
