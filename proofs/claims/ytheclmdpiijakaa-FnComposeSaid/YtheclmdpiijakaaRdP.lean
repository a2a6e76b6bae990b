/-
  impl.readProgram: the statement and true for a text of at most 200 bytes that is a program, and nil and false for every other text. The words of the interface: head and parts of a statement.
-/
import Derived.Test.YtheclmdpiijakaaStm
namespace Go.Proofs.Ytheclmdpiijakaa
open Go.RowKit

end Go.Proofs.Ytheclmdpiijakaa
