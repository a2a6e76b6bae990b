/-
  CountPred of the program.
-/
import Derived.Test.YtheclmdpiijakaaPop
namespace Go.Proofs.Ytheclmdpiijakaa
open Go.RowKit

theorem cnt_nb (F : Nat → Bool) : cnt 27 (nb 27 F).testBit = cnt 27 F := cnt_congr fun i hi => by rw [nb_bit]; simp [hi]

end Go.Proofs.Ytheclmdpiijakaa
