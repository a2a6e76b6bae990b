/-
  When a program is plain, by the letters of its statements.
-/
import Derived.Test.YtopbkkmplgllkaaGreatDoorTopU
import Derived.Test.YtopbkkmplgllkaaGreatDoorTopP
namespace Go.Proofs.YtopbkkmplgllkaaGreatDoor
open Go.RowKit

def plainB (p : Pg) : Bool := decide (fnd (p.all.map Pg.letter) 47 < 0) && decide (fnd (p.all.map Pg.letter) 126 < 0)
def BoolPost (b : Bool) (w : World) (e : Ending) (w' : World) : Prop := e = .returned (.bool b) ∧ Below w.heap.size w w'
end Go.Proofs.YtopbkkmplgllkaaGreatDoor
