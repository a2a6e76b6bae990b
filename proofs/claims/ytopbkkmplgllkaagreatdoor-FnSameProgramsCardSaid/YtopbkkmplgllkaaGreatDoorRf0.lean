/-
  RunsFrom of the model.
-/
import Derived.Test.YtopbkkmplgllkaaGreatDoorEq
import Derived.Test.YtopbkkmplgllkaaGreatDoorRe0
import Derived.Deep.RegionHeld
namespace Go.Proofs.YtopbkkmplgllkaaGreatDoor
open Go.RowKit Tm Go.Great Go.ChangeMaps

def noC : Array Value := #[.string ⟨#[]⟩, .bool false, .bool false]
noncomputable def rfC (p : Pg) (i : Nat) : Array Value := #[.string (bs (tb (rT p i))), .bool (rL p i), .bool (rK p i)]
noncomputable def rfV (p : Pg) (i : Nat) : Value := .tuple #[.agg #[.string (bs (tb (rT p i))), .bool (rL p i), .bool (rK p i)], .bool true]
def rfNo : Value := .tuple #[.agg #[.string ⟨#[]⟩, .bool false, .bool false], .bool false]

end Go.Proofs.YtopbkkmplgllkaaGreatDoor
