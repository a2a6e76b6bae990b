import Derived.Test.YtlhmdpkenkibiaaGreatDoorTopR1
import Derived.Test.YtlhmdpkenkibiaaGreatDoorTopG
import Derived.Test.YtlhmdpkenkibiaaGreatDoorTopM1
import Derived.Deep.MidRow
import Derived.Test.YtlhmdpkenkibiaaGreatDoorTopP2
import Derived.Test.YtlhmdpkenkibiaaGreatDoorTwo
import Derived.Deep.RegionHeld3
import Derived.Test.YtlhmdpkenkibiaaGreatDoorTopX1
import Derived.BigQuiet
namespace Go.Proofs.YtlhmdpkenkibiaaGreatDoor
open Go.RowKit Go.Great
end Go.Proofs.YtlhmdpkenkibiaaGreatDoor
namespace Go.Proofs.YtlhmdpkenkibiaaGreatDoor
open Go.RowKit Tm Go.Great Classical Go.ChangeMaps
abbrev Oc := (Nat → Bool) × Bool × Bool
def ocC (o : Oc) : List Value := [.int .u32 (nb 27 o.1 : Nat), .bool o.2.1, .bool o.2.2]
def ocs (f : Nat → Oc) (n : Nat) : List Value := (List.range n).flatMap fun i => ocC (f i)
def OcR (w : World) (B : Nat) (v : Value) (f : Nat → Oc) : Prop := w.ownsRow B 172 3 v 27 (ocs f 27)
end Go.Proofs.YtlhmdpkenkibiaaGreatDoor
namespace Go.Proofs.YtlhmdpkenkibiaaGreatDoor
open Go.RowKit Tm Go.Great Go.ChangeMaps
theorem OcR.kept {w w' : World} {B : Nat} {v : Value} {F : Nat → Oc} (h : OcR w B v F) (hb : Below w.heap.size w w') : OcR w' B v F := own_below h hb
end Go.Proofs.YtlhmdpkenkibiaaGreatDoor
namespace Go.Proofs.YtlhmdpkenkibiaaGreatDoor
open Go.RowKit Tm Go.Great
theorem PV.of {p : Pg} (hp : p.ok false) (hl : p.ser.length ≤ 200) : PV (bs p.ser) := ⟨⟨p, hp, by simp [bs]⟩, by rw [bs_size]; exact hl⟩
end Go.Proofs.YtlhmdpkenkibiaaGreatDoor
