import Derived.Test.YtlhmdpkenkibiaaGreatDoorTopR1
import Derived.Test.YtlhmdpkenkibiaaGreatDoorPh0
import Derived.Test.YtlhmdpkenkibiaaGreatDoorTopB
import Derived.Test.YtlhmdpkenkibiaaGreatDoorTopQ1
namespace Go.Proofs.YtlhmdpkenkibiaaGreatDoor
open Go.RowKit Go.Great
theorem rel_bs {s : ByteArray} (h : Rel729 s) : s = bs (relT (relS s.data.toList)) := by
 have h1 := bs_rel h
 rw [relT_eq]
 have e : tbn 729 (fun m => relS s.data.toList (m / 27) (m % 27)) = tbn 729 (hs s.data.toList) := tbn_congr fun m hm => by
  unfold relS
  rw [show 27 * (m / 27) + m % 27 = m by omega]
 rw [e]
 exact h1
theorem rb_congr {T T' : Nat → Nat → Bool} (h : ∀ i, i < 27 → ∀ j, j < 27 → T i j = T' i j) : bs (relT T) = bs (relT T') := by rw [relT_congr h]
def Gives (f : FuncId) (a : Array Value) (v : Value) : Prop := ∀ w, Hid (Calls Tryz.prog f a w fun e w' => e = .returned v ∧ Below w.heap.size w w')
end Go.Proofs.YtlhmdpkenkibiaaGreatDoor
namespace Go.Proofs.YtlhmdpkenkibiaaGreatDoor
open Go.RowKit
theorem hs_bs (F : Nat → Bool) (i : Nat) (hi : i < 27) : hs (bs (tb F)).data.toList i = F i := by
 rw [show (bs (tb F)).data.toList = tb F by simp [bs]]
 rw [show tb F = tbn 27 F from rfl, hs_tbn]
 simp [hi]
theorem set27_tb (F : Nat → Bool) : Set27 (bs (tb F)) := by
 unfold Set27
 rw [show (bs (tb F)).data.toList = tb F by simp [bs]]
 exact bits_tbn 27 F
end Go.Proofs.YtlhmdpkenkibiaaGreatDoor
namespace Go.Proofs.YtlhmdpkenkibiaaGreatDoor
open Go.RowKit Go.Great Tm
end Go.Proofs.YtlhmdpkenkibiaaGreatDoor
