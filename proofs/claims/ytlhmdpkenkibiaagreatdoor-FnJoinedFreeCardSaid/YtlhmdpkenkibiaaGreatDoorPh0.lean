import Derived.Test.YtlhmdpkenkibiaaGreatDoorTopP2
import Derived.BigQuiet
namespace Go.Proofs.YtlhmdpkenkibiaaGreatDoor
open Go.RowKit Tm Go.Great
theorem relS_bs (T : Nat → Nat → Bool) {i j : Nat} (hi : i < 27) (hj : j < 27) : relS (bs (relT T)).data.toList i j = T i j := by
 unfold relS
 rw [show (bs (relT T)).data.toList = relT T by simp [bs], relT_eq, hs_tbn]
 have h1 : 27 * i + j < 729 := by omega
 have h2 : (27 * i + j) / 27 = i := by omega
 have h3 : (27 * i + j) % 27 = j := by omega
 rw [h2, h3]
 simp [h1]
end Go.Proofs.YtlhmdpkenkibiaaGreatDoor
