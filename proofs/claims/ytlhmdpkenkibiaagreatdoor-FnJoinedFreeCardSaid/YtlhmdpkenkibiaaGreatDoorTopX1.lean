import Derived.Test.YtlhmdpkenkibiaaGreatDoorTopU
import Derived.Test.YtlhmdpkenkibiaaGreatDoorTopP
import Derived.Test.YtlhmdpkenkibiaaGreatDoorTopE1
import Derived.Test.YtlhmdpkenkibiaaGreatDoorMo
import Derived.Laws.StructEq
namespace Go.Proofs.YtlhmdpkenkibiaaGreatDoor
open Go.RowKit
end Go.Proofs.YtlhmdpkenkibiaaGreatDoor
namespace Go.Proofs.YtlhmdpkenkibiaaGreatDoor
open Go.RowKit Tm
end Go.Proofs.YtlhmdpkenkibiaaGreatDoor
namespace Go.Proofs.YtlhmdpkenkibiaaGreatDoor
open Go.RowKit Tm Go.Great
theorem bs_ofP {s : ByteArray} {p : Pg} (h : s.data.toList = p.ser) : s = bs p.ser := by
 obtain ⟨⟨l⟩⟩ := s
 simp only [bs] at *
 congr 2
def PV (s : ByteArray) : Prop := PValid false s.data.toList ∧ s.size ≤ 200
theorem specPVb (s : ByteArray) (w : World) : ∃ b : Bool, (b = true ↔ PV s) ∧ Calls Tryz.prog 85 #[.string s] w fun e w' => e = .returned (.bool b) ∧ Below w.heap.size w w' := by
 by_cases h : PV s
 ·exact ⟨true, by simp [h], (specPV_yes s w h.1 h.2).mono fun e w' ⟨h1, h2⟩ => ⟨h1, by first | (subst h2; exact Below.refl _ _) | (obtain ⟨n, rfl⟩ := h2; exact bdrewN (Below.refl _ _) n) | exact h2⟩⟩
 ·exact ⟨false, by simp [h], (specPV_no s w h).mono fun e w' ⟨h1, h2⟩ => ⟨h1, by first | (subst h2; exact Below.refl _ _) | (obtain ⟨n, rfl⟩ := h2; exact bdrewN (Below.refl _ _) n) | exact h2⟩⟩
end Go.Proofs.YtlhmdpkenkibiaaGreatDoor
