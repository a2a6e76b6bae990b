import Derived.Test.YtgkoljphndgoeaaGreatDoorTh1
import Derived.Test.YtgkoljphndgoeaaGreatDoorTopS1
namespace Go.Proofs.YtgkoljphndgoeaaGreatDoor
open Go.RowKit Tm Go.Great Go.ChangeMaps
def allO2 (T : Nat → Nat → Bool) (L K : Nat → Bool) : Nat → Oc := fun i => (T i, L i, K i)
theorem allEq_O (T : Nat → Nat → Bool) (L K : Nat → Bool) (T' : Nat → Nat → Bool) (L' K' : Nat → Bool) : allEq T L K T' L' K' = allO eqO (allO2 T L K) (allO2 T' L' K') := by
 rw [Bool.eq_iff_iff, allO_iff]
 unfold allEq eqO allO2
 simp only [Bool.and_eq_true, List.all_eq_true, List.mem_range, beq_iff_eq]
 constructor
 ·rintro ⟨h1, h2, h3⟩ j hj
  exact ⟨⟨h1 j hj, nb_inj h2 j hj⟩, nb_inj h3 j hj⟩
 ·intro h
  exact ⟨fun j hj => (h j hj).1.1, nb_congr fun j hj => (h j hj).1.2, nb_congr fun j hj => (h j hj).2⟩
theorem idem_pure (p : Pg) : allEq (sqT (rT p) (rT p)) (sqS (rT p) (rL p) (rL p)) (sqS (rT p) (rK p) (rK p)) (rT p) (rL p) (rK p) = allO eqO (thO (oc p) (oc p)) (oc p) := by
 rw [allEq_O]; rfl
end Go.Proofs.YtgkoljphndgoeaaGreatDoor
