/-
  PostOf: the program and the model.
-/
import Derived.Test.YtcbdbbcipnmjoaaGreatTopR
namespace Go.Proofs.YtcbdbbcipnmjoaaGreat
open Go.RowKit Tm Go.Great Classical

/-- The states in which a program may end from a set. -/
noncomputable def poS (p : Pg) (S : Nat → Bool) : Nat → Bool := fun j => upto 27 (fun i => S i && rT p i j)
theorem po_eq {p : Pg} {S F : Nat → Bool} {m : Mp} {lo bl : Bool} (h : Wk (flG p) (flS p) S 27 m F lo bl) (hT : Top (flG p)) : ∀ j, j < 27 → F j = poS p S j := by
  intro j hj
  rw [Bool.eq_iff_iff, h.fin j hj, h.kn]
  unfold poS
  rw [upto_iff]
  constructor
  · rintro ⟨i, hi, hs, hw⟩
    exact ⟨i, hi, by rw [hs, Bool.true_and, rT_iff]; exact (fin_iff hT (fl_lay p)).1 hw⟩
  · rintro ⟨i, hi, hs⟩
    rw [Bool.and_eq_true, rT_iff] at hs
    exact ⟨i, hi, hs.1, (fin_iff hT (fl_lay p)).2 hs.2⟩
end Go.Proofs.YtcbdbbcipnmjoaaGreat
