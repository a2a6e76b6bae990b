/-
  Refinement of programs goes through all statements: plain mathematics of their runs.
-/
import Derived.Test.YtgkoljphndgoeaaGreatDoorTopS1
namespace Go.Proofs.YtgkoljphndgoeaaGreatDoor
open Tm Go.Great

/-- All that runs of the first program may do, runs of the second one may. -/
def Rf (p q : Pg) : Prop := ∀ i, i < 27 → (∀ j, Fin mdl p i j → Fin mdl q i j) ∧ (Lps mdl p i → Lps mdl q i) ∧ (Stk mdl p i → Stk mdl q i)
theorem rf_iff {p q : Pg} (hp : p.ok false) : allO reO (oc p) (oc q) = true ↔ Rf p q := by
  rw [ref_pure, outS_f, outS_f]
  unfold Rf
  constructor
  · rintro ⟨h1, h2, h3⟩ i hi
    exact ⟨fun j hj => rT_iff.1 (outS_f.1 (h1 i hi) j (fin_lt hp hi hj) (rT_iff.2 hj)), fun h => rL_iff.1 (h2 i hi (rL_iff.2 h)), fun h => rK_iff.1 (h3 i hi (rK_iff.2 h))⟩
  · intro h
    exact ⟨fun i hi => outS_f.2 fun j _ hj => rT_iff.2 ((h i hi).1 j (rT_iff.1 hj)), fun j hj a => rL_iff.2 ((h j hj).2.1 (rL_iff.1 a)), fun j hj a => rK_iff.2 ((h j hj).2.2 (rK_iff.1 a))⟩
theorem sm_iff {p q : Pg} (hp : p.ok false) (hq : q.ok false) : allO eqO (oc p) (oc q) = true ↔ Rf p q ∧ Rf q p := by
  rw [allO_iff]
  unfold eqO oc Rf
  simp only [Bool.and_eq_true, beq_iff_eq]
  constructor
  · intro h
    refine ⟨fun i hi => ⟨fun j hj => ?_, fun a => ?_, fun a => ?_⟩, fun i hi => ⟨fun j hj => ?_, fun a => ?_, fun a => ?_⟩⟩
    · have := nb_inj (h i hi).1.1 j (fin_lt hp hi hj); exact rT_iff.1 (this ▸ rT_iff.2 hj)
    · exact rL_iff.1 ((h i hi).1.2 ▸ rL_iff.2 a)
    · exact rK_iff.1 ((h i hi).2 ▸ rK_iff.2 a)
    · have := nb_inj (h i hi).1.1 j (fin_lt hq hi hj); exact rT_iff.1 (this.symm ▸ rT_iff.2 hj)
    · exact rL_iff.1 ((h i hi).1.2.symm ▸ rL_iff.2 a)
    · exact rK_iff.1 ((h i hi).2.symm ▸ rK_iff.2 a)
  · rintro ⟨h1, h2⟩ i hi
    refine ⟨⟨nb_congr fun j _ => ?_, ?_⟩, ?_⟩
    · rw [Bool.eq_iff_iff, rT_iff, rT_iff]; exact ⟨(h1 i hi).1 j, (h2 i hi).1 j⟩
    · rw [Bool.eq_iff_iff, rL_iff, rL_iff]; exact ⟨(h1 i hi).2.1, (h2 i hi).2.1⟩
    · rw [Bool.eq_iff_iff, rK_iff, rK_iff]; exact ⟨(h1 i hi).2.2, (h2 i hi).2.2⟩
theorem Rf.refl (p : Pg) : Rf p p := fun _ _ => ⟨fun _ h => h, fun h => h, fun h => h⟩
theorem Rf.seq {a a' b b' : Pg} (ha : a.ok false) (h : Rf a a') (k : Rf b b') : Rf (.seq a b) (.seq a' b') := fun i hi => by
  refine ⟨?_, ?_, ?_⟩
  · rintro j ⟨m, h1, h2⟩
    exact ⟨m, (h i hi).1 m h1, (k m (fin_lt ha hi h1)).1 j h2⟩
  · rintro (h1 | ⟨m, h1, h2⟩)
    · exact .inl ((h i hi).2.1 h1)
    · exact .inr ⟨m, (h i hi).1 m h1, (k m (fin_lt ha hi h1)).2.1 h2⟩
  · rintro (h1 | ⟨m, h1, h2⟩)
    · exact .inl ((h i hi).2.2 h1)
    · exact .inr ⟨m, (h i hi).1 m h1, (k m (fin_lt ha hi h1)).2.2 h2⟩
theorem Rf.cho {a a' b b' : Pg} (h : Rf a a') (k : Rf b b') : Rf (.cho a b) (.cho a' b') := fun i hi => by
  refine ⟨fun j => ?_, ?_, ?_⟩
  · rintro (h1 | h1)
    · exact .inl ((h i hi).1 j h1)
    · exact .inr ((k i hi).1 j h1)
  · rintro (h1 | h1)
    · exact .inl ((h i hi).2.1 h1)
    · exact .inr ((k i hi).2.1 h1)
  · rintro (h1 | h1)
    · exact .inl ((h i hi).2.2 h1)
    · exact .inr ((k i hi).2.2 h1)
theorem Rf.ite {t : Tm} {a a' b b' : Pg} (h : Rf a a') (k : Rf b b') : Rf (.ite t a b) (.ite t a' b') := fun i hi => by
  unfold Fin Lps Stk
  by_cases ht : mdl.t t i = true
  · simp only [if_pos ht]; exact h i hi
  · simp only [if_neg ht]; exact k i hi
theorem Rf.star {t : Tm} {a a' : Pg} (ha : a.ok false) (h : Rf a a') {i j : Nat} (hi : i < 27) (hs : Star (fun u v => mdl.t t u = true ∧ Fin mdl a u v) i j) : Star (fun u v => mdl.t t u = true ∧ Fin mdl a' u v) i j := by
  induction hs with
  | refl => exact .refl _
  | head h1 _ ih => exact .head ⟨h1.1, (h _ hi).1 _ h1.2⟩ (ih (fin_lt ha hi h1.2))
theorem Rf.whl {t : Tm} {a a' : Pg} (ha : a.ok false) (h : Rf a a') : Rf (.whl t a) (.whl t a') := fun i hi => by
  refine ⟨?_, ?_, ?_⟩
  · rintro j ⟨h1, h2⟩
    exact ⟨h.star ha hi h1, h2⟩
  · rintro ⟨j, h1, h2, h3⟩
    have hj := star_lt ha hi h1
    refine ⟨j, h.star ha hi h1, h2, ?_⟩
    rcases h3 with h3 | ⟨S, h3, h4⟩
    · exact .inl ((h j hj).2.1 h3)
    · refine .inr ⟨fun u => S u ∧ u < 27, ⟨h3, hj⟩, fun u hu => ⟨(h4 u hu.1).1, ?_⟩⟩
      obtain ⟨v, h5, h6⟩ := (h4 u hu.1).2
      exact ⟨v, (h u hu.2).1 v h5, h6, fin_lt ha hu.2 h5⟩
  · rintro ⟨j, h1, h2, h3⟩
    exact ⟨j, h.star ha hi h1, h2, (h j (star_lt ha hi h1)).2.2 h3⟩
theorem Rf.left (p c : Pg) : Rf p (.cho p c) := fun _ _ => ⟨fun _ h => .inl h, fun h => .inl h, fun h => .inl h⟩
/-- A program refines another one exactly if choosing between both does what the other one does. -/
theorem rf_cho {p q : Pg} : Rf p q ↔ Rf (.cho p q) q ∧ Rf q (.cho p q) := by
  constructor
  · intro h
    refine ⟨fun i hi => ⟨fun j => ?_, ?_, ?_⟩, fun i _ => ⟨fun j h => .inr h, fun h => .inr h, fun h => .inr h⟩⟩
    · rintro (h1 | h1)
      · exact (h i hi).1 j h1
      · exact h1
    · rintro (h1 | h1)
      · exact (h i hi).2.1 h1
      · exact h1
    · rintro (h1 | h1)
      · exact (h i hi).2.2 h1
      · exact h1
  · rintro ⟨h, _⟩ i hi
    exact ⟨fun j h1 => (h i hi).1 j (.inl h1), fun h1 => (h i hi).2.1 (.inl h1), fun h1 => (h i hi).2.2 (.inl h1)⟩
theorem eqO_symm (a b : Oc) : eqO a b = eqO b a := by
  unfold eqO
  rw [show (nb 27 a.1 == nb 27 b.1) = (nb 27 b.1 == nb 27 a.1) from Bool.beq_comm, show (a.2.1 == b.2.1) = (b.2.1 == a.2.1) from Bool.beq_comm, show (a.2.2 == b.2.2) = (b.2.2 == a.2.2) from Bool.beq_comm]
theorem allO_symm (F G : Nat → Oc) : allO eqO F G = allO eqO G F := by
  rw [Bool.eq_iff_iff, allO_iff, allO_iff]
  exact ⟨fun h j hj => by rw [eqO_symm]; exact h j hj, fun h j hj => by rw [eqO_symm]; exact h j hj⟩
end Go.Proofs.YtgkoljphndgoeaaGreatDoor
