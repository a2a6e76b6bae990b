/-
  Plain facts on relations: counts, inclusion, turning, images, closures.
-/
import Derived.Test.YtheclmdpiijakaaRl
namespace Go.Proofs.Ytheclmdpiijakaa
open Go.RowKit Go.Great

theorem tl_eq (T U : Nat → Nat → Bool) : ((bs (relT T)).toList == (bs (relT U)).toList) = relEq T U := by
  rw [Bool.eq_iff_iff, ← rb_iff]
  constructor
  · intro h; exact bytes_t h
  · intro h; rw [h]; simp
theorem tb_eq (F G : Nat → Bool) (h : ∀ i, i < 27 → F i = G i) : ((bs (tb F)).toList == (bs (tb G)).toList) = true := by
  rw [bs_ext h]; simp
theorem cntR_not (T : Nat → Nat → Bool) (k : Nat) : cntR T k + cntR (fun i j => !T i j) k = 27 * k := by
  induction k with
  | zero => rfl
  | succ k ih =>
    unfold cntR
    have := cnt_not 27 (T k)
    omega
theorem cntR_and_or (T U : Nat → Nat → Bool) (k : Nat) : cntR (fun i j => T i j && U i j) k + cntR (fun i j => T i j || U i j) k = cntR T k + cntR U k := by
  induction k with
  | zero => rfl
  | succ k ih =>
    unfold cntR
    have := cnt_and_or 27 (T k) (U k)
    omega
theorem cntR_nil {T : Nat → Nat → Bool} : ∀ k, k ≤ 27 → (cntR T k = 0 ↔ ∀ i, i < k → ∀ j, j < 27 → T i j = false) := by
  intro k
  induction k with
  | zero => intro _; exact ⟨fun _ i hi => by omega, fun _ => rfl⟩
  | succ k ih =>
    intro hk
    have ih := ih (by omega)
    unfold cntR
    constructor
    · intro h i hi
      by_cases e : i = k
      · subst e
        exact (cnt_nil (n := 27) (F := T i)).1 (by omega)
      · exact ih.1 (by omega) i (by omega)
    · intro h
      have h1 := ih.2 fun i hi => h i (by omega)
      have h2 := (cnt_nil (n := 27) (F := T k)).2 (h k (by omega))
      omega
theorem cntR_729 (T : Nat → Nat → Bool) : cntR T 27 ≤ 729 := cntR_le T 27
theorem in_and (T U : Nat → Nat → Bool) : inR (fun i j => T i j && U i j) T = true := inR_iff.2 fun _ _ _ _ h => (Bool.and_eq_true_iff.1 h).1
theorem in_or (T U : Nat → Nat → Bool) : inR U (fun i j => T i j || U i j) = true := inR_iff.2 fun i _ j _ h => by rw [h, Bool.or_true]
theorem in_turn (T U : Nat → Nat → Bool) : inR (turnR T) (turnR U) = inR T U := by
  rw [Bool.eq_iff_iff, inR_iff, inR_iff]
  exact ⟨fun h i hi j hj => h j hj i hi, fun h i hi j hj => h j hj i hi⟩
theorem in_count (T U : Nat → Nat → Bool) : (((cntR (fun i j => T i j && !U i j) 27 : Nat) : Int) == 0) = inR T U := by
  rw [Bool.eq_iff_iff, inR_iff, beq_iff_eq]
  have h := cntR_nil (T := fun i j => T i j && !U i j) 27 (Nat.le_refl _)
  constructor
  · intro hz i hi j hj ht
    have := h.1 (by omega) i hi j hj
    rw [ht] at this
    simpa using this
  · intro hz
    have := h.2 fun i hi j hj => by
      cases ht : T i j
      · rfl
      · rw [hz i hi j hj ht]; rfl
    omega
theorem in_union (T U : Nat → Nat → Bool) : relEq (fun i j => T i j || U i j) U = inR T U := by
  rw [Bool.eq_iff_iff, inR_iff, relEq_iff]
  constructor
  · intro h i hi j hj ht
    rw [← h i hi j hj, ht, Bool.true_or]
  · intro h i hi j hj
    cases ht : T i j
    · rfl
    · rw [h i hi j hj ht]; rfl
theorem postS_iff {F : Nat → Bool} {B : Nat → Nat → Bool} {j : Nat} : postS F B 27 j = true ↔ ∃ q, q < 27 ∧ F q = true ∧ B q j = true := by
  unfold postS
  rw [upto_iff]
  simp
theorem adj (R : Nat → Nat → Bool) (F G : Nat → Bool) : wi 27 (postS F R 27) G = wi 27 F (shaR R G) := by
  rw [Bool.eq_iff_iff, wi_iff, wi_iff]
  constructor
  · intro h i hi hf
    unfold shaR
    rw [wi_iff]
    intro j hj hr
    exact h j hj (postS_iff.2 ⟨i, hi, hf, hr⟩)
  · intro h j hj hp
    obtain ⟨i, hi, hf, hr⟩ := postS_iff.1 hp
    have := h i hi hf
    unfold shaR at this
    rw [wi_iff] at this
    exact this j hj hr
theorem sha_img (R : Nat → Nat → Bool) (F : Nat → Bool) : ∀ i, i < 27 → shaR R F i = !postS (fun i => !F i) (turnR R) 27 i := by
  intro i _
  cases h : postS (fun i => !F i) (turnR R) 27 i
  · show shaR R F i = true
    unfold shaR
    rw [wi_iff]
    intro j hj hr
    cases hf : F j
    · have : postS (fun i => !F i) (turnR R) 27 i = true := postS_iff.2 ⟨j, hj, by simp [hf], hr⟩
      rw [h] at this; cases this
    · rfl
  · show shaR R F i = false
    obtain ⟨j, hj, hf, hr⟩ := postS_iff.1 h
    cases hs : shaR R F i
    · rfl
    · unfold shaR at hs
      rw [wi_iff] at hs
      have := hs j hj hr
      rw [this] at hf; cases hf
theorem relEq_comm (T U : Nat → Nat → Bool) : relEq T U = relEq U T := by
  rw [Bool.eq_iff_iff, relEq_iff, relEq_iff]
  exact ⟨fun h i hi j hj => (h i hi j hj).symm, fun h i hi j hj => (h i hi j hj).symm⟩
theorem cl_snoc {T : Nat → Nat → Bool} {i j k : Nat} (h : Cl T i j) (hk : k < 27) (hjk : T j k = true) : Cl T i k := h.trans (.head hk hjk (.refl _))
theorem cl_turn {T : Nat → Nat → Bool} (hs : ∀ i, i < 27 → ∀ j, j < 27 → T i j = true → T j i = true) {i j : Nat} (h : Cl T i j) (hi : i < 27) : Cl T j i := by
  induction h with
  | refl i => exact .refl i
  | head h0 h1 _ ih => exact cl_snoc (ih h0) hi (hs _ hi _ h0 h1)
theorem cl_cl {T : Nat → Nat → Bool} {i j : Nat} (h : Cl (cloR T) i j) : Cl T i j := by
  induction h with
  | refl i => exact .refl i
  | head h0 h1 _ ih => exact (cloR_iff.1 h1).trans ih
theorem cl_one {T : Nat → Nat → Bool} {i j : Nat} (hj : j < 27) (h : T i j = true) : Cl T i j := .head hj h (.refl _)
theorem clo_idem (T : Nat → Nat → Bool) : relEq (cloR T) (cloR (cloR T)) = true := relEq_iff.2 fun i _ j hj => by
  rw [Bool.eq_iff_iff, cloR_iff, cloR_iff]
  exact ⟨fun h => cl_one hj (cloR_iff.2 h), cl_cl⟩
theorem equiv_both (T : Nat → Nat → Bool) : (relEq (cloR (fun i j => T i j || turnR T i j)) (turnR (cloR (fun i j => T i j || turnR T i j))) && relEq (cloR (fun i j => T i j || turnR T i j)) (cloR (cloR (fun i j => T i j || turnR T i j)))) = true := by
  rw [clo_idem, Bool.and_true, relEq_iff]
  have hs : ∀ i, i < 27 → ∀ j, j < 27 → (fun i j => T i j || turnR T i j) i j = true → (fun i j => T i j || turnR T i j) j i = true := by
    intro i _ j _ h
    unfold turnR at *
    simp only at h ⊢
    rw [Bool.or_comm]; exact h
  intro i hi j hj
  show _ = cloR _ j i
  rw [Bool.eq_iff_iff, cloR_iff, cloR_iff]
  exact ⟨fun h => cl_turn hs h hi, fun h => cl_turn hs h hj⟩
theorem comp_assoc (R Q U : Nat → Nat → Bool) : bs (relT (compR (compR R Q) U)) = bs (relT (compR R (compR Q U))) := rb_congr fun i _ j _ => by
  rw [Bool.eq_iff_iff, compR_iff, compR_iff]
  constructor
  · rintro ⟨q, hq, h1, h2⟩
    obtain ⟨p, hp, h3, h4⟩ := compR_iff.1 h1
    exact ⟨p, hp, h3, compR_iff.2 ⟨q, hq, h4, h2⟩⟩
  · rintro ⟨q, hq, h1, h2⟩
    obtain ⟨p, hp, h3, h4⟩ := compR_iff.1 h2
    exact ⟨p, hp, compR_iff.2 ⟨q, hq, h1, h3⟩, h4⟩
theorem comp_or (R Q U : Nat → Nat → Bool) : bs (relT (compR R (fun i j => Q i j || U i j))) = bs (relT (fun i j => compR R Q i j || compR R U i j)) := rb_congr fun i _ j _ => by
  rw [Bool.eq_iff_iff, compR_iff, Bool.or_eq_true_iff, compR_iff, compR_iff]
  constructor
  · rintro ⟨q, hq, h1, h2⟩
    rcases Bool.or_eq_true_iff.1 h2 with h2 | h2
    · exact .inl ⟨q, hq, h1, h2⟩
    · exact .inr ⟨q, hq, h1, h2⟩
  · rintro (⟨q, hq, h1, h2⟩ | ⟨q, hq, h1, h2⟩)
    · exact ⟨q, hq, h1, by rw [h2, Bool.true_or]⟩
    · exact ⟨q, hq, h1, by rw [h2, Bool.or_true]⟩
end Go.Proofs.Ytheclmdpiijakaa
