/-
  Plain mathematics of relations: turning, composing, images, shadows, closures. Nothing of the program stands here.
-/
import Derived.Test.YtinillnccfgooaaDoorSetP
import Derived.Test.YtinillnccfgooaaDoorRel
import Derived.Test.YtinillnccfgooaaDoorRm
namespace Go.Proofs.YtinillnccfgooaaDoor

/-! ### Turning -/
def turnR (T : Nat → Nat → Bool) : Nat → Nat → Bool := fun i j => T j i
/-- The rows before k, and row k up to m, turned. -/
def turnP (T : Nat → Nat → Bool) (k m : Nat) : Nat → Nat → Bool := fun a b => decide (b < k) && T b a || (b == k) && decide (a < m) && T k a
theorem turnP_zero (T : Nat → Nat → Bool) (i j : Nat) : turnP T 0 0 i j = false := by simp [turnP]
theorem turnP_no {T : Nat → Nat → Bool} {k m : Nat} (h : T k m = false) : turnP T k m = turnP T k (m + 1) := by
  funext a b
  unfold turnP
  by_cases e : a = m
  · subst e; simp [h]
  · have : (decide (a < m)) = (decide (a < m + 1)) := by
      rw [Bool.eq_iff_iff, decide_eq_true_eq, decide_eq_true_eq]; omega
    rw [this]
theorem turnP_yes {T : Nat → Nat → Bool} {k m : Nat} (h : T k m = true) : setR (turnP T k m) m (fun b => turnP T k m m b || b == k) = turnP T k (m + 1) := by
  funext a b
  unfold setR turnP
  by_cases e : a = m
  · subst e
    by_cases eb : b = k
    · subst eb; simp [h]
    · have eb' : (b == k) = false := by simpa using eb
      simp [eb']
  · rw [if_neg e]
    have : (decide (a < m)) = (decide (a < m + 1)) := by
      rw [Bool.eq_iff_iff, decide_eq_true_eq, decide_eq_true_eq]; omega
    rw [this]
theorem turnP_row {T : Nat → Nat → Bool} {k : Nat} {i j : Nat} (hi : i < 27) : turnP T k 27 i j = turnP T (k + 1) 0 i j := by
  unfold turnP
  by_cases e : j = k
  · subst e; simp [hi]
  · have : (decide (j < k)) = (decide (j < k + 1)) := by
      rw [Bool.eq_iff_iff, decide_eq_true_eq, decide_eq_true_eq]; omega
    rw [this]; simp [e]
theorem turnP_all {T : Nat → Nat → Bool} {i j : Nat} (hj : j < 27) : turnP T 27 0 i j = turnR T i j := by
  unfold turnP turnR
  simp [hj]

/-! ### Composing -/
def compR (A B : Nat → Nat → Bool) : Nat → Nat → Bool := fun i j => upto 27 fun q => A i q && B q j
theorem compR_iff {A B : Nat → Nat → Bool} {i j : Nat} : compR A B i j = true ↔ ∃ q, q < 27 ∧ A i q = true ∧ B q j = true := by
  unfold compR
  rw [upto_iff]
  simp
theorem compR_post (A B : Nat → Nat → Bool) (i : Nat) : compR A B i = postS (A i) B 27 := rfl
/-- The states that are related only to states of a set. -/
def shaR (T : Nat → Nat → Bool) (F : Nat → Bool) : Nat → Bool := fun i => wi 27 (T i) F

/-! ### Closures -/
def idR : Nat → Nat → Bool := fun i j => i == j
def orR (A B : Nat → Nat → Bool) : Nat → Nat → Bool := fun i j => A i j || B i j
inductive Cl (T : Nat → Nat → Bool) : Nat → Nat → Prop
  | refl (i : Nat) : Cl T i i
  | head {i j k : Nat} : j < 27 → T i j = true → Cl T j k → Cl T i k
theorem Cl.trans {T : Nat → Nat → Bool} {i j k : Nat} (h : Cl T i j) (h' : Cl T j k) : Cl T i k := by
  induction h with
  | refl => exact h'
  | head h0 h1 _ ih => exact .head h0 h1 (ih h')
theorem Cl.lt {T : Nat → Nat → Bool} {i j : Nat} (h : Cl T i j) (hi : i < 27) : j < 27 := by
  induction h with
  | refl => exact hi
  | head h0 _ _ ih => exact ih h0
noncomputable def cloR (T : Nat → Nat → Bool) : Nat → Nat → Bool := fun i j => @decide (Cl T i j) (Classical.propDecidable _)
theorem cloR_iff {T : Nat → Nat → Bool} {i j : Nat} : cloR T i j = true ↔ Cl T i j := by unfold cloR; exact @decide_eq_true_iff _ (Classical.propDecidable _)
/-- What a relation that is squared again and again keeps. -/
structure ClInv (T C : Nat → Nat → Bool) : Prop where
  sub : ∀ i, i < 27 → ∀ j, j < 27 → C i j = true → Cl T i j
  rfl' : ∀ i, i < 27 → C i i = true
  has : ∀ i, i < 27 → ∀ j, j < 27 → T i j = true → C i j = true
theorem ClInv.start (T : Nat → Nat → Bool) : ClInv T (orR T idR) where
  sub := by
    intro i _ j hj h
    unfold orR idR at h
    rcases Bool.or_eq_true_iff.1 h with h | h
    · exact .head hj h (.refl _)
    · rw [← eq_of_beq h]; exact .refl _
  rfl' := by intro i _; simp [orR, idR]
  has := by intro i _ j _ h; simp [orR, h]
theorem ClInv.le {T C : Nat → Nat → Bool} (h : ClInv T C) {i j : Nat} (hi : i < 27) (_hj : j < 27) (hc : C i j = true) : compR C C i j = true := compR_iff.2 ⟨i, hi, h.rfl' i hi, hc⟩
theorem ClInv.step {T C : Nat → Nat → Bool} (h : ClInv T C) : ClInv T (compR C C) where
  sub := by
    intro i hi j hj hc
    obtain ⟨q, hq, h1, h2⟩ := compR_iff.1 hc
    exact (h.sub i hi q hq h1).trans (h.sub q hq j hj h2)
  rfl' := fun i hi => h.le hi hi (h.rfl' i hi)
  has := fun i hi j hj ht => h.le hi hj (h.has i hi j hj ht)
theorem ClInv.done {T C : Nat → Nat → Bool} (h : ClInv T C) (e : relEq (compR C C) C = true) : ∀ i, i < 27 → ∀ j, j < 27 → C i j = cloR T i j := by
  intro i hi j hj
  rw [Bool.eq_iff_iff, cloR_iff]
  refine ⟨h.sub i hi j hj, fun hcl => ?_⟩
  have : ∀ u v, Cl T u v → u < 27 → v < 27 → C u v = true := by
    intro u v hs
    induction hs with
    | refl u => exact fun hu _ => h.rfl' u hu
    | head h0 h1 hr ih =>
      rename_i a b c
      intro hu hv
      have := relEq_iff.1 e a hu c hv
      rw [← this]
      exact compR_iff.2 ⟨b, h0, h.has a hu b h0 h1, ih h0 hv⟩
  exact this i j hcl hi hj
/-- The sum of the first rows as numbers: what grows. -/
def sumR (T : Nat → Nat → Bool) : Nat → Nat
  | 0 => 0
  | k + 1 => sumR T k + nb 27 (T k)
theorem sumR_lt (T : Nat → Nat → Bool) (k : Nat) : sumR T k ≤ k * 134217728 := by
  induction k with
  | zero => exact Nat.le_refl _
  | succ k ih => have := nb_lt27 (T k); unfold sumR; omega
theorem nb_mono' {k : Nat} {F G : Nat → Bool} (h : ∀ i, i < k → F i = true → G i = true) : nb k F ≤ nb k G := by
  induction k with
  | zero => exact Nat.le_refl _
  | succ k ih =>
    have h1 := ih (fun i hi => h i (by omega))
    unfold nb
    cases hF : F k
    · simp; omega
    · rw [h k (by omega) hF]; simp; omega
theorem sumR_mono {A B : Nat → Nat → Bool} (k : Nat) (hk : k ≤ 27) (h : ∀ i, i < 27 → ∀ j, j < 27 → A i j = true → B i j = true) : sumR A k ≤ sumR B k ∧ (sumR A k = sumR B k → ∀ i, i < k → nb 27 (A i) = nb 27 (B i)) := by
  induction k with
  | zero => exact ⟨Nat.le_refl _, fun _ i hi => by omega⟩
  | succ k ih =>
    obtain ⟨h1, h2⟩ := ih (by omega)
    have h3 := nb_mono' (h k (by omega))
    unfold sumR
    refine ⟨by omega, fun e i hi => ?_⟩
    rcases Nat.lt_succ_iff_lt_or_eq.1 hi with hi | hi
    · exact h2 (by omega) i hi
    · subst hi; omega
theorem ClInv.grows {T C : Nat → Nat → Bool} (h : ClInv T C) (e : relEq (compR C C) C = false) : sumR C 27 < sumR (compR C C) 27 := by
  obtain ⟨h1, h2⟩ := sumR_mono (A := C) (B := compR C C) 27 (by omega) fun i hi j hj => h.le hi hj
  rcases Nat.lt_or_ge (sumR C 27) (sumR (compR C C) 27) with hlt | hge
  · exact hlt
  · have h3 := h2 (by omega)
    have : relEq (compR C C) C = true := by
      rw [relEq_iff]
      intro i hi j hj
      exact nb_inj (h3 i hi).symm j hj
    rw [this] at e; cases e
/-- Is a relation an equivalence? By its closure, and by one composition. -/
theorem equiv_eq (T : Nat → Nat → Bool) : (relEq T (turnR T) && relEq T (cloR T)) = ((List.range 27).all (fun i => T i i) && (relEq (turnR T) T && relEq (compR T T) T)) := by
  rw [Bool.eq_iff_iff]
  simp only [Bool.and_eq_true, relEq_iff, List.all_eq_true, List.mem_range]
  constructor
  · rintro ⟨h1, h2⟩
    have hr : ∀ i, i < 27 → T i i = true := fun i hi => by rw [h2 i hi i hi, cloR_iff]; exact .refl _
    refine ⟨hr, fun i hi j hj => (h1 i hi j hj).symm, fun i hi j hj => ?_⟩
    rw [Bool.eq_iff_iff, compR_iff]
    constructor
    · rintro ⟨q, hq, a, b⟩
      rw [h2 i hi j hj, cloR_iff]
      exact .head hq a (.head hj b (.refl _))
    · exact fun h => ⟨i, hi, hr i hi, h⟩
  · rintro ⟨h0, h1, h2⟩
    refine ⟨fun i hi j hj => (h1 i hi j hj).symm, fun i hi j hj => ?_⟩
    rw [Bool.eq_iff_iff, cloR_iff]
    constructor
    · exact fun h => .head hj h (.refl _)
    · intro hcl
      have : ∀ u v, Cl T u v → u < 27 → v < 27 → T u v = true := by
        intro u v hs
        induction hs with
        | refl u => exact fun hu _ => h0 u hu
        | head h3 h4 hr ih =>
          rename_i a b c
          intro hu hv
          rw [← h2 a hu c hv, compR_iff]
          exact ⟨b, h3, h4, ih h3 hv⟩
      exact this i j hcl hi hj
end Go.Proofs.YtinillnccfgooaaDoor
