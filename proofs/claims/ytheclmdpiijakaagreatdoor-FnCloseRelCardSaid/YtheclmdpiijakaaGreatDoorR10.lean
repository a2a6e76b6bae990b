/-
  Equality as a relation; turning and composing; a closure in 27 steps; pairs of a relation of a test.
-/
import Derived.Test.YtheclmdpiijakaaGreatDoorR8
import Derived.Test.YtheclmdpiijakaaGreatDoorPo
import Derived.Test.YtheclmdpiijakaaGreatDoorHq
import Derived.Test.YtheclmdpiijakaaGreatDoorEvW
namespace Go.Proofs.YtheclmdpiijakaaGreatDoor
open Go.RowKit Go.Great Tm

/-- The test that two states are equal. -/
def sameT : Tm := .bin 38 (.bin 61 (.leaf 120) (.leaf 88)) (.bin 38 (.bin 61 (.leaf 121) (.leaf 89)) (.bin 61 (.leaf 122) (.leaf 90)))
theorem sameT_ok : Ok true true sameT := ⟨true, true, rfl, ⟨false, false, rfl, rfl, rfl⟩, ⟨true, true, rfl, ⟨false, false, rfl, rfl, rfl⟩, ⟨false, false, rfl, rfl, rfl⟩⟩⟩
theorem wd_same : ∀ i, i < 27 → ∀ j, j < 27 → wdR sameT i j = idR i j := by decide +kernel
theorem iSame : Gives 41 #[.string ⟨#[38, 61, 120, 88, 38, 61, 121, 89, 61, 122, 90]⟩] (.tuple #[.string (bs (relT idR)), .bool true]) := fun w => by
  have h := implRelOf_yes ⟨#[38, 61, 120, 88, 38, 61, 121, 89, 61, 122, 90]⟩ w sameT_ok rfl (by decide)
  rw [rb_congr wd_same] at h
  exact Lib.hid h
set_option maxHeartbeats 1000000 in
theorem ppRel_of {p0 q : ByteArray} {b : Bool} (C : Gives 41 #[.string p0] (.tuple #[.string q, .bool b])) : Gives 10 #[.string p0] (.string q) := fun w => Lib.hid (by
  unfold Gives at C
  go_enter Tryz.func10, Tryz.ntmps10
  go_wp2_with fail
  refine (C _).out.mono ?_
  rintro e w1 ⟨rfl, hb⟩
  have HB := Lib.hid hb
  clear hb
  go_wp2_with fail
  go_ret
  exact ⟨rfl, HB.out⟩)

theorem comp_turn (R Q : Nat → Nat → Bool) : bs (relT (turnR (compR R Q))) = bs (relT (compR (turnR Q) (turnR R))) := rb_congr fun i _ j _ => by
  show compR R Q j i = _
  rw [Bool.eq_iff_iff, compR_iff, compR_iff]
  exact ⟨fun ⟨q, hq, h1, h2⟩ => ⟨q, hq, h2, h1⟩, fun ⟨q, hq, h1, h2⟩ => ⟨q, hq, h2, h1⟩⟩
theorem comp_idr (R : Nat → Nat → Bool) : bs (relT (compR R idR)) = bs (relT R) := rb_congr fun i _ j hj => by
  rw [Bool.eq_iff_iff, compR_iff]
  constructor
  · rintro ⟨q, _, h1, h2⟩
    rw [← eq_of_beq h2]; exact h1
  · intro h
    exact ⟨j, hj, h, by simp [idR]⟩
theorem comp_idl (R : Nat → Nat → Bool) : bs (relT (compR idR R)) = bs (relT R) := rb_congr fun i hi j _ => by
  rw [Bool.eq_iff_iff, compR_iff]
  constructor
  · rintro ⟨q, _, h1, h2⟩
    rw [eq_of_beq h1]; exact h2
  · intro h
    exact ⟨i, hi, by simp [idR], h⟩

/-- The pairs of the first k rows and m columns. -/
def cntX (T : Nat → Nat → Bool) (m : Nat) : Nat → Nat
  | 0 => 0
  | k + 1 => cntX T m k + cnt m (T k)
theorem cntX_R (T : Nat → Nat → Bool) (k : Nat) : cntR T k = cntX T 27 k := by
  induction k with
  | zero => rfl
  | succ k ih =>
    unfold cntR cntX
    rw [ih]
theorem cntX_none (T : Nat → Nat → Bool) (k : Nat) : cntX T 0 k = 0 := by
  induction k with
  | zero => rfl
  | succ k ih =>
    unfold cntX
    rw [ih]; rfl
theorem cntX_col (T : Nat → Nat → Bool) (m k : Nat) : cntX T (m + 1) k = cntX T m k + cnt k (fun i => T i m) := by
  induction k with
  | zero => rfl
  | succ k ih =>
    show cntX T (m + 1) k + cnt (m + 1) (T k) = cntX T m k + cnt m (T k) + cnt (k + 1) (fun i => T i m)
    have e1 : cnt (m + 1) (T k) = cnt m (T k) + (if T k m then 1 else 0) := rfl
    have e2 : cnt (k + 1) (fun i => T i m) = cnt k (fun i => T i m) + (if T k m then 1 else 0) := rfl
    rw [ih, e1, e2]
    omega
theorem cntX_turn (T : Nat → Nat → Bool) (m k : Nat) : cntX T m k = cntX (turnR T) k m := by
  induction m with
  | zero => rw [cntX_none]; rfl
  | succ m ih =>
    rw [cntX_col, ih]
    rfl
theorem cntR_turn (T : Nat → Nat → Bool) : cntR (turnR T) 27 = cntR T 27 := by
  rw [cntX_R, cntX_R, ← cntX_turn]

/-- The pairs that are joined by at most n steps. -/
def stp (T : Nat → Nat → Bool) : Nat → Nat → Nat → Bool
  | 0 => idR
  | n + 1 => fun i j => idR i j || compR (stp T n) T i j
theorem stp_iff {T : Nat → Nat → Bool} {n i j : Nat} : stp T (n + 1) i j = true ↔ i = j ∨ ∃ q, q < 27 ∧ stp T n i q = true ∧ T q j = true := by
  show (idR i j || compR (stp T n) T i j) = true ↔ _
  rw [Bool.or_eq_true_iff, compR_iff]
  unfold idR
  rw [beq_iff_eq]
theorem stp_self (T : Nat → Nat → Bool) (n i : Nat) : stp T n i i = true := by
  cases n with
  | zero => simp [stp, idR]
  | succ n => exact stp_iff.2 (.inl rfl)
theorem stp_sub {T : Nat → Nat → Bool} {n i j : Nat} (hj : j < 27) (h : stp T n i j = true) : Cl T i j := by
  induction n generalizing j with
  | zero => rw [← eq_of_beq (show (i == j) = true from h)]; exact .refl _
  | succ n ih =>
    rcases stp_iff.1 h with rfl | ⟨q, hq, h1, h2⟩
    · exact .refl _
    · exact cl_snoc (ih hq h1) hj h2
theorem stp_mono {T : Nat → Nat → Bool} {n i j : Nat} (h : stp T n i j = true) : stp T (n + 1) i j = true := by
  induction n generalizing j with
  | zero => exact stp_iff.2 (.inl (eq_of_beq (show (i == j) = true from h)))
  | succ n ih =>
    rcases stp_iff.1 h with rfl | ⟨q, hq, h1, h2⟩
    · exact stp_self T _ _
    · exact stp_iff.2 (.inr ⟨q, hq, ih h1, h2⟩)
theorem stp_still {T : Nat → Nat → Bool} {n i : Nat} (h : ∀ j, j < 27 → stp T (n + 1) i j = true → stp T n i j = true) : ∀ j, j < 27 → stp T (n + 1 + 1) i j = true → stp T (n + 1) i j = true := by
  intro j _ hs
  rcases stp_iff.1 hs with rfl | ⟨q, hq, h1, h2⟩
  · exact stp_self T _ _
  · exact stp_iff.2 (.inr ⟨q, hq, h q hq h1, h2⟩)
theorem cnt_up {m : Nat} {F G : Nat → Bool} (h : ∀ j, j < m → F j = true → G j = true) : cnt m F ≤ cnt m G := by
  induction m with
  | zero => exact Nat.le_refl _
  | succ m ih =>
    have h1 := ih fun j hj => h j (by omega)
    have h2 := h m (by omega)
    unfold cnt
    cases hF : F m
    · simp; omega
    · rw [h2 hF]; simp; omega
theorem cnt_grow {m : Nat} {F G : Nat → Bool} (h : ∀ j, j < m → F j = true → G j = true) (k : Nat) (hk : k < m) (hf : F k = false) (hg : G k = true) : cnt m F < cnt m G := by
  induction m with
  | zero => omega
  | succ m ih =>
    unfold cnt
    by_cases e : k = m
    · subst e
      have h1 := cnt_up (m := k) (F := F) (G := G) fun j hj => h j (by omega)
      rw [hf, hg]; simp; omega
    · have h1 := ih (fun j hj => h j (by omega)) (by omega)
      have h2 := h m (by omega)
      cases hF : F m
      · simp; omega
      · rw [h2 hF]; simp; omega
theorem stp_grows (T : Nat → Nat → Bool) {i : Nat} (hi : i < 27) (n : Nat) : n + 1 ≤ cnt 27 (stp T n i) ∨ ∀ j, j < 27 → stp T (n + 1) i j = true → stp T n i j = true := by
  induction n with
  | zero =>
    left
    refine Decidable.byContradiction fun hn => ?_
    have := (cnt_nil (n := 27) (F := stp T 0 i)).1 (by omega) i hi
    rw [stp_self] at this; cases this
  | succ n ih =>
    rcases ih with h | h
    · by_cases hc : ∀ j, j < 27 → stp T (n + 1) i j = true → stp T n i j = true
      · exact .inr (stp_still hc)
      · left
        obtain ⟨j, hj⟩ := Classical.not_forall.1 hc
        obtain ⟨h1, hj⟩ := Classical.not_forall.1 hj
        obtain ⟨h2, h3⟩ := Classical.not_forall.1 hj
        have := cnt_grow (m := 27) (F := stp T n i) (G := stp T (n + 1) i) (fun _ _ => stp_mono) j h1 (by simpa using h3) h2
        omega
    · exact .inr (stp_still h)
theorem stp_clo (R : Nat → Nat → Bool) : bs (relT (stp R 27)) = bs (relT (cloR R)) := rb_congr fun i hi j hj => by
  rw [Bool.eq_iff_iff, cloR_iff]
  refine ⟨stp_sub hj, fun hc => ?_⟩
  have hs : ∀ j, j < 27 → stp R 28 i j = true → stp R 27 i j = true := by
    rcases stp_grows R hi 27 with h | h
    · have := cnt_le 27 (stp R 27 i)
      omega
    · exact h
  have : ∀ a b, Cl R a b → b < 27 → stp R 27 i a = true → a < 27 → stp R 27 i b = true := by
    intro a b hab
    induction hab with
    | refl a => exact fun _ h _ => h
    | head h0 h1 hr ih =>
      rename_i x y z
      intro hz hx hx27
      exact ih hz (hs y h0 (stp_iff.2 (.inr ⟨x, hx27, hx, h1⟩))) h0
  exact this i j hc hj (stp_self R 27 i) hi
theorem in_clo (R : Nat → Nat → Bool) : inR R (cloR R) = true := inR_iff.2 fun _ _ _ hj h => cloR_iff.2 (cl_one hj h)
theorem id_clo (R : Nat → Nat → Bool) : inR idR (cloR R) = true := inR_iff.2 fun i _ j _ h => by
  rw [← eq_of_beq (show (i == j) = true from h)]; exact cloR_iff.2 (.refl _)
theorem clo_comp (R : Nat → Nat → Bool) : bs (relT (compR (cloR R) (cloR R))) = bs (relT (cloR R)) := rb_congr fun i hi j _ => by
  rw [Bool.eq_iff_iff, compR_iff]
  exact ⟨fun ⟨_, _, h1, h2⟩ => cloR_iff.2 ((cloR_iff.1 h1).trans (cloR_iff.1 h2)), fun h => ⟨i, hi, cloR_iff.2 (.refl _), h⟩⟩
theorem clo_clo (R : Nat → Nat → Bool) : bs (relT (cloR (cloR R))) = bs (relT (cloR R)) := (rb_congr (relEq_iff.1 (clo_idem R))).symm

/-! ### Pairs by the numbers of states -/
theorem ixs_at {k : Nat} (hk : k < 27) : ixs (ax k) (ay k) (az k) = k := by
  unfold ixs ax ay az; omega
theorem hasp_at (T : Nat → Nat → Bool) (i j : Nat) (hi : i < 27) (hj : j < 27) (w : World) : Calls Tryz.prog 25 #[.string (bs (relT T)), .agg #[.int .i64 (ax i), .int .i64 (ay i), .int .i64 (az i)], .agg #[.int .i64 (ax j), .int .i64 (ay j), .int .i64 (az j)]] w fun e w' => e = .returned (.bool (T i j)) ∧ Below w.heap.size w w' := by
  have h := implHasPair (bs (relT T)) (ax i) (ay i) (az i) (ax j) (ay j) (az j) (rel729_bs T) (at_st3 (i := (i : Int)) (by omega) (by omega)) (at_st3 (i := (j : Int)) (by omega) (by omega)) w
  rw [ixs_at hi, ixs_at hj, relS_bs T hi hj] at h
  exact h
theorem two_env2 (i j : Nat) : two3 (ax i) (ay i) (az i) (ax j) (ay j) (az j) = env2 i j := by
  funext k
  match k with
  | 0 => rfl
  | 1 => rfl
  | 2 => rfl
  | 3 => rfl
  | 4 => rfl
  | 5 => rfl
  | n + 6 => rfl
theorem wd_not (t : Tm) : wdR (.un 33 t) = fun i j => !wdR t i j := by
  funext i j
  simp [wdR, tru]
end Go.Proofs.YtheclmdpiijakaaGreatDoor
