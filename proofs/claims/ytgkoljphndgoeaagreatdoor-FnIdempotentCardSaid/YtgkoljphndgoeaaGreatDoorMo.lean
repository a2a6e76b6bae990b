import Derived.Test.YtgkoljphndgoeaaGreatDoorTopM
import Derived.Test.YtgkoljphndgoeaaGreatDoorTopW1
namespace Go.Proofs.YtgkoljphndgoeaaGreatDoor
open Go.RowKit Tm Go.Great Classical
noncomputable def rT (p : Pg) : Nat → Nat → Bool := fun i j => decide (Fin mdl p i j)
noncomputable def rL (p : Pg) : Nat → Bool := fun i => decide (Lps mdl p i)
noncomputable def rK (p : Pg) : Nat → Bool := fun i => decide (Stk mdl p i)
theorem rT_iff {p : Pg} {i j : Nat} : rT p i j = true ↔ Fin mdl p i j := by unfold rT; exact decide_eq_true_iff
theorem rL_iff {p : Pg} {i : Nat} : rL p i = true ↔ Lps mdl p i := by unfold rL; exact decide_eq_true_iff
theorem rK_iff {p : Pg} {i : Nat} : rK p i = true ↔ Stk mdl p i := by unfold rK; exact decide_eq_true_iff
theorem fin_lt : ∀ {p : Pg}, p.ok false → ∀ {i j : Nat}, i < 27 → Fin mdl p i j → j < 27 := by
 intro p
 induction p with
 | skip => intro _ i j hi h; rw [show j = i from h]; exact hi
 | asg v e => intro hp i j hi h; rw [show j = asg v e i from h]; exact asg_lt hp.2 hi
 | seq a b iha ihb => intro hp i j hi ⟨m, h1, h2⟩; exact ihb hp.2 (iha hp.1 hi h1) h2
 | ite t a b iha ihb =>
  intro hp i j hi h
  unfold Fin at h
  split at h
  ·exact iha hp.2.1 hi h
  ·exact ihb hp.2.2 hi h
 | whl t a iha =>
  intro hp i j hi ⟨h, _⟩
  have : ∀ u v : Nat, Star (fun u v => mdl.t t u = true ∧ Fin mdl a u v) u v → u < 27 → v < 27 := by
   intro u v hs
   induction hs with
   | refl => exact id
   | head h1 _ ih => exact fun hu => ih (iha hp.2 hu h1.2)
  exact this i j h hi
 | cho a b iha ihb =>
  intro hp i j hi h
  rcases h with h | h
  ·exact iha hp.1 hi h
  ·exact ihb hp.2 hi h
 | asm t => intro _ i j hi h; rw [h.2]; exact hi
theorem upto_fin {p : Pg} (hp : p.ok false) {i : Nat} (hi : i < 27) {f : Nat → Bool} : upto 27 (fun q => rT p i q && f q) = true ↔ ∃ m, Fin mdl p i m ∧ f m = true := by
 rw [upto_iff]
 simp only [rT, Bool.and_eq_true, decide_eq_true_eq]
 exact ⟨fun ⟨q, _, h⟩ => ⟨q, h⟩, fun ⟨q, h1, h2⟩ => ⟨q, fin_lt hp hi h1, h1, h2⟩⟩
theorem star_hr {t : Tm} {a : Pg} (hp : a.ok false) {i j : Nat} (hi : i < 27) : Star (HR (tst t) (rT a)) i j ↔ Star (fun u v => mdl.t t u = true ∧ Fin mdl a u v) i j := by
 constructor
 ·intro h
  induction h with
  | refl => exact .refl _
  | head h1 _ ih => exact .head ⟨h1.2.2.1, by simpa [rT] using h1.2.2.2⟩ (ih h1.2.1)
 ·intro h
  induction h with
  | refl => exact .refl _
  | head h1 _ ih =>
   have hv := fin_lt hp hi h1.2
   exact .head ⟨hi, hv, h1.1, by simpa [rT] using h1.2⟩ (ih hv)
theorem en_iff {t : Tm} {a : Pg} (hp : a.ok false) {j : Nat} (hj : j < 27) : enS (tst t) (rT a) j = true ↔ ∃ S : Nat → Prop, S j ∧ ∀ u, S u → mdl.t t u = true ∧ ∃ v, Fin mdl a u v ∧ S v := by
 unfold enS
 rw [decide_eq_true_eq]
 constructor
 ·intro ⟨S, hS, h⟩
  exact ⟨S, h, fun u hu => ⟨(hS u hu).2.1, by
   obtain ⟨v, _, h1, h2⟩ := (hS u hu).2.2
   exact ⟨v, by simpa [rT] using h1, h2⟩⟩⟩
 ·intro ⟨S, h, hS⟩
  refine ⟨fun u => u < 27 ∧ S u, ?_, hj, h⟩
  intro u ⟨hu, hs⟩
  obtain ⟨h1, v, h2, h3⟩ := hS u hs
  have hv := fin_lt hp hu h2
  exact ⟨hu, h1, v, hv, by simpa [rT] using h2, hv, h3⟩
theorem hd_iff {t : Tm} {a : Pg} (hp : a.ok false) {i j : Nat} (hi : i < 27) : hdS (tst t) (rT a) i j = true ↔ Star (fun u v => mdl.t t u = true ∧ Fin mdl a u v) i j := by
 unfold hdS
 rw [decide_eq_true_eq, star_hr hp hi]
theorem star_lt {t : Tm} {a : Pg} (hp : a.ok false) {i j : Nat} (hi : i < 27) (h : Star (fun u v => mdl.t t u = true ∧ Fin mdl a u v) i j) : j < 27 := by
 induction h with
 | refl => exact hi
 | head h1 _ ih => exact ih (fin_lt hp hi h1.2)
theorem AllPost.as {T T' : Nat → Nat → Bool} {L L' K K' : Nat → Bool} {w w' : World} {e : Ending} (h : AllPost T L K w e w') (h1 : ∀ i, i < 27 → ∀ j, j < 27 → T i j = T' i j) (h2 : ∀ i, i < 27 → L i = L' i) (h3 : ∀ i, i < 27 → K i = K' i) : AllPost T' L' K' w e w' := by
 obtain ⟨rfl, hb⟩ := h
 exact ⟨by rw [allC_congr h1 h2 h3], hb⟩
theorem run_any (p : Pg) : ∀ (_ : p.ok false) (_ : p.ser.length ≤ 200) (w : World), Calls Tryz.prog 84 #[.string (bs p.ser)] w (AllPost (rT p) (rL p) (rK p) w) := by
 induction p with
 | skip =>
  intro hp hn w
  refine (lr_skip hp (by omega) w).mono fun e w' h => h.as (fun i _ j _ => ?_) (fun i _ => ?_) (fun i _ => ?_)
  ·rw [Bool.eq_iff_iff]; simp [rT_iff, Fin]
  ·rw [Bool.eq_iff_iff]; simp [rL_iff, Lps, noS]
  ·rw [Bool.eq_iff_iff]; simp [rK_iff, Stk, noS]
 | asg c e =>
  intro hp hn w
  have hj : ∃ j, VarAt c j := by
   have h : c = 120 ∨ c = 121 ∨ c = 122 := by have := hp.1; simpa [isVarB, or_assoc] using this
   rcases h with rfl | rfl | rfl
   ·exact ⟨0, .inl ⟨rfl, rfl⟩⟩
   ·exact ⟨1, .inr (.inl ⟨rfl, rfl⟩)⟩
   ·exact ⟨2, .inr (.inr ⟨rfl, rfl⟩)⟩
  obtain ⟨j, hj⟩ := hj
  refine (lr_asg c j hj e hp (by omega) w).mono fun e w' h => h.as (fun i _ j _ => ?_) (fun i _ => ?_) (fun i _ => ?_)
  ·rw [Bool.eq_iff_iff]; simp [rT_iff, Fin, mdl]
  ·rw [Bool.eq_iff_iff]; simp [rL_iff, Lps, noS]
  ·rw [Bool.eq_iff_iff]; simp [rK_iff, Stk, noS]
 | seq a b iha ihb =>
  intro hp hn w
  have ha := mem_len (p := Pg.seq a b) (q := a) (by simp [Pg.pks])
  have hb := mem_len (p := Pg.seq a b) (q := b) (by simp [Pg.pks])
  refine (lr_seq a b hp (by omega) w _ _ _ _ _ _ (iha hp.1 (by omega)) (ihb hp.2 (by omega))).mono fun e w' h => h.as (fun i hi j _ => ?_) (fun i hi => ?_) (fun i hi => ?_)
  ·rw [Bool.eq_iff_iff]
   unfold sqT
   rw [upto_fin hp.1 hi]
   simp [rT_iff, Fin]
  ·rw [Bool.eq_iff_iff]
   unfold sqS
   rw [Bool.or_eq_true, upto_fin hp.1 hi]
   simp [rL_iff, Lps]
  ·rw [Bool.eq_iff_iff]
   unfold sqS
   rw [Bool.or_eq_true, upto_fin hp.1 hi]
   simp [rK_iff, Stk]
 | ite t a b iha ihb =>
  intro hp hn w
  have ha := mem_len (p := Pg.ite t a b) (q := a) (by simp [Pg.pks])
  have hb := mem_len (p := Pg.ite t a b) (q := b) (by simp [Pg.pks])
  refine (lr_ite t a b hp (by omega) w _ _ _ _ _ _ (iha hp.2.1 (by omega)) (ihb hp.2.2 (by omega))).mono fun e w' h => h.as (fun i hi j _ => ?_) (fun i hi => ?_) (fun i hi => ?_)
  ·rw [Bool.eq_iff_iff]
   cases hT : tst t i <;> simp [chT, rT_iff, Fin, mdl, hT]
  ·rw [Bool.eq_iff_iff]
   cases hT : tst t i <;> simp [chS, rL_iff, Lps, mdl, hT]
  ·rw [Bool.eq_iff_iff]
   cases hT : tst t i <;> simp [chS, rK_iff, Stk, mdl, hT]
 | whl t a iha =>
  intro hp hn w
  have ha := mem_len (p := Pg.whl t a) (q := a) (by simp [Pg.pks])
  refine (lr_whl t a hp (by omega) w _ _ _ (iha hp.2 (by omega))).mono fun e w' h => h.as (fun i hi j _ => ?_) (fun i hi => ?_) (fun i hi => ?_)
  ·rw [Bool.eq_iff_iff]
   unfold whT
   rw [Bool.and_eq_true, hd_iff hp.2 hi]
   simp [rT_iff, Fin, mdl]
  ·rw [Bool.eq_iff_iff]
   unfold whL
   rw [upto_iff]
   simp only [rL_iff, Lps, Bool.and_eq_true, Bool.or_eq_true]
   constructor
   ·rintro ⟨q, hq, ⟨h1, h2⟩, h3⟩
    exact ⟨q, (hd_iff hp.2 hi).1 h1, h2, h3.imp id (en_iff hp.2 hq).1⟩
   ·rintro ⟨q, h1, h2, h3⟩
    have hq := star_lt hp.2 hi h1
    exact ⟨q, hq, ⟨(hd_iff hp.2 hi).2 h1, h2⟩, h3.imp id (en_iff hp.2 hq).2⟩
  ·rw [Bool.eq_iff_iff]
   unfold whK
   rw [upto_iff]
   simp only [rK_iff, Stk, Bool.and_eq_true]
   constructor
   ·rintro ⟨q, hq, ⟨h1, h2⟩, h3⟩
    exact ⟨q, (hd_iff hp.2 hi).1 h1, h2, h3⟩
   ·rintro ⟨q, h1, h2, h3⟩
    have hq := star_lt hp.2 hi h1
    exact ⟨q, hq, ⟨(hd_iff hp.2 hi).2 h1, h2⟩, h3⟩
 | cho a b iha ihb =>
  intro hp hn w
  have ha := mem_len (p := Pg.cho a b) (q := a) (by simp [Pg.pks])
  have hb := mem_len (p := Pg.cho a b) (q := b) (by simp [Pg.pks])
  refine (lr_cho a b hp (by omega) w _ _ _ _ _ _ (iha hp.1 (by omega)) (ihb hp.2 (by omega))).mono fun e w' h => h.as (fun i hi j _ => ?_) (fun i hi => ?_) (fun i hi => ?_)
  ·rw [Bool.eq_iff_iff]; simp [chT, rT_iff, Fin]
  ·rw [Bool.eq_iff_iff]; simp [chS, rL_iff, Lps]
  ·rw [Bool.eq_iff_iff]; simp [chS, rK_iff, Stk]
 | asm t =>
  intro hp hn w
  refine (lr_asm t hp (by omega) w).mono fun e w' h => h.as (fun i hi j _ => ?_) (fun i hi => ?_) (fun i hi => ?_)
  ·rw [Bool.eq_iff_iff]
   cases hT : tst t i <;> simp [chT, rT_iff, Fin, mdl, hT, noT]
  ·rw [Bool.eq_iff_iff]
   simp [chS, rL_iff, Lps, noS]
  ·rw [Bool.eq_iff_iff]
   cases hT : tst t i <;> simp [chS, rK_iff, Stk, mdl, hT, noS]
end Go.Proofs.YtgkoljphndgoeaaGreatDoor
