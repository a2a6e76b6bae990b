/-
  Plain mathematics: the runs of the graph of stops are those of the program. Nothing of the program stands here.
-/
import Derived.Test.YtheclmdpiijakaaSem
namespace Go.Proofs.Ytheclmdpiijakaa

section
variable {M : Mdl} {G : List Stp}

inductive Way (M : Mdl) (G : List Stp) : Nat → Pt → Pt → Prop
  | nil (x : Pt) : Way M G 0 x x
  | cons {n : Nat} {x y z : Pt} : Edge M G x y → Way M G n y z → Way M G (n + 1) x z
theorem Way.of {x y : Pt} (h : Star (Edge M G) x y) : ∃ n, Way M G n x y := by
  induction h with
  | refl i => exact ⟨0, .nil _⟩
  | head h _ ih => obtain ⟨n, hn⟩ := ih; exact ⟨n + 1, .cons h hn⟩
/-- At a stop that does something. -/
def Blkd (G : List Stp) (x : Pt) : Prop := ∃ p nx, G[x.1]? = some ⟨some p, nx⟩

theorem nx_one {p : Pg} {s a i : Nat} (h : G[s]? = some ⟨some p, [a]⟩) (hp : p = .skip) : nxp M G (s, i) = [(a, i)] := by subst hp; simp [nxp, h, after]
theorem nx_asg {v : UInt8} {e : Tm} {s a i : Nat} (h : G[s]? = some ⟨some (.asg v e), [a]⟩) : nxp M G (s, i) = [(a, M.a v e i)] := by simp [nxp, h, after]
theorem nx_asm {t : Tm} {s a i : Nat} (h : G[s]? = some ⟨some (.asm t), [a]⟩) : nxp M G (s, i) = if M.t t i = true then [(a, i)] else [] := by simp [nxp, h, after, gd]
theorem nx_cho {p q : Pg} {s a b i : Nat} (h : G[s]? = some ⟨some (.cho p q), [a, b]⟩) : nxp M G (s, i) = [(a, i), (b, i)] := by simp [nxp, h, after]
theorem nx_ite {t : Tm} {p q : Pg} {s a b i : Nat} (h : G[s]? = some ⟨some (.ite t p q), [a, b]⟩) : nxp M G (s, i) = if M.t t i = true then [(a, i)] else [(b, i)] := by simp [nxp, h, after, gd]
theorem nx_whl {t : Tm} {p : Pg} {s a b i : Nat} (h : G[s]? = some ⟨some (.whl t p), [a, b]⟩) : nxp M G (s, i) = if M.t t i = true then [(a, i)] else [(b, i)] := by simp [nxp, h, after, gd]

theorem Way.of_one {n : Nat} {x y z : Pt} (h : Way M G n x z) (hx : nxp M G x = [y]) (hz : nxp M G z = []) : ∃ k, n = k + 1 ∧ Way M G k y z := by
  cases h with
  | nil => rw [hx] at hz; cases hz
  | cons e w =>
    unfold Edge at e
    rw [hx] at e
    simp at e
    subst e
    exact ⟨_, rfl, w⟩
theorem Way.of_two {n : Nat} {x y y' z : Pt} (h : Way M G n x z) (hx : nxp M G x = [y, y']) (hz : nxp M G z = []) : ∃ k, n = k + 1 ∧ (Way M G k y z ∨ Way M G k y' z) := by
  cases h with
  | nil => rw [hx] at hz; cases hz
  | cons e w =>
    unfold Edge at e
    rw [hx] at e
    simp at e
    rcases e with rfl | rfl
    · exact ⟨_, rfl, .inl w⟩
    · exact ⟨_, rfl, .inr w⟩

theorem edge_one {x y : Pt} (h : nxp M G x = [y]) : Edge M G x y := by unfold Edge; rw [h]; simp

/-- A run of the program that ends is one of the graph. -/
theorem fin_way : ∀ (p : Pg) {s a i j : Nat}, Lay G p s a → Fin M p i j → Star (Edge M G) (s, i) (a, j) := by
  intro p
  induction p with
  | skip => intro s a i j h hf; rw [show j = i from hf]; exact .one (edge_one (nx_one h rfl))
  | asg v e => intro s a i j h hf; rw [show j = _ from hf]; exact .one (edge_one (nx_asg h))
  | asm t => intro s a i j h hf; obtain ⟨h1, rfl⟩ := hf; exact .one (edge_one (by rw [nx_asm h, if_pos h1]))
  | seq p q ihp ihq => rintro s a i j ⟨m, h1, h2⟩ ⟨k, hk, hf⟩; exact (ihp h1 hk).trans (ihq h2 hf)
  | ite t p q ihp ihq =>
    rintro s a i j ⟨m1, m2, h, h1, h2⟩ hf
    simp only [Fin] at hf
    by_cases ht : M.t t i = true
    · rw [if_pos ht] at hf
      exact .head (edge_one (by rw [nx_ite h, if_pos ht])) (ihp h1 hf)
    · rw [if_neg ht] at hf
      exact .head (edge_one (by rw [nx_ite h, if_neg ht])) (ihq h2 hf)
  | cho p q ihp ihq =>
    rintro s a i j ⟨m1, m2, h, h1, h2⟩ hf
    rcases hf with hf | hf
    · exact .head (by unfold Edge; rw [nx_cho h]; simp) (ihp h1 hf)
    · exact .head (j := (m2, i)) (by unfold Edge; rw [nx_cho h]; simp) (ihq h2 hf)
  | whl t p ihp =>
    rintro s a i j ⟨m, h, h1⟩ ⟨hs, ht⟩
    induction hs with
    | refl i => exact .one (edge_one (by rw [nx_whl h, if_neg (by simp [ht])]))
    | head hr _ ih => exact (Star.head (edge_one (by rw [nx_whl h, if_pos hr.1])) (ihp h1 hr.2)).trans (ih ht)
theorem whl_way {t : Tm} {p : Pg} {s m a i j : Nat} (h : G[s]? = some ⟨some (.whl t p), [m, a]⟩) (h1 : Lay G p m s) (hs : Star (fun u v => M.t t u = true ∧ Fin M p u v) i j) : Star (Edge M G) (s, i) (s, j) := by
  induction hs with
  | refl i => exact .refl _
  | head hr _ ih => exact (Star.head (edge_one (by rw [nx_whl h, if_pos hr.1])) (fin_way p h1 hr.2)).trans ih

/-- A run of the graph to a point behind which nothing comes is blocked within the program or comes out of it. -/
theorem way_fin {x : Pt} (hx : nxp M G x = []) : ∀ (n : Nat) (p : Pg) (s a i : Nat), Lay G p s a → Way M G n (s, i) x → (Stk M p i ∧ Blkd G x) ∨ ∃ m k, k < n ∧ Fin M p i m ∧ Way M G k (a, m) x := by
  intro n
  induction n using Nat.strongRecOn with
  | ind n ih =>
  intro p
  induction p with
  | skip =>
    intro s a i h hw
    obtain ⟨k, hk0, hw0⟩ := hw.of_one (nx_one h rfl) hx
    subst hk0; clear hw; have hw := hw0; clear hw0
    exact .inr ⟨i, k, by omega, rfl, hw⟩
  | asg v e =>
    intro s a i h hw
    obtain ⟨k, hk0, hw0⟩ := hw.of_one (nx_asg h) hx
    subst hk0; clear hw; have hw := hw0; clear hw0
    exact .inr ⟨_, k, by omega, rfl, hw⟩
  | asm t =>
    intro s a i h hw
    by_cases ht : M.t t i = true
    · obtain ⟨k, hk0, hw0⟩ := hw.of_one (by rw [nx_asm h, if_pos ht]) hx
      subst hk0; clear hw; have hw := hw0; clear hw0
      exact .inr ⟨i, k, by omega, ⟨ht, rfl⟩, hw⟩
    · have e := nx_asm (M := M) (i := i) h
      rw [if_neg ht] at e
      cases hw with
      | nil => exact .inl ⟨by simpa [Stk] using ht, _, _, h⟩
      | cons e' w => unfold Edge at e'; rw [e] at e'; cases e'
  | seq p q ihp ihq =>
    rintro s a i ⟨m, h1, h2⟩ hw
    rcases ihp s m i h1 hw with ⟨h3, h4⟩ | ⟨m', k, hk, hf, hw⟩
    · exact .inl ⟨.inl h3, h4⟩
    · rcases ih k hk q m a m' h2 hw with ⟨h3, h4⟩ | ⟨j, k', hk', hf', hw⟩
      · exact .inl ⟨.inr ⟨m', hf, h3⟩, h4⟩
      · exact .inr ⟨j, k', by omega, ⟨m', hf, hf'⟩, hw⟩
  | ite t p q ihp ihq =>
    rintro s a i ⟨m1, m2, h, h1, h2⟩ hw
    by_cases ht : M.t t i = true
    · obtain ⟨k, hk0, hw0⟩ := hw.of_one (by rw [nx_ite h, if_pos ht]) hx
      subst hk0; clear hw; have hw := hw0; clear hw0
      rcases ih k (by omega) p _ _ _ h1 hw with ⟨h3, h4⟩ | ⟨j, k', hk', hf', hw⟩
      · exact .inl ⟨by simp only [Stk]; rw [if_pos ht]; exact h3, h4⟩
      · exact .inr ⟨j, k', by omega, by simp only [Fin]; rw [if_pos ht]; exact hf', hw⟩
    · obtain ⟨k, hk0, hw0⟩ := hw.of_one (by rw [nx_ite h, if_neg ht]) hx
      subst hk0; clear hw; have hw := hw0; clear hw0
      rcases ih k (by omega) q _ _ _ h2 hw with ⟨h3, h4⟩ | ⟨j, k', hk', hf', hw⟩
      · exact .inl ⟨by simp only [Stk]; rw [if_neg ht]; exact h3, h4⟩
      · exact .inr ⟨j, k', by omega, by simp only [Fin]; rw [if_neg ht]; exact hf', hw⟩
  | cho p q ihp ihq =>
    rintro s a i ⟨m1, m2, h, h1, h2⟩ hw
    obtain ⟨k, hk0, hw0⟩ := hw.of_two (nx_cho h) hx
    subst hk0; clear hw; have hw := hw0; clear hw0
    rcases hw with hw | hw
    · rcases ih k (by omega) p _ _ _ h1 hw with ⟨h3, h4⟩ | ⟨j, k', hk', hf', hw⟩
      · exact .inl ⟨.inl h3, h4⟩
      · exact .inr ⟨j, k', by omega, .inl hf', hw⟩
    · rcases ih k (by omega) q _ _ _ h2 hw with ⟨h3, h4⟩ | ⟨j, k', hk', hf', hw⟩
      · exact .inl ⟨.inr h3, h4⟩
      · exact .inr ⟨j, k', by omega, .inr hf', hw⟩
  | whl t p ihp =>
    rintro s a i ⟨m, h, h1⟩ hw
    by_cases ht : M.t t i = true
    · obtain ⟨k, hk0, hw0⟩ := hw.of_one (by rw [nx_whl h, if_pos ht]) hx
      subst hk0; clear hw; have hw := hw0; clear hw0
      rcases ih k (by omega) p _ _ _ h1 hw with ⟨h3, h4⟩ | ⟨j, k', hk', hf', hw⟩
      · exact .inl ⟨⟨i, .refl _, ht, h3⟩, h4⟩
      · rcases ih k' (by omega) (.whl t p) s a j ⟨m, h, h1⟩ hw with ⟨⟨j2, h3, h5, h6⟩, h4⟩ | ⟨j2, k2, hk2, ⟨hf2, ht2⟩, hw⟩
        · exact .inl ⟨⟨j2, .head ⟨ht, hf'⟩ h3, h5, h6⟩, h4⟩
        · exact .inr ⟨j2, k2, by omega, ⟨.head ⟨ht, hf'⟩ hf2, ht2⟩, hw⟩
    · obtain ⟨k, hk0, hw0⟩ := hw.of_one (by rw [nx_whl h, if_neg ht]) hx
      subst hk0; clear hw; have hw := hw0; clear hw0
      exact .inr ⟨i, k, by omega, ⟨.refl _, by simpa using ht⟩, hw⟩

theorem stk_way : ∀ (p : Pg) {s a i : Nat}, Lay G p s a → Stk M p i → ∃ x, Star (Edge M G) (s, i) x ∧ nxp M G x = [] ∧ Blkd G x := by
  intro p
  induction p with
  | skip => intro s a i h hf; cases hf
  | asg v e => intro s a i h hf; cases hf
  | asm t =>
    intro s a i h hf
    exact ⟨(s, i), .refl _, by rw [nx_asm h, if_neg (by simpa [Stk] using hf)], _, _, h⟩
  | seq p q ihp ihq =>
    rintro s a i ⟨m, h1, h2⟩ hf
    rcases hf with hf | ⟨k, hk, hf⟩
    · exact ihp h1 hf
    · obtain ⟨x, h3, h4⟩ := ihq h2 hf
      exact ⟨x, (fin_way p h1 hk).trans h3, h4⟩
  | ite t p q ihp ihq =>
    rintro s a i ⟨m1, m2, h, h1, h2⟩ hf
    simp only [Stk] at hf
    by_cases ht : M.t t i = true
    · rw [if_pos ht] at hf
      obtain ⟨x, h3, h4⟩ := ihp h1 hf
      exact ⟨x, .head (edge_one (by rw [nx_ite h, if_pos ht])) h3, h4⟩
    · rw [if_neg ht] at hf
      obtain ⟨x, h3, h4⟩ := ihq h2 hf
      exact ⟨x, .head (edge_one (by rw [nx_ite h, if_neg ht])) h3, h4⟩
  | cho p q ihp ihq =>
    rintro s a i ⟨m1, m2, h, h1, h2⟩ hf
    rcases hf with hf | hf
    · obtain ⟨x, h3, h4⟩ := ihp h1 hf
      exact ⟨x, .head (by unfold Edge; rw [nx_cho h]; simp) h3, h4⟩
    · obtain ⟨x, h3, h4⟩ := ihq h2 hf
      exact ⟨x, .head (j := (m2, i)) (by unfold Edge; rw [nx_cho h]; simp) h3, h4⟩
  | whl t p ihp =>
    rintro s a i ⟨m, h, h1⟩ ⟨j, hs, ht, hf⟩
    obtain ⟨x, h3, h4⟩ := ihp h1 hf
    exact ⟨x, ((whl_way h h1 hs).tail (edge_one (by rw [nx_whl h, if_pos ht]))).trans h3, h4⟩

/-! ### Runs that go on for ever -/
def Inf (M : Mdl) (G : List Stp) (x : Pt) : Prop := ∃ S : Pt → Prop, S x ∧ ∀ y, S y → ∃ z, Edge M G y z ∧ S z
theorem Inf.step {x : Pt} (h : Inf M G x) : ∃ z, Edge M G x z ∧ Inf M G z := by
  obtain ⟨S, hx, hS⟩ := h
  obtain ⟨z, h1, h2⟩ := hS x hx
  exact ⟨z, h1, S, h2, hS⟩
theorem Inf.back {x z : Pt} (h : Edge M G x z) (hz : Inf M G z) : Inf M G x := by
  obtain ⟨S, h1, hS⟩ := hz
  refine ⟨fun y => y = x ∨ S y, .inl rfl, ?_⟩
  rintro y (rfl | hy)
  · exact ⟨z, h, .inr h1⟩
  · obtain ⟨u, h2, h3⟩ := hS y hy
    exact ⟨u, h2, .inr h3⟩
theorem Inf.star {x z : Pt} (h : Star (Edge M G) x z) (hz : Inf M G z) : Inf M G x := by
  induction h with
  | refl => exact hz
  | head h _ ih => exact (ih hz).back h
theorem Inf.upto {S : Pt → Prop} (hS : ∀ y, S y → ∃ z u, Edge M G y z ∧ Star (Edge M G) z u ∧ (S u ∨ Inf M G u)) {x : Pt} (hx : S x) : Inf M G x := by
  refine ⟨fun z => Inf M G z ∨ ∃ u, Star (Edge M G) z u ∧ S u, .inr ⟨x, .refl _, hx⟩, ?_⟩
  rintro y (hy | ⟨u, hs, hu⟩)
  · obtain ⟨z, h1, h2⟩ := hy.step
    exact ⟨z, h1, .inl h2⟩
  · cases hs with
    | refl =>
      obtain ⟨z, u', h1, h2, h3 | h3⟩ := hS _ hu
      · exact ⟨z, h1, .inr ⟨u', h2, h3⟩⟩
      · exact ⟨z, h1, .inl (h3.star h2)⟩
    | head h1 h2 => exact ⟨_, h1, .inr ⟨u, h2, hu⟩⟩
/-- A way round. -/
theorem Inf.round {x y : Pt} (h : Edge M G x y) (h' : Star (Edge M G) y x) : Inf M G x := Inf.upto (S := fun z => z = x) (by rintro z rfl; exact ⟨y, z, h, h', .inl rfl⟩) rfl
theorem not_inf_of {x : Pt} (h : ∀ y, Edge M G x y → ¬ Inf M G y) : ¬ Inf M G x := by
  intro hx
  obtain ⟨z, h1, h2⟩ := hx.step
  exact h z h1 h2

theorem lps_inf : ∀ (p : Pg) {s a i : Nat}, Lay G p s a → Lps M p i → Inf M G (s, i) := by
  intro p
  induction p with
  | skip => intro s a i h hf; cases hf
  | asg v e => intro s a i h hf; cases hf
  | asm t => intro s a i h hf; cases hf
  | seq p q ihp ihq =>
    rintro s a i ⟨m, h1, h2⟩ hf
    rcases hf with hf | ⟨k, hk, hf⟩
    · exact ihp h1 hf
    · exact (ihq h2 hf).star (fin_way p h1 hk)
  | ite t p q ihp ihq =>
    rintro s a i ⟨m1, m2, h, h1, h2⟩ hf
    simp only [Lps] at hf
    by_cases ht : M.t t i = true
    · rw [if_pos ht] at hf
      exact (ihp h1 hf).back (edge_one (by rw [nx_ite h, if_pos ht]))
    · rw [if_neg ht] at hf
      exact (ihq h2 hf).back (edge_one (by rw [nx_ite h, if_neg ht]))
  | cho p q ihp ihq =>
    rintro s a i ⟨m1, m2, h, h1, h2⟩ hf
    rcases hf with hf | hf
    · exact (ihp h1 hf).back (by unfold Edge; rw [nx_cho h]; simp)
    · exact Inf.back (z := (m2, i)) (by unfold Edge; rw [nx_cho h]; simp) (ihq h2 hf)
  | whl t p ihp =>
    rintro s a i ⟨m, h, h1⟩ ⟨j, hs, ht, hf⟩
    refine Inf.star (whl_way h h1 hs) ?_
    rcases hf with hf | ⟨S, hj, hS⟩
    · exact (ihp h1 hf).back (edge_one (by rw [nx_whl h, if_pos ht]))
    · refine Inf.upto (S := fun y => ∃ u, y = (s, u) ∧ S u) ?_ ⟨j, rfl, hj⟩
      rintro y ⟨u, rfl, hu⟩
      obtain ⟨h2, v, h3, h4⟩ := hS u hu
      exact ⟨(m, u), (s, v), edge_one (by rw [nx_whl h, if_pos h2]), fin_way p h1 h3, .inl ⟨v, rfl, h4⟩⟩

theorem inf_one {x y : Pt} (h : Inf M G x) (hx : nxp M G x = [y]) : Inf M G y := by
  obtain ⟨z, h1, h2⟩ := h.step
  unfold Edge at h1
  rw [hx] at h1
  simp at h1
  subst h1
  exact h2
theorem inf_lps : ∀ (p : Pg) {s a i : Nat}, Lay G p s a → Inf M G (s, i) → Lps M p i ∨ ∃ m, Fin M p i m ∧ Inf M G (a, m) := by
  intro p
  induction p with
  | skip => intro s a i h hf; exact .inr ⟨i, rfl, inf_one hf (nx_one h rfl)⟩
  | asg v e => intro s a i h hf; exact .inr ⟨_, rfl, inf_one hf (nx_asg h)⟩
  | asm t =>
    intro s a i h hf
    by_cases ht : M.t t i = true
    · exact .inr ⟨i, ⟨ht, rfl⟩, inf_one hf (by rw [nx_asm h, if_pos ht])⟩
    · obtain ⟨z, h1, _⟩ := hf.step
      unfold Edge at h1
      rw [nx_asm h, if_neg ht] at h1
      cases h1
  | seq p q ihp ihq =>
    rintro s a i ⟨m, h1, h2⟩ hf
    rcases ihp h1 hf with h3 | ⟨k, h3, h4⟩
    · exact .inl (.inl h3)
    · rcases ihq h2 h4 with h5 | ⟨j, h5, h6⟩
      · exact .inl (.inr ⟨k, h3, h5⟩)
      · exact .inr ⟨j, ⟨k, h3, h5⟩, h6⟩
  | ite t p q ihp ihq =>
    rintro s a i ⟨m1, m2, h, h1, h2⟩ hf
    simp only [Lps, Fin]
    by_cases ht : M.t t i = true
    · simp only [if_pos ht]
      exact ihp h1 (inf_one hf (by rw [nx_ite h, if_pos ht]))
    · simp only [if_neg ht]
      exact ihq h2 (inf_one hf (by rw [nx_ite h, if_neg ht]))
  | cho p q ihp ihq =>
    rintro s a i ⟨m1, m2, h, h1, h2⟩ hf
    obtain ⟨z, h3, h4⟩ := hf.step
    unfold Edge at h3
    rw [nx_cho h] at h3
    simp at h3
    rcases h3 with rfl | rfl
    · rcases ihp h1 h4 with h5 | ⟨k, h5, h6⟩
      · exact .inl (.inl h5)
      · exact .inr ⟨k, .inl h5, h6⟩
    · rcases ihq h2 h4 with h5 | ⟨k, h5, h6⟩
      · exact .inl (.inr h5)
      · exact .inr ⟨k, .inr h5, h6⟩
  | whl t p ihp =>
    rintro s a i ⟨m, h, h1⟩ hf
    by_cases hout : ∃ k, Fin M (.whl t p) i k ∧ Inf M G (a, k)
    · exact .inr hout
    by_cases hin : ∃ j, Star (fun u v => M.t t u = true ∧ Fin M p u v) i j ∧ M.t t j = true ∧ Lps M p j
    · obtain ⟨j, h3, h4, h5⟩ := hin
      exact .inl ⟨j, h3, h4, .inl h5⟩
    have key : ∀ u, (Star (fun u v => M.t t u = true ∧ Fin M p u v) i u ∧ Inf M G (s, u)) → M.t t u = true ∧ ∃ v, Fin M p u v ∧ (Star (fun u v => M.t t u = true ∧ Fin M p u v) i v ∧ Inf M G (s, v)) := by
      rintro u ⟨h3, h4⟩
      by_cases ht : M.t t u = true
      · refine ⟨ht, ?_⟩
        rcases ihp h1 (inf_one h4 (by rw [nx_whl h, if_pos ht])) with h5 | ⟨v, h5, h6⟩
        · exact absurd ⟨u, h3, ht, h5⟩ hin
        · exact ⟨v, h5, h3.tail ⟨ht, h5⟩, h6⟩
      · exact absurd ⟨u, ⟨h3, by simpa using ht⟩, inf_one h4 (by rw [nx_whl h, if_neg ht])⟩ hout
    have h0 := key i ⟨.refl _, hf⟩
    exact .inl ⟨i, .refl _, h0.1, .inr ⟨_, ⟨.refl _, hf⟩, key⟩⟩

/-! ### A program that leads to the end -/
/-- The end is stop 0, all others do something. -/
def Top (G : List Stp) : Prop := G[0]? = some ⟨none, []⟩ ∧ ∀ k s, 0 < k → G[k]? = some s → s.d ≠ none
theorem nx_end {i : Nat} (h : Top G) : nxp M G (0, i) = [] := by simp [nxp, h.1, after]
theorem fin_iff {p : Pg} {s i j : Nat} (hT : Top G) (h : Lay G p s 0) : Star (Edge M G) (s, i) (0, j) ↔ Fin M p i j := by
  constructor
  · intro hs
    obtain ⟨n, hn⟩ := Way.of hs
    rcases way_fin (nx_end hT) n p s 0 i h hn with ⟨_, q, nx, h2⟩ | ⟨m, k, hk, hf, hw⟩
    · rw [hT.1] at h2; simp at h2
    · cases hw with
      | nil => exact hf
      | cons e w => unfold Edge at e; rw [nx_end hT] at e; cases e
  · exact fin_way p h
theorem stk_iff {p : Pg} {s i : Nat} (hT : Top G) (h : Lay G p s 0) : (∃ x, Star (Edge M G) (s, i) x ∧ nxp M G x = [] ∧ x.1 ≠ 0) ↔ Stk M p i := by
  constructor
  · rintro ⟨x, hs, hx, h0⟩
    obtain ⟨n, hn⟩ := Way.of hs
    rcases way_fin hx n p s 0 i h hn with ⟨h1, _⟩ | ⟨m, k, hk, hf, hw⟩
    · exact h1
    · cases hw with
      | nil => exact absurd rfl h0
      | cons e w => unfold Edge at e; rw [nx_end hT] at e; cases e
  · intro hs
    obtain ⟨x, h1, h2, q, nx, h3⟩ := stk_way p h hs
    refine ⟨x, h1, h2, fun e => ?_⟩
    rw [e, hT.1] at h3
    simp at h3
theorem lps_iff {p : Pg} {s i : Nat} (hT : Top G) (h : Lay G p s 0) : Inf M G (s, i) ↔ Lps M p i := by
  constructor
  · intro hi
    rcases inf_lps p h hi with h1 | ⟨m, _, h2⟩
    · exact h1
    · obtain ⟨z, h3, _⟩ := h2.step
      unfold Edge at h3; rw [nx_end hT] at h3; cases h3
  · exact lps_inf p h
end
end Go.Proofs.Ytheclmdpiijakaa
