import Derived.Test.YtgkoljphndgoeaaGreatDoorTopP
import Derived.Test.YtgkoljphndgoeaaGreatDoorTopB
import Derived.ProofKit
import Derived.ChangeMaps5
namespace Go.Proofs.YtgkoljphndgoeaaGreatDoor
structure Mdl where
 a : UInt8 → Tm → Nat → Nat
 t : Tm → Nat → Bool
inductive Star {α : Type} (R : α → α → Prop) : α → α → Prop
 | refl (i : α) : Star R i i
 | head {i j k : α} : R i j → Star R j k → Star R i k
theorem Star.one {α : Type} {R : α → α → Prop} {i j : α} (h : R i j) : Star R i j := .head h (.refl _)
theorem Star.trans {α : Type} {R : α → α → Prop} {i j k : α} (h : Star R i j) (h' : Star R j k) : Star R i k := by
 induction h with
 | refl => exact h'
 | head h1 _ ih => exact .head h1 (ih h')
theorem Star.tail {α : Type} {R : α → α → Prop} {i j k : α} (h : Star R i j) (h' : R j k) : Star R i k := h.trans (.one h')
section
variable (M : Mdl)
def Fin : Pg → Nat → Nat → Prop
 | .skip, i, j => j = i
 | .asg v e, i, j => j = M.a v e i
 | .seq p q, i, j => ∃ m, Fin p i m ∧ Fin q m j
 | .ite t p q, i, j => if M.t t i = true then Fin p i j else Fin q i j
 | .whl t p, i, j => Star (fun u v => M.t t u = true ∧ Fin p u v) i j ∧ M.t t j = false
 | .cho p q, i, j => Fin p i j ∨ Fin q i j
 | .asm t, i, j => M.t t i = true ∧ j = i
def Stk : Pg → Nat → Prop
 | .skip, _ => False
 | .asg _ _, _ => False
 | .seq p q, i => Stk p i ∨ ∃ m, Fin M p i m ∧ Stk q m
 | .ite t p q, i => if M.t t i = true then Stk p i else Stk q i
 | .whl t p, i => ∃ j, Star (fun u v => M.t t u = true ∧ Fin M p u v) i j ∧ M.t t j = true ∧ Stk p j
 | .cho p q, i => Stk p i ∨ Stk q i
 | .asm t, i => M.t t i = false
def Lps : Pg → Nat → Prop
 | .skip, _ => False
 | .asg _ _, _ => False
 | .seq p q, i => Lps p i ∨ ∃ m, Fin M p i m ∧ Lps q m
 | .ite t p q, i => if M.t t i = true then Lps p i else Lps q i
 | .whl t p, i => ∃ j, Star (fun u v => M.t t u = true ∧ Fin M p u v) i j ∧ M.t t j = true ∧ (Lps p j ∨ ∃ S : Nat → Prop, S j ∧ ∀ u, S u → M.t t u = true ∧ ∃ v, Fin M p u v ∧ S v)
 | .cho p q, i => Lps p i ∨ Lps q i
 | .asm _, _ => False
end
structure Stp where
 d : Option Pg
 nx : List Nat
abbrev Pt := Nat × Nat
def gd (M : Mdl) (t : Tm) (nx : List Nat) (i : Nat) : List Pt := if M.t t i = true then (nx.take 1).map (·, i) else (nx.drop 1).map (·, i)
def after (M : Mdl) (s : Stp) (i : Nat) : List Pt :=
 match s.d with
 | some (.asg v e) => s.nx.map (·, M.a v e i)
 | some (.ite t _ _) => gd M t s.nx i
 | some (.whl t _) => gd M t s.nx i
 | some (.asm t) => gd M t s.nx i
 | _ => s.nx.map (·, i)
def nxp (M : Mdl) (G : List Stp) (x : Pt) : List Pt :=
 match G[x.1]? with
 | none => []
 | some s => after M s x.2
def Edge (M : Mdl) (G : List Stp) (x y : Pt) : Prop := y ∈ nxp M G x
def Lay (G : List Stp) : Pg → Nat → Nat → Prop
 | .skip, s, a => G[s]? = some ⟨some .skip, [a]⟩
 | .asg v e, s, a => G[s]? = some ⟨some (.asg v e), [a]⟩
 | .seq p q, s, a => ∃ m, Lay G p s m ∧ Lay G q m a
 | .ite t p q, s, a => ∃ m1 m2, G[s]? = some ⟨some (.ite t p q), [m1, m2]⟩ ∧ Lay G p m1 a ∧ Lay G q m2 a
 | .whl t p, s, a => ∃ m, G[s]? = some ⟨some (.whl t p), [m, a]⟩ ∧ Lay G p m s
 | .cho p q, s, a => ∃ m1 m2, G[s]? = some ⟨some (.cho p q), [m1, m2]⟩ ∧ Lay G p m1 a ∧ Lay G q m2 a
 | .asm t, s, a => G[s]? = some ⟨some (.asm t), [a]⟩
def layF : Pg → Nat → List Stp → List Stp × Nat
 | .skip, a, G => (G ++ [⟨some .skip, [a]⟩], G.length)
 | .asg v e, a, G => (G ++ [⟨some (.asg v e), [a]⟩], G.length)
 | .asm t, a, G => (G ++ [⟨some (.asm t), [a]⟩], G.length)
 | .seq p q, a, G => layF p (layF q a G).2 (layF q a G).1
 | .ite t p q, a, G => ((layF q a (layF p a G).1).1 ++ [⟨some (.ite t p q), [(layF p a G).2, (layF q a (layF p a G).1).2]⟩], (layF q a (layF p a G).1).1.length)
 | .cho p q, a, G => ((layF q a (layF p a G).1).1 ++ [⟨some (.cho p q), [(layF p a G).2, (layF q a (layF p a G).1).2]⟩], (layF q a (layF p a G).1).1.length)
 | .whl t p, a, G => ((layF p G.length (G ++ [⟨some (.whl t p), [0, a]⟩])).1.set G.length ⟨some (.whl t p), [(layF p G.length (G ++ [⟨some (.whl t p), [0, a]⟩])).2, a]⟩, G.length)
structure LayOk (p : Pg) (a : Nat) (G G1 : List Stp) (s : Nat) : Prop where
 len : G.length < G1.length
 old : ∀ k, k < G.length → G1[k]? = G[k]?
 lo : G.length ≤ s
 hi : s < G1.length
 lay : ∀ G' : List Stp, (∀ k, G.length ≤ k → k < G1.length → G'[k]? = G1[k]?) → Lay G' p s a
 bd : ∀ n, G1.length ≤ n → a < n → (∀ (k : Nat), k < G.length → ∀ (x : Stp), G[k]? = some x → ∀ (m : Nat), m ∈ x.nx → m < n) → ∀ (k : Nat) (x : Stp), G1[k]? = some x → ∀ (m : Nat), m ∈ x.nx → m < n
theorem bd_one {G : List Stp} {x : Stp} {n : Nat} (h : ∀ (k : Nat) (y : Stp), G[k]? = some y → ∀ (m : Nat), m ∈ y.nx → m < n) (hx : ∀ (m : Nat), m ∈ x.nx → m < n) : ∀ (k : Nat) (y : Stp), (G ++ [x])[k]? = some y → ∀ (m : Nat), m ∈ y.nx → m < n := by
 intro k y hk
 by_cases h1 : k < G.length
 ·rw [List.getElem?_append_left h1] at hk
  exact h k y hk
 ·rw [List.getElem?_append_right (by omega)] at hk
  by_cases h2 : k = G.length
  ·subst h2
   simp at hk
   subst hk
   exact hx
  ·rw [List.getElem?_eq_none (by simp; omega)] at hk
   cases hk
theorem getG_lt {G : List Stp} {k : Nat} {x : Stp} (h : G[k]? = some x) : k < G.length := by
 rcases Nat.lt_or_ge k G.length with h1 | h1
 ·exact h1
 ·rw [List.getElem?_eq_none h1] at h; cases h
theorem layOk_one (p : Pg) (a : Nat) (G : List Stp) (hl : ∀ G' : List Stp, G'[G.length]? = some ⟨some p, [a]⟩ → Lay G' p G.length a) : LayOk p a G (G ++ [⟨some p, [a]⟩]) G.length where
 len := by simp
 old := fun k hk => List.getElem?_append_left hk
 lo := Nat.le_refl _
 hi := by simp
 lay := fun G' h => hl G' (by rw [h _ (Nat.le_refl _) (by simp)]; simp)
 bd := fun n _ ha h => bd_one (fun k x hk => h k (getG_lt hk) x hk) (by simpa using ha)
theorem layOk_two {p q P : Pg} {a : Nat} {G G1 G2 : List Stp} {m1 m2 : Nat} (h1 : LayOk p a G G1 m1) (h2 : LayOk q a G1 G2 m2)
  (hl : ∀ G' : List Stp, G'[G2.length]? = some ⟨some P, [m1, m2]⟩ → Lay G' p m1 a → Lay G' q m2 a → Lay G' P G2.length a) : LayOk P a G (G2 ++ [⟨some P, [m1, m2]⟩]) G2.length where
 len := by have := h1.len; have := h2.len; simp; omega
 old := fun k hk => by
  have := h1.len; have := h2.len
  rw [List.getElem?_append_left (by omega), h2.old k (by omega), h1.old k hk]
 lo := by have := h1.len; have := h2.len; omega
 hi := by simp
 lay := fun G' h => by
  have l1 := h1.len
  have l2 := h2.len
  refine hl G' ?_ ?_ ?_
  ·rw [h _ (by omega) (by simp)]; simp
  ·refine h1.lay G' fun k hk hk2 => ?_
   rw [h k hk (by simp; omega), List.getElem?_append_left (by omega), h2.old k hk2]
  ·refine h2.lay G' fun k hk hk2 => ?_
   rw [h k (by omega) (by simp; omega), List.getElem?_append_left hk2]
 bd := fun n hn ha h => by
  have l1 := h1.len
  have l2 := h2.len
  have i1 := h1.hi
  have i2 := h2.hi
  simp at hn
  have b1 := h1.bd n (by omega) ha h
  have b2 := h2.bd n (by omega) ha (fun k _ x hk => b1 k x hk)
  refine bd_one b2 ?_
  simp
  omega
theorem layF_ok (p : Pg) : ∀ (a : Nat) (G : List Stp), LayOk p a G (layF p a G).1 (layF p a G).2 := by
 induction p with
 | skip => exact fun a G => layOk_one _ a G fun G' h => h
 | asg v e => exact fun a G => layOk_one _ a G fun G' h => h
 | asm t => exact fun a G => layOk_one _ a G fun G' h => h
 | seq p q ihp ihq =>
  intro a G
  have h2 := ihq a G
  have h1 := ihp (layF q a G).2 (layF q a G).1
  have l1 := h1.len
  have l2 := h2.len
  have i1 := h1.hi
  have i2 := h2.hi
  have o1 := h1.lo
  constructor
  ·simp only [layF]; omega
  ·intro k hk; simp only [layF]; rw [h1.old k (by omega), h2.old k hk]
  ·simp only [layF]; omega
  ·exact i1
  ·intro G' h
   simp only [layF] at h
   refine ⟨_, h1.lay G' fun k hk hk2 => h k (by omega) hk2, h2.lay G' fun k hk hk2 => ?_⟩
   rw [h k hk (by omega), h1.old k hk2]
  ·intro n hn ha h
   simp only [layF] at hn ⊢
   have b2 := h2.bd n (by omega) ha h
   exact h1.bd n hn (by omega) (fun k _ x hk => b2 k x hk)
 | ite t p q ihp ihq => exact fun a G => layOk_two (ihp a G) (ihq a _) fun G' h1 h2 h3 => ⟨_, _, h1, h2, h3⟩
 | cho p q ihp ihq => exact fun a G => layOk_two (ihp a G) (ihq a _) fun G' h1 h2 h3 => ⟨_, _, h1, h2, h3⟩
 | whl t p ihp =>
  intro a G
  have h1 := ihp G.length (G ++ [⟨some (.whl t p), [0, a]⟩])
  have l1 := h1.len
  have i1 := h1.hi
  have o1 := h1.lo
  simp at l1 o1
  constructor
  ·simp only [layF, List.length_set]; omega
  ·intro k hk
   simp only [layF]
   rw [List.getElem?_set_ne (by omega), h1.old k (by simp; omega), List.getElem?_append_left hk]
  ·exact Nat.le_refl _
  ·simp only [layF, List.length_set]; omega
  ·intro G' h
   simp only [layF, List.length_set] at h
   refine ⟨_, ?_, h1.lay G' fun k hk hk2 => ?_⟩
   ·simp only [layF]
    rw [h _ (Nat.le_refl _) (by omega), List.getElem?_set_self (by omega)]
   ·simp at hk
    rw [h k (by omega) hk2, List.getElem?_set_ne (by omega)]
  ·intro n hn ha h
   simp only [layF, List.length_set] at hn ⊢
   have b := h1.bd n hn (by omega) (by
    intro k hk x hx
    refine bd_one (fun k y hk => h k (getG_lt hk) y hk) ?_ k x hx
    simp; omega)
   intro k x hk
   by_cases e : k = G.length
   ·subst e
    rw [List.getElem?_set_self (by omega)] at hk
    injection hk with hk
    subst hk
    simp; omega
   ·rw [List.getElem?_set_ne (by omega)] at hk
    exact b k x hk
section
variable {M : Mdl} {G : List Stp}
inductive Way (M : Mdl) (G : List Stp) : Nat → Pt → Pt → Prop
 | nil (x : Pt) : Way M G 0 x x
 | cons {n : Nat} {x y z : Pt} : Edge M G x y → Way M G n y z → Way M G (n + 1) x z
theorem Way.of {x y : Pt} (h : Star (Edge M G) x y) : ∃ n, Way M G n x y := by
 induction h with
 | refl i => exact ⟨0, .nil _⟩
 | head h _ ih => obtain ⟨n, hn⟩ := ih; exact ⟨n + 1, .cons h hn⟩
def Blkd (G : List Stp) (x : Pt) : Prop := ∃ p nx, G[x.1]? = some ⟨some p, nx⟩
theorem nx_one {p : Pg} {s a i : Nat} (h : G[s]? = some ⟨some p, [a]⟩) (hp : p = .skip) : nxp M G (s, i) = [(a, i)] := by subst hp; simp [nxp, h, after]
theorem nx_asg {v : UInt8} {e : Tm} {s a i : Nat} (h : G[s]? = some ⟨some (.asg v e), [a]⟩) : nxp M G (s, i) = [(a, M.a v e i)] := by simp [nxp, h, after]
theorem nx_asm {t : Tm} {s a i : Nat} (h : G[s]? = some ⟨some (.asm t), [a]⟩) : nxp M G (s, i) = if M.t t i = true then [(a, i)] else [] := by simp [nxp, h, after, gd]
theorem nx_cho {p q : Pg} {s a b i : Nat} (h : G[s]? = some ⟨some (.cho p q), [a, b]⟩) : nxp M G (s, i) = [(a, i), (b, i)] := by simp [nxp, h, after]
theorem nx_ite {t : Tm} {p q : Pg} {s a b i : Nat} (h : G[s]? = some ⟨some (.ite t p q), [a, b]⟩) : nxp M G (s, i) = if M.t t i = true then [(a, i)] else [(b, i)] := by simp [nxp, h, after, gd]
theorem nx_whl {t : Tm} {p : Pg} {s a b i : Nat} (h : G[s]? = some ⟨some (.whl t p), [a, b]⟩) : nxp M G (s, i) = if M.t t i = true then [(a, i)] else [(b, i)] := by simp [nxp, h, after, gd]
theorem Way.of_one {n : Nat} {x y z : Pt} (h : Way M G n x z) (hx : nxp M G x = [y]) (hz : nxp M G z = []) : ∃ k, n = k + 1 ∧ Way M G k y z := by
 cases h with
 | nil => rw [hx] at hz; cases hz
 | cons e w =>
  unfold Edge at e
  rw [hx] at e
  simp at e
  subst e
  exact ⟨_, rfl, w⟩
theorem Way.of_two {n : Nat} {x y y' z : Pt} (h : Way M G n x z) (hx : nxp M G x = [y, y']) (hz : nxp M G z = []) : ∃ k, n = k + 1 ∧ (Way M G k y z ∨ Way M G k y' z) := by
 cases h with
 | nil => rw [hx] at hz; cases hz
 | cons e w =>
  unfold Edge at e
  rw [hx] at e
  simp at e
  rcases e with rfl | rfl
  ·exact ⟨_, rfl, .inl w⟩
  ·exact ⟨_, rfl, .inr w⟩
theorem edge_one {x y : Pt} (h : nxp M G x = [y]) : Edge M G x y := by unfold Edge; rw [h]; simp
theorem fin_way : ∀ (p : Pg) {s a i j : Nat}, Lay G p s a → Fin M p i j → Star (Edge M G) (s, i) (a, j) := by
 intro p
 induction p with
 | skip => intro s a i j h hf; rw [show j = i from hf]; exact .one (edge_one (nx_one h rfl))
 | asg v e => intro s a i j h hf; rw [show j = _ from hf]; exact .one (edge_one (nx_asg h))
 | asm t => intro s a i j h hf; obtain ⟨h1, rfl⟩ := hf; exact .one (edge_one (by rw [nx_asm h, if_pos h1]))
 | seq p q ihp ihq => rintro s a i j ⟨m, h1, h2⟩ ⟨k, hk, hf⟩; exact (ihp h1 hk).trans (ihq h2 hf)
 | ite t p q ihp ihq =>
  rintro s a i j ⟨m1, m2, h, h1, h2⟩ hf
  simp only [Fin] at hf
  by_cases ht : M.t t i = true
  ·rw [if_pos ht] at hf
   exact .head (edge_one (by rw [nx_ite h, if_pos ht])) (ihp h1 hf)
  ·rw [if_neg ht] at hf
   exact .head (edge_one (by rw [nx_ite h, if_neg ht])) (ihq h2 hf)
 | cho p q ihp ihq =>
  rintro s a i j ⟨m1, m2, h, h1, h2⟩ hf
  rcases hf with hf | hf
  ·exact .head (by unfold Edge; rw [nx_cho h]; simp) (ihp h1 hf)
  ·exact .head (j := (m2, i)) (by unfold Edge; rw [nx_cho h]; simp) (ihq h2 hf)
 | whl t p ihp =>
  rintro s a i j ⟨m, h, h1⟩ ⟨hs, ht⟩
  induction hs with
  | refl i => exact .one (edge_one (by rw [nx_whl h, if_neg (by simp [ht])]))
  | head hr _ ih => exact (Star.head (edge_one (by rw [nx_whl h, if_pos hr.1])) (ihp h1 hr.2)).trans (ih ht)
theorem whl_way {t : Tm} {p : Pg} {s m a i j : Nat} (h : G[s]? = some ⟨some (.whl t p), [m, a]⟩) (h1 : Lay G p m s) (hs : Star (fun u v => M.t t u = true ∧ Fin M p u v) i j) : Star (Edge M G) (s, i) (s, j) := by
 induction hs with
 | refl i => exact .refl _
 | head hr _ ih => exact (Star.head (edge_one (by rw [nx_whl h, if_pos hr.1])) (fin_way p h1 hr.2)).trans ih
theorem way_fin {x : Pt} (hx : nxp M G x = []) : ∀ (n : Nat) (p : Pg) (s a i : Nat), Lay G p s a → Way M G n (s, i) x → (Stk M p i ∧ Blkd G x) ∨ ∃ m k, k < n ∧ Fin M p i m ∧ Way M G k (a, m) x := by
 intro n
 induction n using Nat.strongRecOn with
 | ind n ih =>
 intro p
 induction p with
 | skip =>
  intro s a i h hw
  obtain ⟨k, hk0, hw0⟩ := hw.of_one (nx_one h rfl) hx
  subst hk0; clear hw; have hw := hw0; clear hw0
  exact .inr ⟨i, k, by omega, rfl, hw⟩
 | asg v e =>
  intro s a i h hw
  obtain ⟨k, hk0, hw0⟩ := hw.of_one (nx_asg h) hx
  subst hk0; clear hw; have hw := hw0; clear hw0
  exact .inr ⟨_, k, by omega, rfl, hw⟩
 | asm t =>
  intro s a i h hw
  by_cases ht : M.t t i = true
  ·obtain ⟨k, hk0, hw0⟩ := hw.of_one (by rw [nx_asm h, if_pos ht]) hx
   subst hk0; clear hw; have hw := hw0; clear hw0
   exact .inr ⟨i, k, by omega, ⟨ht, rfl⟩, hw⟩
  ·have e := nx_asm (M := M) (i := i) h
   rw [if_neg ht] at e
   cases hw with
   | nil => exact .inl ⟨by simpa [Stk] using ht, _, _, h⟩
   | cons e' w => unfold Edge at e'; rw [e] at e'; cases e'
 | seq p q ihp ihq =>
  rintro s a i ⟨m, h1, h2⟩ hw
  rcases ihp s m i h1 hw with ⟨h3, h4⟩ | ⟨m', k, hk, hf, hw⟩
  ·exact .inl ⟨.inl h3, h4⟩
  ·rcases ih k hk q m a m' h2 hw with ⟨h3, h4⟩ | ⟨j, k', hk', hf', hw⟩
   ·exact .inl ⟨.inr ⟨m', hf, h3⟩, h4⟩
   ·exact .inr ⟨j, k', by omega, ⟨m', hf, hf'⟩, hw⟩
 | ite t p q ihp ihq =>
  rintro s a i ⟨m1, m2, h, h1, h2⟩ hw
  by_cases ht : M.t t i = true
  ·obtain ⟨k, hk0, hw0⟩ := hw.of_one (by rw [nx_ite h, if_pos ht]) hx
   subst hk0; clear hw; have hw := hw0; clear hw0
   rcases ih k (by omega) p _ _ _ h1 hw with ⟨h3, h4⟩ | ⟨j, k', hk', hf', hw⟩
   ·exact .inl ⟨by simp only [Stk]; rw [if_pos ht]; exact h3, h4⟩
   ·exact .inr ⟨j, k', by omega, by simp only [Fin]; rw [if_pos ht]; exact hf', hw⟩
  ·obtain ⟨k, hk0, hw0⟩ := hw.of_one (by rw [nx_ite h, if_neg ht]) hx
   subst hk0; clear hw; have hw := hw0; clear hw0
   rcases ih k (by omega) q _ _ _ h2 hw with ⟨h3, h4⟩ | ⟨j, k', hk', hf', hw⟩
   ·exact .inl ⟨by simp only [Stk]; rw [if_neg ht]; exact h3, h4⟩
   ·exact .inr ⟨j, k', by omega, by simp only [Fin]; rw [if_neg ht]; exact hf', hw⟩
 | cho p q ihp ihq =>
  rintro s a i ⟨m1, m2, h, h1, h2⟩ hw
  obtain ⟨k, hk0, hw0⟩ := hw.of_two (nx_cho h) hx
  subst hk0; clear hw; have hw := hw0; clear hw0
  rcases hw with hw | hw
  ·rcases ih k (by omega) p _ _ _ h1 hw with ⟨h3, h4⟩ | ⟨j, k', hk', hf', hw⟩
   ·exact .inl ⟨.inl h3, h4⟩
   ·exact .inr ⟨j, k', by omega, .inl hf', hw⟩
  ·rcases ih k (by omega) q _ _ _ h2 hw with ⟨h3, h4⟩ | ⟨j, k', hk', hf', hw⟩
   ·exact .inl ⟨.inr h3, h4⟩
   ·exact .inr ⟨j, k', by omega, .inr hf', hw⟩
 | whl t p ihp =>
  rintro s a i ⟨m, h, h1⟩ hw
  by_cases ht : M.t t i = true
  ·obtain ⟨k, hk0, hw0⟩ := hw.of_one (by rw [nx_whl h, if_pos ht]) hx
   subst hk0; clear hw; have hw := hw0; clear hw0
   rcases ih k (by omega) p _ _ _ h1 hw with ⟨h3, h4⟩ | ⟨j, k', hk', hf', hw⟩
   ·exact .inl ⟨⟨i, .refl _, ht, h3⟩, h4⟩
   ·rcases ih k' (by omega) (.whl t p) s a j ⟨m, h, h1⟩ hw with ⟨⟨j2, h3, h5, h6⟩, h4⟩ | ⟨j2, k2, hk2, ⟨hf2, ht2⟩, hw⟩
    ·exact .inl ⟨⟨j2, .head ⟨ht, hf'⟩ h3, h5, h6⟩, h4⟩
    ·exact .inr ⟨j2, k2, by omega, ⟨.head ⟨ht, hf'⟩ hf2, ht2⟩, hw⟩
  ·obtain ⟨k, hk0, hw0⟩ := hw.of_one (by rw [nx_whl h, if_neg ht]) hx
   subst hk0; clear hw; have hw := hw0; clear hw0
   exact .inr ⟨i, k, by omega, ⟨.refl _, by simpa using ht⟩, hw⟩
theorem stk_way : ∀ (p : Pg) {s a i : Nat}, Lay G p s a → Stk M p i → ∃ x, Star (Edge M G) (s, i) x ∧ nxp M G x = [] ∧ Blkd G x := by
 intro p
 induction p with
 | skip => intro s a i h hf; cases hf
 | asg v e => intro s a i h hf; cases hf
 | asm t =>
  intro s a i h hf
  exact ⟨(s, i), .refl _, by rw [nx_asm h, if_neg (by simpa [Stk] using hf)], _, _, h⟩
 | seq p q ihp ihq =>
  rintro s a i ⟨m, h1, h2⟩ hf
  rcases hf with hf | ⟨k, hk, hf⟩
  ·exact ihp h1 hf
  ·obtain ⟨x, h3, h4⟩ := ihq h2 hf
   exact ⟨x, (fin_way p h1 hk).trans h3, h4⟩
 | ite t p q ihp ihq =>
  rintro s a i ⟨m1, m2, h, h1, h2⟩ hf
  simp only [Stk] at hf
  by_cases ht : M.t t i = true
  ·rw [if_pos ht] at hf
   obtain ⟨x, h3, h4⟩ := ihp h1 hf
   exact ⟨x, .head (edge_one (by rw [nx_ite h, if_pos ht])) h3, h4⟩
  ·rw [if_neg ht] at hf
   obtain ⟨x, h3, h4⟩ := ihq h2 hf
   exact ⟨x, .head (edge_one (by rw [nx_ite h, if_neg ht])) h3, h4⟩
 | cho p q ihp ihq =>
  rintro s a i ⟨m1, m2, h, h1, h2⟩ hf
  rcases hf with hf | hf
  ·obtain ⟨x, h3, h4⟩ := ihp h1 hf
   exact ⟨x, .head (by unfold Edge; rw [nx_cho h]; simp) h3, h4⟩
  ·obtain ⟨x, h3, h4⟩ := ihq h2 hf
   exact ⟨x, .head (j := (m2, i)) (by unfold Edge; rw [nx_cho h]; simp) h3, h4⟩
 | whl t p ihp =>
  rintro s a i ⟨m, h, h1⟩ ⟨j, hs, ht, hf⟩
  obtain ⟨x, h3, h4⟩ := ihp h1 hf
  exact ⟨x, ((whl_way h h1 hs).tail (edge_one (by rw [nx_whl h, if_pos ht]))).trans h3, h4⟩
def Inf (M : Mdl) (G : List Stp) (x : Pt) : Prop := ∃ S : Pt → Prop, S x ∧ ∀ y, S y → ∃ z, Edge M G y z ∧ S z
theorem Inf.step {x : Pt} (h : Inf M G x) : ∃ z, Edge M G x z ∧ Inf M G z := by
 obtain ⟨S, hx, hS⟩ := h
 obtain ⟨z, h1, h2⟩ := hS x hx
 exact ⟨z, h1, S, h2, hS⟩
theorem Inf.back {x z : Pt} (h : Edge M G x z) (hz : Inf M G z) : Inf M G x := by
 obtain ⟨S, h1, hS⟩ := hz
 refine ⟨fun y => y = x ∨ S y, .inl rfl, ?_⟩
 rintro y (rfl | hy)
 ·exact ⟨z, h, .inr h1⟩
 ·obtain ⟨u, h2, h3⟩ := hS y hy
  exact ⟨u, h2, .inr h3⟩
theorem Inf.star {x z : Pt} (h : Star (Edge M G) x z) (hz : Inf M G z) : Inf M G x := by
 induction h with
 | refl => exact hz
 | head h _ ih => exact (ih hz).back h
theorem Inf.upto {S : Pt → Prop} (hS : ∀ y, S y → ∃ z u, Edge M G y z ∧ Star (Edge M G) z u ∧ (S u ∨ Inf M G u)) {x : Pt} (hx : S x) : Inf M G x := by
 refine ⟨fun z => Inf M G z ∨ ∃ u, Star (Edge M G) z u ∧ S u, .inr ⟨x, .refl _, hx⟩, ?_⟩
 rintro y (hy | ⟨u, hs, hu⟩)
 ·obtain ⟨z, h1, h2⟩ := hy.step
  exact ⟨z, h1, .inl h2⟩
 ·cases hs with
  | refl =>
   obtain ⟨z, u', h1, h2, h3 | h3⟩ := hS _ hu
   ·exact ⟨z, h1, .inr ⟨u', h2, h3⟩⟩
   ·exact ⟨z, h1, .inl (h3.star h2)⟩
  | head h1 h2 => exact ⟨_, h1, .inr ⟨u, h2, hu⟩⟩
theorem Inf.round {x y : Pt} (h : Edge M G x y) (h' : Star (Edge M G) y x) : Inf M G x := Inf.upto (S := fun z => z = x) (by rintro z rfl; exact ⟨y, z, h, h', .inl rfl⟩) rfl
theorem not_inf_of {x : Pt} (h : ∀ y, Edge M G x y → ¬ Inf M G y) : ¬ Inf M G x := by
 intro hx
 obtain ⟨z, h1, h2⟩ := hx.step
 exact h z h1 h2
theorem lps_inf : ∀ (p : Pg) {s a i : Nat}, Lay G p s a → Lps M p i → Inf M G (s, i) := by
 intro p
 induction p with
 | skip => intro s a i h hf; cases hf
 | asg v e => intro s a i h hf; cases hf
 | asm t => intro s a i h hf; cases hf
 | seq p q ihp ihq =>
  rintro s a i ⟨m, h1, h2⟩ hf
  rcases hf with hf | ⟨k, hk, hf⟩
  ·exact ihp h1 hf
  ·exact (ihq h2 hf).star (fin_way p h1 hk)
 | ite t p q ihp ihq =>
  rintro s a i ⟨m1, m2, h, h1, h2⟩ hf
  simp only [Lps] at hf
  by_cases ht : M.t t i = true
  ·rw [if_pos ht] at hf
   exact (ihp h1 hf).back (edge_one (by rw [nx_ite h, if_pos ht]))
  ·rw [if_neg ht] at hf
   exact (ihq h2 hf).back (edge_one (by rw [nx_ite h, if_neg ht]))
 | cho p q ihp ihq =>
  rintro s a i ⟨m1, m2, h, h1, h2⟩ hf
  rcases hf with hf | hf
  ·exact (ihp h1 hf).back (by unfold Edge; rw [nx_cho h]; simp)
  ·exact Inf.back (z := (m2, i)) (by unfold Edge; rw [nx_cho h]; simp) (ihq h2 hf)
 | whl t p ihp =>
  rintro s a i ⟨m, h, h1⟩ ⟨j, hs, ht, hf⟩
  refine Inf.star (whl_way h h1 hs) ?_
  rcases hf with hf | ⟨S, hj, hS⟩
  ·exact (ihp h1 hf).back (edge_one (by rw [nx_whl h, if_pos ht]))
  ·refine Inf.upto (S := fun y => ∃ u, y = (s, u) ∧ S u) ?_ ⟨j, rfl, hj⟩
   rintro y ⟨u, rfl, hu⟩
   obtain ⟨h2, v, h3, h4⟩ := hS u hu
   exact ⟨(m, u), (s, v), edge_one (by rw [nx_whl h, if_pos h2]), fin_way p h1 h3, .inl ⟨v, rfl, h4⟩⟩
theorem inf_one {x y : Pt} (h : Inf M G x) (hx : nxp M G x = [y]) : Inf M G y := by
 obtain ⟨z, h1, h2⟩ := h.step
 unfold Edge at h1
 rw [hx] at h1
 simp at h1
 subst h1
 exact h2
theorem inf_lps : ∀ (p : Pg) {s a i : Nat}, Lay G p s a → Inf M G (s, i) → Lps M p i ∨ ∃ m, Fin M p i m ∧ Inf M G (a, m) := by
 intro p
 induction p with
 | skip => intro s a i h hf; exact .inr ⟨i, rfl, inf_one hf (nx_one h rfl)⟩
 | asg v e => intro s a i h hf; exact .inr ⟨_, rfl, inf_one hf (nx_asg h)⟩
 | asm t =>
  intro s a i h hf
  by_cases ht : M.t t i = true
  ·exact .inr ⟨i, ⟨ht, rfl⟩, inf_one hf (by rw [nx_asm h, if_pos ht])⟩
  ·obtain ⟨z, h1, _⟩ := hf.step
   unfold Edge at h1
   rw [nx_asm h, if_neg ht] at h1
   cases h1
 | seq p q ihp ihq =>
  rintro s a i ⟨m, h1, h2⟩ hf
  rcases ihp h1 hf with h3 | ⟨k, h3, h4⟩
  ·exact .inl (.inl h3)
  ·rcases ihq h2 h4 with h5 | ⟨j, h5, h6⟩
   ·exact .inl (.inr ⟨k, h3, h5⟩)
   ·exact .inr ⟨j, ⟨k, h3, h5⟩, h6⟩
 | ite t p q ihp ihq =>
  rintro s a i ⟨m1, m2, h, h1, h2⟩ hf
  simp only [Lps, Fin]
  by_cases ht : M.t t i = true
  ·simp only [if_pos ht]
   exact ihp h1 (inf_one hf (by rw [nx_ite h, if_pos ht]))
  ·simp only [if_neg ht]
   exact ihq h2 (inf_one hf (by rw [nx_ite h, if_neg ht]))
 | cho p q ihp ihq =>
  rintro s a i ⟨m1, m2, h, h1, h2⟩ hf
  obtain ⟨z, h3, h4⟩ := hf.step
  unfold Edge at h3
  rw [nx_cho h] at h3
  simp at h3
  rcases h3 with rfl | rfl
  ·rcases ihp h1 h4 with h5 | ⟨k, h5, h6⟩
   ·exact .inl (.inl h5)
   ·exact .inr ⟨k, .inl h5, h6⟩
  ·rcases ihq h2 h4 with h5 | ⟨k, h5, h6⟩
   ·exact .inl (.inr h5)
   ·exact .inr ⟨k, .inr h5, h6⟩
 | whl t p ihp =>
  rintro s a i ⟨m, h, h1⟩ hf
  by_cases hout : ∃ k, Fin M (.whl t p) i k ∧ Inf M G (a, k)
  ·exact .inr hout
  by_cases hin : ∃ j, Star (fun u v => M.t t u = true ∧ Fin M p u v) i j ∧ M.t t j = true ∧ Lps M p j
  ·obtain ⟨j, h3, h4, h5⟩ := hin
   exact .inl ⟨j, h3, h4, .inl h5⟩
  have key : ∀ u, (Star (fun u v => M.t t u = true ∧ Fin M p u v) i u ∧ Inf M G (s, u)) → M.t t u = true ∧ ∃ v, Fin M p u v ∧ (Star (fun u v => M.t t u = true ∧ Fin M p u v) i v ∧ Inf M G (s, v)) := by
   rintro u ⟨h3, h4⟩
   by_cases ht : M.t t u = true
   ·refine ⟨ht, ?_⟩
    rcases ihp h1 (inf_one h4 (by rw [nx_whl h, if_pos ht])) with h5 | ⟨v, h5, h6⟩
    ·exact absurd ⟨u, h3, ht, h5⟩ hin
    ·exact ⟨v, h5, h3.tail ⟨ht, h5⟩, h6⟩
   ·exact absurd ⟨u, ⟨h3, by simpa using ht⟩, inf_one h4 (by rw [nx_whl h, if_neg ht])⟩ hout
  have h0 := key i ⟨.refl _, hf⟩
  exact .inl ⟨i, .refl _, h0.1, .inr ⟨_, ⟨.refl _, hf⟩, key⟩⟩
def Top (G : List Stp) : Prop := G[0]? = some ⟨none, []⟩ ∧ ∀ k s, 0 < k → G[k]? = some s → s.d ≠ none
theorem nx_end {i : Nat} (h : Top G) : nxp M G (0, i) = [] := by simp [nxp, h.1, after]
theorem fin_iff {p : Pg} {s i j : Nat} (hT : Top G) (h : Lay G p s 0) : Star (Edge M G) (s, i) (0, j) ↔ Fin M p i j := by
 constructor
 ·intro hs
  obtain ⟨n, hn⟩ := Way.of hs
  rcases way_fin (nx_end hT) n p s 0 i h hn with ⟨_, q, nx, h2⟩ | ⟨m, k, hk, hf, hw⟩
  ·rw [hT.1] at h2; simp at h2
  ·cases hw with
   | nil => exact hf
   | cons e w => unfold Edge at e; rw [nx_end hT] at e; cases e
 ·exact fin_way p h
theorem stk_iff {p : Pg} {s i : Nat} (hT : Top G) (h : Lay G p s 0) : (∃ x, Star (Edge M G) (s, i) x ∧ nxp M G x = [] ∧ x.1 ≠ 0) ↔ Stk M p i := by
 constructor
 ·rintro ⟨x, hs, hx, h0⟩
  obtain ⟨n, hn⟩ := Way.of hs
  rcases way_fin hx n p s 0 i h hn with ⟨h1, _⟩ | ⟨m, k, hk, hf, hw⟩
  ·exact h1
  ·cases hw with
   | nil => exact absurd rfl h0
   | cons e w => unfold Edge at e; rw [nx_end hT] at e; cases e
 ·intro hs
  obtain ⟨x, h1, h2, q, nx, h3⟩ := stk_way p h hs
  refine ⟨x, h1, h2, fun e => ?_⟩
  rw [e, hT.1] at h3
  simp at h3
theorem lps_iff {p : Pg} {s i : Nat} (hT : Top G) (h : Lay G p s 0) : Inf M G (s, i) ↔ Lps M p i := by
 constructor
 ·intro hi
  rcases inf_lps p h hi with h1 | ⟨m, _, h2⟩
  ·exact h1
  ·obtain ⟨z, h3, _⟩ := h2.step
   unfold Edge at h3; rw [nx_end hT] at h3; cases h3
 ·exact lps_inf p h
end
abbrev Mp := Pt → Option Bool
def upd (m : Mp) (p : Pt) (v : Bool) : Mp := fun q => if p = q then some v else m q
theorem upd_same (m : Mp) (p : Pt) (v : Bool) : upd m p v p = some v := by simp [upd]
theorem upd_ne {m : Mp} {p q : Pt} {v : Bool} (h : p ≠ q) : upd m p v q = m q := by simp [upd, h]
theorem upd_some {m : Mp} {p q : Pt} {v : Bool} (h : m q ≠ none) : upd m p v q ≠ none := by
 by_cases e : p = q
 ·subst e; rw [upd_same]; simp
 ·rw [upd_ne e]; exact h
def univ (N S : Nat) : List Pt := (List.range N).flatMap fun k => (List.range S).map fun i => (k, i)
theorem mem_univ {N S : Nat} {x : Pt} : x ∈ univ N S ↔ x.1 < N ∧ x.2 < S := by
 unfold univ
 simp only [List.mem_flatMap, List.mem_range, List.mem_map]
 constructor
 ·rintro ⟨k, hk, i, hi, rfl⟩; exact ⟨hk, hi⟩
 ·rintro ⟨h1, h2⟩; exact ⟨x.1, h1, x.2, h2, rfl⟩
theorem univ_len (N S : Nat) : (univ N S).length = N * S := by
 unfold univ
 induction N with
 | zero => simp
 | succ n ih => rw [List.range_succ, List.flatMap_append, List.length_append, ih]; simp [Nat.succ_mul]
def unk (N S : Nat) (m : Mp) : Nat := (univ N S).countP fun x => (m x).isNone
theorem unk_bd (N S : Nat) (m : Mp) : unk N S m ≤ N * S := by
 unfold unk
 have := List.countP_le_length (p := fun x : Pt => (m x).isNone) (l := univ N S)
 rwa [univ_len] at this
theorem unk_congr {N S : Nat} {m m' : Mp} (h : ∀ x, m x ≠ none ↔ m' x ≠ none) : unk N S m' = unk N S m := by
 unfold unk
 apply List.countP_congr
 intro x _
 have := h x
 cases h1 : m x <;> cases h2 : m' x <;> simp_all
theorem countP_lt {p q : Pt → Bool} : ∀ {l : List Pt}, (∀ x, q x = true → p x = true) → ∀ {x : Pt}, x ∈ l → p x = true → q x = false → l.countP q < l.countP p := by
 intro l
 induction l with
 | nil => intro _ x hx; cases hx
 | cons y l ih =>
  intro h x hx hp hq
  simp only [List.countP_cons]
  rcases List.mem_cons.1 hx with rfl | hx
  ·have := List.countP_mono_left (l := l) (fun z _ => h z)
   rw [hp, hq]
   simp
   omega
  ·have := ih h hx hp hq
   by_cases hy : q y = true
   ·rw [hy, h y hy]; simp; omega
   ·simp only [Bool.not_eq_true] at hy
    rw [hy]
    simp
    omega
theorem unk_lt {N S : Nat} {m : Mp} {x : Pt} (b : Bool) (hx : x.1 < N ∧ x.2 < S) (h1 : m x = none) : unk N S (upd m x b) < unk N S m := by
 apply countP_lt (x := x) _ (mem_univ.2 hx) (by simp [h1])
 ·rw [upd_same]; rfl
 ·intro y hy
  by_cases e : x = y
  ·subst e; simp [h1]
  ·rwa [upd_ne e] at hy
section
variable {M : Mdl} {G : List Stp}
inductive Chn (M : Mdl) (G : List Stp) (x0 : Pt) : List (Pt × Bool) → Option Pt → Prop
 | nil : Chn M G x0 [] none
 | vis {s : List (Pt × Bool)} {c : Option Pt} {y : Pt} : Chn M G x0 s c → (c = none → y = x0) → (∀ p, c = some p → Edge M G p y) → Chn M G x0 ((y, false) :: s) c
 | lvg {s : List (Pt × Bool)} {c : Option Pt} {y : Pt} : Chn M G x0 s c → (c = none → y = x0) → (∀ p, c = some p → Edge M G p y) → (y, true) ∉ s → Chn M G x0 ((y, true) :: s) (some y)
theorem Chn.par {x0 : Pt} {s : List (Pt × Bool)} {c : Option Pt} (h : Chn M G x0 s c) : ∀ p, c = some p → (p, true) ∈ s ∧ Star (Edge M G) x0 p := by
 induction h with
 | nil => intro p hp; cases hp
 | vis _ _ _ ih => intro p hp; exact ⟨List.mem_cons_of_mem _ (ih p hp).1, (ih p hp).2⟩
 | @lvg s c y _ h1 h2 _ ih =>
  intro p hp
  injection hp with hp
  subst hp
  refine ⟨List.mem_cons_self .., ?_⟩
  cases hc : c with
  | none => rw [h1 hc]; exact .refl _
  | some q => exact (ih q hc).2.tail (h2 q hc)
theorem Chn.top {x0 : Pt} {s : List (Pt × Bool)} {c : Option Pt} {y : Pt} (h : Chn M G x0 s c) (h1 : c = none → y = x0) (h2 : ∀ p, c = some p → Edge M G p y) : Star (Edge M G) x0 y := by
 cases hc : c with
 | none => rw [h1 hc]; exact .refl _
 | some q => exact (h.par q hc).2.tail (h2 q hc)
theorem Chn.way {x0 : Pt} {s : List (Pt × Bool)} {c : Option Pt} (h : Chn M G x0 s c) : ∀ z, (z, true) ∈ s → ∃ p, c = some p ∧ Star (Edge M G) z p := by
 induction h with
 | nil => intro z hz; cases hz
 | @vis s c y _ _ _ ih =>
  intro z hz
  rcases List.mem_cons.1 hz with h | h
  ·cases h
  ·exact ih z h
 | @lvg s c y _ h1 h2 _ ih =>
  intro z hz
  rcases List.mem_cons.1 hz with h | h
  ·cases h; exact ⟨_, rfl, .refl _⟩
  ·obtain ⟨p, hp, hs⟩ := ih z h
   exact ⟨_, rfl, hs.tail (h2 p hp)⟩
theorem Chn.push {x0 y : Pt} : ∀ (l : List Pt) {s : List (Pt × Bool)}, Chn M G x0 s (some y) → (∀ z, z ∈ l → Edge M G y z) → Chn M G x0 (l.reverse.map (·, false) ++ s) (some y) := by
 intro l
 induction l with
 | nil => intro s h _; exact h
 | cons a l ih =>
  intro s h hl
  rw [List.reverse_cons, List.map_append, List.append_assoc]
  exact ih (.vis h (fun e => by cases e) (fun p hp => by injection hp with hp; subst hp; exact hl a (List.mem_cons_self ..))) (fun z hz => hl z (List.mem_cons_of_mem _ hz))
structure Dfs (M : Mdl) (G : List Stp) (S : Nat) (x0 : Pt) (m0 : Mp) (E0 : List Nat) (lo0 bl0 : Bool) (s : List (Pt × Bool)) (m : Mp) (E : List Nat) (lo bl : Bool) : Prop where
 bk0 : ∀ y b, m0 y = some b → b = false
 ch : ∃ c, Chn M G x0 s c
 ext : ∀ y b, m0 y = some b → m y = some b
 st : ∀ y, m y = some true ↔ (y, true) ∈ s
 new : ∀ y, m0 y = none → m y ≠ none → Star (Edge M G) x0 y
 cl : ∀ y, m0 y = none → m y ≠ none → ∀ z, Edge M G y z → m z ≠ none ∨ (z, false) ∈ s
 hd : m x0 ≠ none ∨ (x0, false) ∈ s
 fin : ∀ j, j ∈ E ↔ j ∈ E0 ∨ (m0 (0, j) = none ∧ m (0, j) ≠ none)
 blk : bl = true ↔ bl0 = true ∨ ∃ y, m0 y = none ∧ m y ≠ none ∧ nxp M G y = [] ∧ y.1 ≠ 0
 lp1 : lo = true → lo0 = true ∨ Inf M G x0
 lp2 : lo = false → lo0 = false ∧ (∀ b, m b = some false → ¬ Inf M G b) ∧ ∀ A B y, s = A ++ (y, true) :: B → ∀ z, Edge M G y z → m z = some false ∨ (z, false) ∈ A ∨ (z, true) ∈ A
 sz : E.length + unk G.length S m ≤ E0.length + unk G.length S m0
 op : s.length + 2 * unk G.length S m ≤ 1 + 2 * unk G.length S m0
variable {S : Nat} {x0 : Pt} {m0 m : Mp} {E0 E : List Nat} {lo0 bl0 lo bl : Bool} {s : List (Pt × Bool)}
theorem Dfs.start (hb : ∀ y b, m0 y = some b → b = false) (hl : lo0 = false → ∀ b, m0 b = some false → ¬ Inf M G b) : Dfs M G S x0 m0 E0 lo0 bl0 [(x0, false)] m0 E0 lo0 bl0 where
 bk0 := hb
 ch := ⟨none, .vis .nil (fun _ => rfl) (fun p hp => by cases hp)⟩
 ext := fun _ _ h => h
 st := fun y => ⟨fun h => by have := hb y true h; simp at this, fun h => by simp at h⟩
 new := fun y h h' => absurd h h'
 cl := fun y h h' => absurd h h'
 hd := .inr (by simp)
 fin := fun j => ⟨fun h => .inl h, fun h => h.elim id (fun h => absurd h.1 h.2)⟩
 blk := ⟨fun h => .inl h, fun h => h.elim id (fun ⟨y, h1, h2, _⟩ => absurd h1 h2)⟩
 lp1 := fun h => .inl h
 lp2 := fun h => ⟨h, hl h, fun A B y hs => by
  cases A with
  | nil => simp at hs
  | cons a A => simp at hs⟩
 sz := Nat.le_refl _
 op := by simp
theorem Dfs.leave {y : Pt} (h : Dfs M G S x0 m0 E0 lo0 bl0 ((y, true) :: s) m E lo bl) : Dfs M G S x0 m0 E0 lo0 bl0 s (upd m y false) E lo bl := by
 have hy : m y = some true := (h.st y).2 (List.mem_cons_self ..)
 have kne : ∀ z, m z ≠ none ↔ upd m y false z ≠ none := fun z => by
  by_cases e : y = z
  ·subst e; rw [upd_same, hy]; simp
  ·rw [upd_ne e]
 obtain ⟨c, hc⟩ := h.ch
 have hch : ∃ c', Chn M G x0 s c' ∧ (y, true) ∉ s := by
  cases hc with
  | lvg h1 _ _ h4 => exact ⟨_, h1, h4⟩
 obtain ⟨c', hc', hni⟩ := hch
 have hu : unk G.length S (upd m y false) = unk G.length S m := unk_congr kne
 constructor
 ·exact h.bk0
 ·exact ⟨c', hc'⟩
 ·intro z b hz
  have h1 := h.ext z b hz
  by_cases e : y = z
  ·subst e; rw [hy] at h1; injection h1 with h1; subst h1; have := h.bk0 _ _ hz; simp at this
  ·rw [upd_ne e]; exact h1
 ·intro z
  by_cases e : y = z
  ·subst e; rw [upd_same]; simp [hni]
  ·rw [upd_ne e, h.st z]
   simp only [List.mem_cons, Prod.mk.injEq, and_true]
   exact ⟨fun h => h.resolve_left (fun h => e h.symm), .inr⟩
 ·exact fun z h1 h2 => h.new z h1 ((kne z).2 h2)
 ·intro z h1 h2 u hu
  rcases h.cl z h1 ((kne z).2 h2) u hu with k | k
  ·exact .inl ((kne u).1 k)
  ·simp at k; exact .inr k
 ·rcases h.hd with k | k
  ·exact .inl ((kne _).1 k)
  ·simp at k; exact .inr k
 ·intro j; rw [h.fin j, kne]
 ·rw [h.blk]; simp only [kne]
 ·exact h.lp1
 ·intro hl
  obtain ⟨k1, k2, k3⟩ := h.lp2 hl
  have hyn : ¬ Inf M G y := not_inf_of fun z hz => by
   rcases k3 [] s y rfl z hz with k | k | k
   ·exact k2 z k
   ·simp at k
   ·simp at k
  refine ⟨k1, fun b hb => ?_, fun A B p hs z hz => ?_⟩
  ·by_cases e : y = b
   ·subst e; exact hyn
   ·rw [upd_ne e] at hb; exact k2 b hb
  ·rcases k3 ((y, true) :: A) B p (by rw [hs]; rfl) z hz with k | k | k
   ·left
    by_cases e : y = z
    ·subst e; exact upd_same _ _ _
    ·rw [upd_ne e]; exact k
   ·simp at k; exact .inr (.inl k)
   ·simp at k
    rcases k with rfl | k
    ·exact .inl (upd_same _ _ _)
    ·exact .inr (.inr k)
 ·rw [hu]; exact h.sz
 ·have := h.op
  rw [hu]; simp at this; omega
theorem Dfs.known {y : Pt} {b : Bool} (h : Dfs M G S x0 m0 E0 lo0 bl0 ((y, false) :: s) m E lo bl) (hy : m y = some b) : Dfs M G S x0 m0 E0 lo0 bl0 s m E (lo || b) bl := by
 obtain ⟨c, hc⟩ := h.ch
 have hch : Chn M G x0 s c ∧ (c = none → y = x0) ∧ ∀ p, c = some p → Edge M G p y := by
  cases hc with
  | vis h1 h2 h3 => exact ⟨h1, h2, h3⟩
 obtain ⟨hc', h1, h2⟩ := hch
 constructor
 ·exact h.bk0
 ·exact ⟨c, hc'⟩
 ·exact h.ext
 ·intro z; rw [h.st z]; simp
 ·exact h.new
 ·intro z k1 k2 u hu
  rcases h.cl z k1 k2 u hu with k | k
  ·exact .inl k
  ·simp at k
   rcases k with rfl | k
   ·left; rw [hy]; simp
   ·exact .inr k
 ·rcases h.hd with k | k
  ·exact .inl k
  ·simp at k
   rcases k with rfl | k
   ·left; rw [hy]; simp
   ·exact .inr k
 ·exact h.fin
 ·exact h.blk
 ·intro hl
  cases hb : b with
  | false => rw [hb] at hl; exact h.lp1 (by simpa using hl)
  | true =>
   subst hb
   have hs : (y, true) ∈ s := by have := (h.st y).1 hy; simpa using this
   obtain ⟨p, hp, hw⟩ := hc'.way y hs
   exact .inr ((Inf.round (h2 p hp) hw).star (hc'.par p hp).2)
 ·intro hl
  simp at hl
  obtain ⟨hl, rfl⟩ := hl
  obtain ⟨k1, k2, k3⟩ := h.lp2 hl
  refine ⟨k1, k2, fun A B p hs z hz => ?_⟩
  rcases k3 ((y, false) :: A) B p (by rw [hs]; rfl) z hz with k | k | k
  ·exact .inl k
  ·simp at k
   rcases k with rfl | k
   ·exact .inl hy
   ·exact .inr (.inl k)
  ·simp at k; exact .inr (.inr k)
 ·exact h.sz
 ·have := h.op
  simp at this; omega
theorem Dfs.enter {y : Pt} {E' : List Nat} {bl' : Bool} (h : Dfs M G S x0 m0 E0 lo0 bl0 ((y, false) :: s) m E lo bl) (hy : m y = none) (hr : y.1 < G.length ∧ y.2 < S)
  (hn2 : (nxp M G y).length ≤ 2) (h00 : ∀ j, nxp M G (0, j) = [])
  (hE : E' = if nxp M G y = [] ∧ y.1 = 0 then E ++ [y.2] else E) (hbl : bl' = if nxp M G y = [] ∧ y.1 ≠ 0 then true else bl) :
  Dfs M G S x0 m0 E0 lo0 bl0 ((nxp M G y).reverse.map (·, false) ++ (y, true) :: s) (upd m y true) E' lo bl' := by
 obtain ⟨c, hc⟩ := h.ch
 have hch : Chn M G x0 s c ∧ (c = none → y = x0) ∧ ∀ p, c = some p → Edge M G p y := by
  cases hc with
  | vis h1 h2 h3 => exact ⟨h1, h2, h3⟩
 obtain ⟨hc', h1, h2⟩ := hch
 have hni : (y, true) ∉ s := fun hm => by
  have := (h.st y).2 (List.mem_cons_of_mem _ hm)
  rw [hy] at this; cases this
 have h0 : m0 y = none := by
  cases hm : m0 y with
  | none => rfl
  | some b => have := h.ext y b hm; rw [hy] at this; cases this
 have hst := hc'.top h1 h2
 have hmem : ∀ z b, (z, b) ∈ (nxp M G y).reverse.map (fun x => (x, false)) ++ (y, true) :: s ↔ (Edge M G y z ∧ b = false) ∨ (z = y ∧ b = true) ∨ (z, b) ∈ s := by
  intro z b
  unfold Edge
  simp only [List.mem_append, List.mem_map, List.mem_reverse, List.mem_cons, Prod.mk.injEq]
  constructor
  ·rintro (⟨u, k1, rfl, rfl⟩ | ⟨rfl, rfl⟩ | k)
   ·exact .inl ⟨k1, rfl⟩
   ·exact .inr (.inl ⟨rfl, rfl⟩)
   ·exact .inr (.inr k)
  ·rintro (⟨k1, rfl⟩ | ⟨rfl, rfl⟩ | k)
   ·exact .inl ⟨z, k1, rfl, rfl⟩
   ·exact .inr (.inl ⟨rfl, rfl⟩)
   ·exact .inr (.inr k)
 have hlt := unk_lt (N := G.length) (S := S) true hr hy
 constructor
 ·exact h.bk0
 ·exact ⟨some y, Chn.push _ (.lvg hc' h1 h2 hni) (fun z hz => hz)⟩
 ·intro z b hz
  by_cases e : y = z
  ·subst e; rw [h0] at hz; cases hz
  ·rw [upd_ne e]; exact h.ext z b hz
 ·intro z
  rw [hmem]
  by_cases e : y = z
  ·subst e; rw [upd_same]; simp
  ·rw [upd_ne e, h.st z]
   constructor
   ·intro k
    simp at k
    exact .inr (.inr k)
   ·rintro (⟨_, k⟩ | ⟨k, _⟩ | k)
    ·cases k
    ·exact absurd k.symm e
    ·exact List.mem_cons_of_mem _ k
 ·intro z k1 k2
  by_cases e : y = z
  ·subst e; exact hst
  ·rw [upd_ne e] at k2; exact h.new z k1 k2
 ·intro z k1 k2 u hu
  rw [hmem]
  by_cases e : y = z
  ·subst e; exact .inr (.inl ⟨hu, rfl⟩)
  ·rw [upd_ne e] at k2
   rcases h.cl z k1 k2 u hu with k | k
   ·exact .inl (upd_some k)
   ·rcases List.mem_cons.1 k with k | k
    ·cases k; left; rw [upd_same]; simp
    ·exact .inr (.inr (.inr k))
 ·rw [hmem]
  rcases h.hd with k | k
  ·exact .inl (upd_some k)
  ·rcases List.mem_cons.1 k with k | k
   ·cases k; left; rw [upd_same]; simp
   ·exact .inr (.inr (.inr k))
 ·intro j
  rw [hE]
  by_cases e : y = (0, j)
  ·subst e
   rw [if_pos ⟨h00 j, rfl⟩, upd_same]
   simp [h0]
  ·rw [upd_ne e, ← h.fin j]
   split
   ·rename_i hh
    simp only [List.mem_append, List.mem_singleton]
    constructor
    ·rintro (k | k)
     ·exact k
     ·exact absurd (Prod.ext hh.2 k.symm) e
    ·exact .inl
   ·exact Iff.rfl
 ·rw [hbl]
  split
  ·rename_i hh
   exact ⟨fun _ => .inr ⟨y, h0, by rw [upd_same]; simp, hh.1, hh.2⟩, fun _ => rfl⟩
  ·rename_i hh
   rw [h.blk]
   constructor
   ·rintro (k | ⟨z, k1, k2, k3, k4⟩)
    ·exact .inl k
    ·exact .inr ⟨z, k1, upd_some k2, k3, k4⟩
   ·rintro (k | ⟨z, k1, k2, k3, k4⟩)
    ·exact .inl k
    ·have e : y ≠ z := fun e => by subst e; exact hh ⟨k3, k4⟩
     rw [upd_ne e] at k2
     exact .inr ⟨z, k1, k2, k3, k4⟩
 ·exact h.lp1
 ·intro hl
  obtain ⟨k1, k2, k3⟩ := h.lp2 hl
  refine ⟨k1, fun b hb => ?_, fun A B p hs z hz => ?_⟩
  ·by_cases e : y = b
   ·subst e; rw [upd_same] at hb; simp at hb
   ·rw [upd_ne e] at hb; exact k2 b hb
  ·by_cases e : p = y
   ·subst e
    -- the part in front of the leaving of y holds all that is behind y
    have hA : A = (nxp M G p).reverse.map (fun x => (x, false)) ∨ ∃ A', A = (nxp M G p).reverse.map (fun x => (x, false)) ++ (p, true) :: A' := by
     rcases List.append_eq_append_iff.1 hs with ⟨ys, ha, hb⟩ | ⟨bs, ha, hb⟩
     ·cases ys with
      | nil => left; simpa using ha
      | cons a ys =>
       right
       rw [List.cons_append] at hb
       injection hb with hb1 hb2
       subst hb1
       exact ⟨ys, ha⟩
     ·cases bs with
      | nil => left; simpa using ha.symm
      | cons b bs =>
       exfalso
       rw [List.cons_append] at hb
       injection hb with hb1 hb2
       subst hb1
       have : (p, true) ∈ (nxp M G p).reverse.map (fun x => (x, false)) := by rw [ha]; simp
       simp at this
    have hin : (z, false) ∈ (nxp M G p).reverse.map (fun x => (x, false)) := by
     simp only [List.mem_map, List.mem_reverse]
     exact ⟨z, hz, rfl⟩
    rcases hA with rfl | ⟨A', rfl⟩
    ·exact .inr (.inl hin)
    ·exact .inr (.inl (List.mem_append_left _ hin))
   ·-- p lies behind the leaving of y
    have hA : ∃ A', A = (nxp M G y).reverse.map (fun x => (x, false)) ++ (y, true) :: A' ∧ s = A' ++ (p, true) :: B := by
     rcases List.append_eq_append_iff.1 hs with ⟨ys, ha, hb⟩ | ⟨bs, ha, hb⟩
     ·cases ys with
      | nil =>
       exfalso
       simp at hb
       exact e hb.1.symm
      | cons a ys =>
       rw [List.cons_append] at hb
       injection hb with hb1 hb2
       subst hb1
       exact ⟨ys, ha, hb2⟩
     ·cases bs with
      | nil => exfalso; simp at hb; exact e hb.1
      | cons b bs =>
       exfalso
       rw [List.cons_append] at hb
       injection hb with hb1 hb2
       subst hb1
       have : (p, true) ∈ (nxp M G y).reverse.map (fun x => (x, false)) := by rw [ha]; simp
       simp at this
    obtain ⟨A', rfl, hs'⟩ := hA
    rcases k3 ((y, false) :: A') B p (by rw [hs']; rfl) z hz with k | k | k
    ·left
     rw [upd_ne (fun e => by subst e; rw [hy] at k; cases k)]
     exact k
    ·rcases List.mem_cons.1 k with k | k
     ·cases k
      exact .inr (.inr (by simp))
     ·exact .inr (.inl (List.mem_append_right _ (List.mem_cons_of_mem _ k)))
    ·rcases List.mem_cons.1 k with k | k
     ·cases k
     ·exact .inr (.inr (List.mem_append_right _ (List.mem_cons_of_mem _ k)))
 ·have hs := h.sz
  rw [hE]
  split
  ·simp; omega
  ·omega
 ·have ho := h.op
  simp at ho ⊢
  omega
structure Gone (M : Mdl) (G : List Stp) (S : Nat) (x0 : Pt) (m : Mp) (E : List Nat) (lo bl : Bool) (m' : Mp) (E' : List Nat) (lo' bl' : Bool) : Prop where
 bk : ∀ y b, m' y = some b → b = false
 ext : ∀ y b, m y = some b → m' y = some b
 new : ∀ y, m y = none → m' y ≠ none → Star (Edge M G) x0 y ∧ ∀ z, Edge M G y z → m' z ≠ none
 at_ : m' x0 ≠ none
 fin : ∀ j, j ∈ E' ↔ j ∈ E ∨ (m (0, j) = none ∧ m' (0, j) ≠ none)
 blk : bl' = true ↔ bl = true ∨ ∃ y, m y = none ∧ m' y ≠ none ∧ nxp M G y = [] ∧ y.1 ≠ 0
 lp1 : lo' = true → lo = true ∨ Inf M G x0
 lp2 : lo' = false → lo = false ∧ ¬ Inf M G x0
 sz : E'.length + unk G.length S m' ≤ E.length + unk G.length S m
theorem Dfs.done (h : Dfs M G S x0 m0 E0 lo0 bl0 [] m E lo bl) : Gone M G S x0 m0 E0 lo0 bl0 m E lo bl := by
 have hb : ∀ y b, m y = some b → b = false := fun y b hy => by
  cases b with
  | false => rfl
  | true => have := (h.st y).1 hy; cases this
 have hx : m x0 ≠ none := by
  rcases h.hd with k | k
  ·exact k
  ·cases k
 refine ⟨hb, h.ext, fun y k1 k2 => ⟨h.new y k1 k2, fun z hz => ?_⟩, hx, h.fin, h.blk, h.lp1, fun hl => ?_, h.sz⟩
 ·rcases h.cl y k1 k2 z hz with k | k
  ·exact k
  ·cases k
 ·obtain ⟨k1, k2, _⟩ := h.lp2 hl
  refine ⟨k1, k2 x0 ?_⟩
  cases hm : m x0 with
  | none => exact absurd hm hx
  | some b => rw [hb _ _ hm]
structure Wk (M : Mdl) (G : List Stp) (N : Nat) (s : Nat) (S : Nat → Bool) (k : Nat) (m : Mp) (E : List Nat) (lo bl : Bool) : Prop where
 kn : ∀ y, m y ≠ none ↔ ∃ i, i < k ∧ S i = true ∧ Star (Edge M G) (s, i) y
 bk : ∀ y b, m y = some b → b = false
 fin : ∀ j, j ∈ E ↔ m (0, j) ≠ none
 blk : bl = true ↔ ∃ y, m y ≠ none ∧ nxp M G y = [] ∧ y.1 ≠ 0
 lp : lo = true ↔ ∃ i, i < k ∧ S i = true ∧ Inf M G (s, i)
 sz : E.length + unk G.length N m ≤ G.length * N
theorem Wk.zero (M : Mdl) (G : List Stp) (N : Nat) (s : Nat) (S : Nat → Bool) : Wk M G N s S 0 (fun _ => none) [] false false where
 kn := fun y => ⟨fun h => absurd rfl h, fun ⟨i, h, _⟩ => absurd h (by omega)⟩
 bk := fun y b h => by cases h
 fin := fun j => ⟨fun h => by simp at h, fun h => absurd rfl h⟩
 blk := ⟨fun h => by simp at h, fun ⟨y, h, _⟩ => absurd rfl h⟩
 lp := ⟨fun h => by simp at h, fun ⟨i, h, _⟩ => absurd h (by omega)⟩
 sz := by have := unk_bd G.length N (fun _ => none); simpa using this
theorem Wk.skip {N s : Nat} {S : Nat → Bool} {k : Nat} (h : Wk M G N s S k m E lo bl) (hk : S k = false) : Wk M G N s S (k + 1) m E lo bl := by
 have e : ∀ P : Nat → Prop, (∃ i, i < k + 1 ∧ S i = true ∧ P i) ↔ ∃ i, i < k ∧ S i = true ∧ P i := fun P => by
  constructor
  ·rintro ⟨i, h1, h2, h3⟩
   have : i ≠ k := fun e => by subst e; rw [hk] at h2; cases h2
   exact ⟨i, by omega, h2, h3⟩
  ·rintro ⟨i, h1, h2, h3⟩; exact ⟨i, by omega, h2, h3⟩
 exact ⟨fun y => (h.kn y).trans (e _).symm, h.bk, h.fin, h.blk, h.lp.trans (e _).symm, h.sz⟩
theorem Wk.lps {N s : Nat} {S : Nat → Bool} {k : Nat} (h : Wk M G N s S k m E lo bl) : lo = false → ∀ b, m b = some false → ¬ Inf M G b := fun hl b hb hi => by
 obtain ⟨i, h1, h2, h3⟩ := (h.kn b).1 (by rw [hb]; simp)
 have := h.lp.2 ⟨i, h1, h2, hi.star h3⟩
 rw [hl] at this; cases this
theorem Wk.step {N s : Nat} {S : Nat → Bool} {k : Nat} {m' : Mp} {E' : List Nat} {lo' bl' : Bool} (h : Wk M G N s S k m E lo bl) (hk : S k = true) (hw : Gone M G N (s, k) m E lo bl m' E' lo' bl') : Wk M G N s S (k + 1) m' E' lo' bl' := by
 have hne : ∀ y, m y ≠ none → m' y ≠ none := fun y hy => by
  cases hc : m y with
  | none => exact absurd hc hy
  | some b => rw [hw.ext y b hc]; simp
 have hcl : ∀ y z, m' y ≠ none → Edge M G y z → m' z ≠ none := fun y z hy he => by
  by_cases h1 : m y = none
  ·exact (hw.new y h1 hy).2 z he
  ·obtain ⟨i, h2, h3, h4⟩ := (h.kn y).1 h1
   exact hne z ((h.kn z).2 ⟨i, h2, h3, h4.tail he⟩)
 have hcs : ∀ y z, Star (Edge M G) y z → m' y ≠ none → m' z ≠ none := fun y z hs => by
  induction hs with
  | refl => exact id
  | head h1 _ ih => exact fun hy => ih (hcl _ _ hy h1)
 constructor
 ·intro y
  constructor
  ·intro hy
   by_cases h1 : m y = none
   ·exact ⟨k, by omega, hk, (hw.new y h1 hy).1⟩
   ·obtain ⟨i, h2, h3, h4⟩ := (h.kn y).1 h1
    exact ⟨i, by omega, h3, h4⟩
  ·rintro ⟨i, h2, h3, h4⟩
   by_cases e : i = k
   ·subst e; exact hcs _ _ h4 hw.at_
   ·exact hne y ((h.kn y).2 ⟨i, by omega, h3, h4⟩)
 ·exact hw.bk
 ·intro j
  rw [hw.fin j, h.fin j]
  constructor
  ·rintro (h1 | h1)
   ·exact hne _ h1
   ·exact h1.2
  ·intro h1
   by_cases h2 : m (0, j) = none
   ·exact .inr ⟨h2, h1⟩
   ·exact .inl h2
 ·rw [hw.blk, h.blk]
  constructor
  ·rintro (⟨y, h1, h2⟩ | ⟨y, _, h1, h2⟩)
   ·exact ⟨y, hne y h1, h2⟩
   ·exact ⟨y, h1, h2⟩
  ·rintro ⟨y, h1, h2⟩
   by_cases h3 : m y = none
   ·exact .inr ⟨y, h3, h1, h2⟩
   ·exact .inl ⟨y, h3, h2⟩
 ·constructor
  ·intro hl
   rcases hw.lp1 hl with h1 | h1
   ·obtain ⟨i, h2, h3, h4⟩ := h.lp.1 h1
    exact ⟨i, by omega, h3, h4⟩
   ·exact ⟨k, by omega, hk, h1⟩
  ·rintro ⟨i, h2, h3, h4⟩
   cases hl : lo' with
   | true => rfl
   | false =>
    obtain ⟨h5, h6⟩ := hw.lp2 hl
    by_cases e : i = k
    ·subst e; exact absurd h4 h6
    ·have := h.lp.2 ⟨i, by omega, h3, h4⟩
     rw [h5] at this; cases this
 ·have := h.sz
  have := hw.sz
  omega
end
end Go.Proofs.YtgkoljphndgoeaaGreatDoor
namespace Go.Proofs.YtgkoljphndgoeaaGreatDoor
open Go.RowKit Go.ChangeMaps
structure Kp2 (a b : Nat) (w w' : World) : Prop where
 os : w'.os = w.os
 tape : w'.tape = w.tape
 output : w'.output = w.output
 size : w.heap.size ≤ w'.heap.size
 block : ∀ k, k < w.heap.size → k ≠ a → k ≠ b → w'.heap[k]? = w.heap[k]?
theorem Kp2.trans {a b : Nat} {w w1 w2 : World} (h : Kp2 a b w w1) (k : Kp2 a b w1 w2) : Kp2 a b w w2 :=
 ⟨k.os.trans h.os, k.tape.trans h.tape, k.output.trans h.output, Nat.le_trans h.size k.size, fun i hi h1 h2 => (k.block i (Nat.lt_of_lt_of_le hi h.size) h1 h2).trans (h.block i hi h1 h2)⟩
theorem Kp2.of {a b : Nat} {w w' : World} (h : Below w.heap.size w w') : Kp2 a b w w' := ⟨h.os, h.tape, h.output, h.size, fun k hk _ _ => h.block k hk⟩
theorem Blk.kp2 {a b : Nat} {w w' : World} {k : Nat} {cs : Array Value} {t : TypeId} (h : Blk w k cs t) (hk : Kp2 a b w w') (h1 : k ≠ a) (h2 : k ≠ b) : Blk w' k cs t := (hk.block k h.lt h1 h2).trans h
def ptV (p : Pt) : Value := .agg #[.int .i64 p.1, .int .i64 p.2]
def look : List (Pt × Bool) → Pt → Option Bool
 | [], _ => none
 | x :: L, p => if x.1 = p then some x.2 else look L p
def putL : List (Pt × Bool) → Pt → Bool → List (Pt × Bool)
 | [], p, v => [(p, v)]
 | x :: L, p, v => if x.1 = p then (p, v) :: L else x :: putL L p v
theorem look_put (L : List (Pt × Bool)) (p q : Pt) (v : Bool) : look (putL L p v) q = if p = q then some v else look L q := by
 induction L with
 | nil => simp [putL, look]
 | cons x L ih =>
  unfold putL
  by_cases h : x.1 = p
  ·rw [if_pos h]
   simp only [look]
   by_cases h2 : p = q
   ·simp [h2]
   ·rw [if_neg h2, if_neg h2, h, if_neg h2]
  ·rw [if_neg h]
   simp only [look, ih]
   by_cases h2 : x.1 = q
   ·rw [if_pos h2, if_neg (fun e => h (by rw [h2, e])), if_pos h2]
   ·rw [if_neg h2, if_neg h2]
def MapAt (w : World) (b : Nat) (m : Pt → Option Bool) : Prop := ∃ es clock L, w.heap[b]? = some (.map es clock) ∧ es.toList.map (fun e => (e.key, e.val)) = L.map (fun x => (ptV x.1, Value.bool x.2)) ∧ ∀ p, look L p = m p
theorem MapAt.lt {w : World} {b : Nat} {m : Pt → Option Bool} (h : MapAt w b m) : b < w.heap.size := by obtain ⟨es, c, L, h, _⟩ := h; exact (Array.getElem?_eq_some_iff.1 h).1
theorem MapAt.of {w w' : World} {b : Nat} {m : Pt → Option Bool} (h : MapAt w b m) (hb : w'.heap[b]? = w.heap[b]?) : MapAt w' b m := by obtain ⟨es, c, L, h, h2⟩ := h; exact ⟨es, c, L, hb.trans h, h2⟩
theorem MapAt.kept {w w' : World} {b : Nat} {m : Pt → Option Bool} (h : MapAt w b m) (hb : Below w.heap.size w w') : MapAt w' b m := h.of (hb.block b h.lt)
theorem MapAt.setCell {w : World} {b : Nat} {m : Pt → Option Bool} (h : MapAt w b m) {a : Addr} (ha : b ≠ a.block) (v : Value) : MapAt (w.setCell a v) b m := h.of (Below.heap_setCell _ _ _ _ ha)
theorem MapAt.grown {w w' : World} {b : Nat} {m : Pt → Option Bool} {row : Option Nat} (h : MapAt w b m) (hg : w.grownBy w' row) (hr : row ≠ some b) : MapAt w' b m := h.of (hg.block b h.lt (fun e => hr e.symm))
theorem ptV_inj {p q : Pt} (h : ptV p = ptV q) : p = q := by
 unfold ptV at h
 injection h with h
 injection h with h
 simp at h
 exact Prod.ext (by omega) (by omega)
theorem MapAt.uniq {w : World} {b : Nat} {m m' : Pt → Option Bool} (h : MapAt w b m) (h' : MapAt w b m') : m = m' := by
 obtain ⟨es, c, L, h1, h2, h3⟩ := h
 obtain ⟨es', c', L', h1', h2', h3'⟩ := h'
 rw [h1] at h1'
 injection h1' with h1'
 injection h1' with h1' _
 subst h1'
 have : L = L' := by
  have e := h2.symm.trans h2'
  clear h2 h2' h1 h3 h3'
  induction L generalizing L' with
  | nil => cases L' with
   | nil => rfl
   | cons y L' => simp at e
  | cons x L ih => cases L' with
   | nil => simp at e
   | cons y L' =>
    simp only [List.map_cons, List.cons.injEq, Prod.mk.injEq] at e
    obtain ⟨⟨e1, e2⟩, e3⟩ := e
    rw [ih _ e3, Prod.ext (ptV_inj e1) (by injection e2)]
 subst this
 funext p
 exact (h3 p).symm.trans (h3' p)
noncomputable def mapIn (w : World) (b : Nat) : Pt → Option Bool := by
 classical exact if h : ∃ m, MapAt w b m then Classical.choose h else fun _ => none
theorem MapAt.inn {w : World} {b : Nat} {m : Pt → Option Bool} (h : MapAt w b m) : mapIn w b = m := by
 unfold mapIn
 rw [dif_pos ⟨m, h⟩]
 exact (Classical.choose_spec (⟨m, h⟩ : ∃ m, MapAt w b m)).uniq h
theorem structPt : Tryz.prog.underlying 221 = some (.struct (Tryz.prog.fieldsOf 221)) := by kernel_rfl
theorem stoodPt : Tryz.prog.stoodInHeld 221 = false := by kernel_rfl
theorem fieldsPt : ∃ a b, (Tryz.prog.fieldsOf 221).toList = [a, b] ∧ (a.name = "_") = False ∧ a.type = 3 ∧ a.offset = 0 ∧ (b.name = "_") = False ∧ b.type = 3 ∧ b.offset = 1 :=
 ⟨(Tryz.prog.fieldsOf 221).toList[0]!, (Tryz.prog.fieldsOf 221).toList[1]!, by kernel_rfl, by simp; decide +kernel, by kernel_rfl, by kernel_rfl, by simp; decide +kernel, by kernel_rfl, by kernel_rfl⟩
theorem equal_pt (p q : Pt) (w : World) : (Op.equal 221 (ptV p) (ptV q)).run Tryz.prog w = .ok (decide (p = q)) w := by
 obtain ⟨a, b, h0, h1, h2, h3, h4, h5, h6⟩ := fieldsPt
 unfold ptV Op.equal Op.maxDepth
 rw [run_equalIn_struct w _ _ _ _ structPt stoodPt, h0]
 have e : (p = q) ↔ p.1 = q.1 ∧ p.2 = q.2 := Prod.ext_iff
 have i0 := Tryz.prog.underlying 3
 by_cases c1 : p.1 = q.1 <;> by_cases c2 : p.2 = q.2 <;> simp [Op.eqFields, go_sem, h1, h2, h3, h4, h5, h6, c1, c2, e] <;> omega
theorem check_pt (e : Bool) (p : Pt) (w : World) : (Instr.checkKey e 10000 221 (ptV p)).run Tryz.prog w = .ok () w := by kernel_rfl
def enp (e : MapEntry) : Value × Value := (e.key, e.val)
def enl (x : Pt × Bool) : Value × Value := (ptV x.1, Value.bool x.2)
theorem find_pt (p : Pt) : ∀ (L : List (Pt × Bool)) (es : List MapEntry) (i : Nat), es.map enp = L.map enl →
  (look L p = none ∧ (∀ w, (Instr.findAsking 221 (ptV p) es i).run Tryz.prog w = .ok none w) ∧ ∀ v, putL L p v = L ++ [(p, v)]) ∨
  (∃ j e c, es[j]? = some e ∧ e.key = ptV p ∧ e.val = .bool c ∧ look L p = some c ∧ (∀ w, (Instr.findAsking 221 (ptV p) es i).run Tryz.prog w = .ok (some (i + j, .bool c)) w) ∧ ∀ v, (es.modify j (fun e => { e with key := ptV p, val := .bool v })).map enp = (putL L p v).map enl) := by
 intro L
 induction L with
 | nil =>
  intro es i h
  cases es with
  | nil => exact .inl ⟨rfl, fun w => by simp [Instr.findAsking], fun v => rfl⟩
  | cons e es => simp at h
 | cons x L ih =>
  intro es i h
  cases es with
  | nil => simp at h
  | cons e es =>
   simp only [List.map_cons, List.cons.injEq] at h
   obtain ⟨h1, h2⟩ := h
   unfold enp enl at h1
   injection h1 with k1 k2
   by_cases hx : x.1 = p
   ·refine .inr ⟨0, e, x.2, rfl, by rw [k1, hx], k2, by simp [look, hx], ?_, ?_⟩
    ·intro w; simp [Instr.findAsking, k1, equal_pt, hx, k2, Result.andThen]
    ·intro v
     simp only [List.modify_zero_cons, List.map_cons, h2, putL, if_pos hx]
     rfl
   ·have hx' : ¬ p = x.1 := fun e => hx e.symm
    rcases ih es (i + 1) h2 with ⟨a1, a2, a3⟩ | ⟨j, e', c, b1, b2, b3, b4, b5, b6⟩
    ·refine .inl ⟨by simp [look, hx, a1], fun w => ?_, fun v => by simp [putL, hx, a3]⟩
     simp [Instr.findAsking, k1, equal_pt, hx', Result.andThen, a2]
    ·refine .inr ⟨j + 1, e', c, by simpa using b1, b2, b3, by simp [look, hx, b4], ?_, ?_⟩
     ·intro w
      simp [Instr.findAsking, k1, equal_pt, hx', Result.andThen, b5]
      omega
     ·intro v
      simp only [List.modify_succ_cons, List.map_cons, b6, putL, if_neg hx]
      unfold enp enl
      rw [k1, k2]
theorem mapT : Tryz.prog.underlying 197 = some (.map 221 4) := by kernel_rfl
theorem findKey_pt (p : Pt) (w : World) (L : List (Pt × Bool)) (es : List MapEntry) (h : es.map enp = L.map enl) : (Instr.findKey 221 (ptV p) es).run Tryz.prog w = (Instr.findAsking 221 (ptV p) es 0).run Tryz.prog w := by
 cases es with
 | nil => simp [Instr.findKey, run_underlying structPt, Instr.findNow, Instr.findAsking]
 | cons e es => simp [Instr.findKey, run_underlying structPt, Instr.findNow, Instr.sameNow]
theorem look_run {w : World} {b : Nat} {m : Pt → Option Bool} (h : MapAt w b m) (p : Pt) : (Instr.lookup 197 (.map (some b)) (ptV p) true).run Tryz.prog w = .ok (.tuple #[.bool ((m p).getD false), .bool (m p).isSome]) w := by
 obtain ⟨es, c, L, hb, he, hm⟩ := h
 rw [← hm p]
 rcases find_pt p L es.toList 0 he with ⟨a1, a2, _⟩ | ⟨j, e', v, b1, b2, b3, b4, b5, _⟩
 ·simp [Instr.lookup, run_underlying mapT, MapKept.run_getObj_map hb, check_pt, findKey_pt p w L es.toList he, a1, a2, Result.andThen]
 ·simp [Instr.lookup, run_underlying mapT, MapKept.run_getObj_map hb, check_pt, findKey_pt p w L es.toList he, b4, b5, Result.andThen]
theorem stays_pt (p : Pt) (w : World) : (Instr.keyThatStays (ptV p) (ptV p)).run Tryz.prog w = .ok (ptV p) w := by
 have : Instr.sameBits 10000 (ptV p) (ptV p) = true := by
  show Instr.sameBits (9998 + 2) (ptV p) (ptV p) = true
  unfold ptV
  simp [Instr.sameBits]
 simp [Instr.keyThatStays, this]
theorem store_run {w : World} {b : Nat} {m : Pt → Option Bool} (h : MapAt w b m) (p : Pt) (v : Bool) :
  ∃ o, (∀ w' : World, w'.heap[b]? = w.heap[b]? → (Instr.mapUpdate 197 (.map (some b)) (ptV p) (.bool v)).run Tryz.prog w' = .ok () (setBlock w' b o)) ∧
   ∀ w' : World, b < w'.heap.size → MapAt (setBlock w' b o) b (fun q => if p = q then some v else m q) := by
 obtain ⟨es, c, L, hb, he, hm⟩ := h
 rcases find_pt p L es.toList 0 he with ⟨a1, a2, a3⟩ | ⟨j, e', u, b1, b2, b3, b4, b5, b6⟩
 ·refine ⟨.map (es.push { key := ptV p, val := .bool v, born := c }) (c + 1), fun w' hw => ?_, fun w' hlt => ?_⟩
  ·have hb' : w'.heap[b]? = some (.map es c) := hw.trans hb
   simp [Instr.mapUpdate, run_underlying mapT, MapKept.run_getObj_map hb', check_pt, findKey_pt p w' L es.toList he, a2, MapKept.run_setObj_map _ hb', Result.andThen, setBlock]
  ·refine ⟨es.push { key := ptV p, val := .bool v, born := c }, c + 1, putL L p v, by simp [setBlock, hlt], ?_, fun q => by rw [look_put, hm]⟩
   rw [a3]
   simp only [Array.toList_push, List.map_append]
   rw [he]
   rfl
 ·refine ⟨.map (es.modify j (fun e => { e with key := ptV p, val := .bool v })) c, fun w' hw => ?_, fun w' hlt => ?_⟩
  ·have hb' : w'.heap[b]? = some (.map es c) := hw.trans hb
   have hj : es[j]? = some e' := by simpa using b1
   simp [Instr.mapUpdate, run_underlying mapT, MapKept.run_getObj_map hb', check_pt, findKey_pt p w' L es.toList he, b5, hj, b2, stays_pt, MapKept.run_setObj_map _ hb', Result.andThen, setBlock]
  ·refine ⟨es.modify j (fun e => { e with key := ptV p, val := .bool v }), c, putL L p v, by simp [setBlock, hlt], ?_, fun q => by rw [look_put, hm]⟩
   rw [Array.toList_modify]
   exact b6 v
end Go.Proofs.YtgkoljphndgoeaaGreatDoor
