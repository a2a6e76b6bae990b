/-
  Plain mathematics of runs: where a program ends, where it is blocked, where it may go on for ever; the flow of a program as a graph of stops; the graph's runs are the program's. Nothing of the program stands here.
-/
import Derived.Test.YtheclmdpiijakaaPgW
namespace Go.Proofs.Ytheclmdpiijakaa

/-- What assignments and tests do with the number of a state. -/
structure Mdl where
  a : UInt8 → Tm → Nat → Nat
  t : Tm → Nat → Bool

inductive Star {α : Type} (R : α → α → Prop) : α → α → Prop
  | refl (i : α) : Star R i i
  | head {i j k : α} : R i j → Star R j k → Star R i k
theorem Star.one {α : Type} {R : α → α → Prop} {i j : α} (h : R i j) : Star R i j := .head h (.refl _)
theorem Star.trans {α : Type} {R : α → α → Prop} {i j k : α} (h : Star R i j) (h' : Star R j k) : Star R i k := by
  induction h with
  | refl => exact h'
  | head h1 _ ih => exact .head h1 (ih h')
theorem Star.tail {α : Type} {R : α → α → Prop} {i j k : α} (h : Star R i j) (h' : R j k) : Star R i k := h.trans (.one h')

section
variable (M : Mdl)
/-- The final states. -/
def Fin : Pg → Nat → Nat → Prop
  | .skip, i, j => j = i
  | .asg v e, i, j => j = M.a v e i
  | .seq p q, i, j => ∃ m, Fin p i m ∧ Fin q m j
  | .ite t p q, i, j => if M.t t i = true then Fin p i j else Fin q i j
  | .whl t p, i, j => Star (fun u v => M.t t u = true ∧ Fin p u v) i j ∧ M.t t j = false
  | .cho p q, i, j => Fin p i j ∨ Fin q i j
  | .asm t, i, j => M.t t i = true ∧ j = i
/-- A run is blocked. -/
def Stk : Pg → Nat → Prop
  | .skip, _ => False
  | .asg _ _, _ => False
  | .seq p q, i => Stk p i ∨ ∃ m, Fin M p i m ∧ Stk q m
  | .ite t p q, i => if M.t t i = true then Stk p i else Stk q i
  | .whl t p, i => ∃ j, Star (fun u v => M.t t u = true ∧ Fin M p u v) i j ∧ M.t t j = true ∧ Stk p j
  | .cho p q, i => Stk p i ∨ Stk q i
  | .asm t, i => M.t t i = false
/-- A run goes on for ever. -/
def Lps : Pg → Nat → Prop
  | .skip, _ => False
  | .asg _ _, _ => False
  | .seq p q, i => Lps p i ∨ ∃ m, Fin M p i m ∧ Lps q m
  | .ite t p q, i => if M.t t i = true then Lps p i else Lps q i
  | .whl t p, i => ∃ j, Star (fun u v => M.t t u = true ∧ Fin M p u v) i j ∧ M.t t j = true ∧ (Lps p j ∨ ∃ S : Nat → Prop, S j ∧ ∀ u, S u → M.t t u = true ∧ ∃ v, Fin M p u v ∧ S v)
  | .cho p q, i => Lps p i ∨ Lps q i
  | .asm _, _ => False
end

/-! ### Graphs of stops -/
structure Stp where
  d : Option Pg
  nx : List Nat
abbrev Pt := Nat × Nat

def gd (M : Mdl) (t : Tm) (nx : List Nat) (i : Nat) : List Pt := if M.t t i = true then (nx.take 1).map (·, i) else (nx.drop 1).map (·, i)
def after (M : Mdl) (s : Stp) (i : Nat) : List Pt :=
  match s.d with
  | some (.asg v e) => s.nx.map (·, M.a v e i)
  | some (.ite t _ _) => gd M t s.nx i
  | some (.whl t _) => gd M t s.nx i
  | some (.asm t) => gd M t s.nx i
  | _ => s.nx.map (·, i)
def nxp (M : Mdl) (G : List Stp) (x : Pt) : List Pt :=
  match G[x.1]? with
  | none => []
  | some s => after M s x.2
def Edge (M : Mdl) (G : List Stp) (x y : Pt) : Prop := y ∈ nxp M G x

def Lay (G : List Stp) : Pg → Nat → Nat → Prop
  | .skip, s, a => G[s]? = some ⟨some .skip, [a]⟩
  | .asg v e, s, a => G[s]? = some ⟨some (.asg v e), [a]⟩
  | .seq p q, s, a => ∃ m, Lay G p s m ∧ Lay G q m a
  | .ite t p q, s, a => ∃ m1 m2, G[s]? = some ⟨some (.ite t p q), [m1, m2]⟩ ∧ Lay G p m1 a ∧ Lay G q m2 a
  | .whl t p, s, a => ∃ m, G[s]? = some ⟨some (.whl t p), [m, a]⟩ ∧ Lay G p m s
  | .cho p q, s, a => ∃ m1 m2, G[s]? = some ⟨some (.cho p q), [m1, m2]⟩ ∧ Lay G p m1 a ∧ Lay G q m2 a
  | .asm t, s, a => G[s]? = some ⟨some (.asm t), [a]⟩

/-- The flow that is laid, and its first stop. -/
def layF : Pg → Nat → List Stp → List Stp × Nat
  | .skip, a, G => (G ++ [⟨some .skip, [a]⟩], G.length)
  | .asg v e, a, G => (G ++ [⟨some (.asg v e), [a]⟩], G.length)
  | .asm t, a, G => (G ++ [⟨some (.asm t), [a]⟩], G.length)
  | .seq p q, a, G => layF p (layF q a G).2 (layF q a G).1
  | .ite t p q, a, G => ((layF q a (layF p a G).1).1 ++ [⟨some (.ite t p q), [(layF p a G).2, (layF q a (layF p a G).1).2]⟩], (layF q a (layF p a G).1).1.length)
  | .cho p q, a, G => ((layF q a (layF p a G).1).1 ++ [⟨some (.cho p q), [(layF p a G).2, (layF q a (layF p a G).1).2]⟩], (layF q a (layF p a G).1).1.length)
  | .whl t p, a, G => ((layF p G.length (G ++ [⟨some (.whl t p), [0, a]⟩])).1.set G.length ⟨some (.whl t p), [(layF p G.length (G ++ [⟨some (.whl t p), [0, a]⟩])).2, a]⟩, G.length)

/-- What is laid lies behind what was there. -/
structure LayOk (p : Pg) (a : Nat) (G G1 : List Stp) (s : Nat) : Prop where
  len : G.length < G1.length
  old : ∀ k, k < G.length → G1[k]? = G[k]?
  lo : G.length ≤ s
  hi : s < G1.length
  lay : ∀ G' : List Stp, (∀ k, G.length ≤ k → k < G1.length → G'[k]? = G1[k]?) → Lay G' p s a
  bd : ∀ n, G1.length ≤ n → a < n → (∀ (k : Nat), k < G.length → ∀ (x : Stp), G[k]? = some x → ∀ (m : Nat), m ∈ x.nx → m < n) → ∀ (k : Nat) (x : Stp), G1[k]? = some x → ∀ (m : Nat), m ∈ x.nx → m < n

theorem bd_one {G : List Stp} {x : Stp} {n : Nat} (h : ∀ (k : Nat) (y : Stp), G[k]? = some y → ∀ (m : Nat), m ∈ y.nx → m < n) (hx : ∀ (m : Nat), m ∈ x.nx → m < n) : ∀ (k : Nat) (y : Stp), (G ++ [x])[k]? = some y → ∀ (m : Nat), m ∈ y.nx → m < n := by
  intro k y hk
  by_cases h1 : k < G.length
  · rw [List.getElem?_append_left h1] at hk
    exact h k y hk
  · rw [List.getElem?_append_right (by omega)] at hk
    by_cases h2 : k = G.length
    · subst h2
      simp at hk
      subst hk
      exact hx
    · rw [List.getElem?_eq_none (by simp; omega)] at hk
      cases hk
theorem getG_lt {G : List Stp} {k : Nat} {x : Stp} (h : G[k]? = some x) : k < G.length := by
  rcases Nat.lt_or_ge k G.length with h1 | h1
  · exact h1
  · rw [List.getElem?_eq_none h1] at h; cases h

theorem layOk_one (p : Pg) (a : Nat) (G : List Stp) (hl : ∀ G' : List Stp, G'[G.length]? = some ⟨some p, [a]⟩ → Lay G' p G.length a) : LayOk p a G (G ++ [⟨some p, [a]⟩]) G.length where
  len := by simp
  old := fun k hk => List.getElem?_append_left hk
  lo := Nat.le_refl _
  hi := by simp
  lay := fun G' h => hl G' (by rw [h _ (Nat.le_refl _) (by simp)]; simp)
  bd := fun n _ ha h => bd_one (fun k x hk => h k (getG_lt hk) x hk) (by simpa using ha)

theorem layOk_two {p q P : Pg} {a : Nat} {G G1 G2 : List Stp} {m1 m2 : Nat} (h1 : LayOk p a G G1 m1) (h2 : LayOk q a G1 G2 m2)
    (hl : ∀ G' : List Stp, G'[G2.length]? = some ⟨some P, [m1, m2]⟩ → Lay G' p m1 a → Lay G' q m2 a → Lay G' P G2.length a) : LayOk P a G (G2 ++ [⟨some P, [m1, m2]⟩]) G2.length where
  len := by have := h1.len; have := h2.len; simp; omega
  old := fun k hk => by
    have := h1.len; have := h2.len
    rw [List.getElem?_append_left (by omega), h2.old k (by omega), h1.old k hk]
  lo := by have := h1.len; have := h2.len; omega
  hi := by simp
  lay := fun G' h => by
    have l1 := h1.len
    have l2 := h2.len
    refine hl G' ?_ ?_ ?_
    · rw [h _ (by omega) (by simp)]; simp
    · refine h1.lay G' fun k hk hk2 => ?_
      rw [h k hk (by simp; omega), List.getElem?_append_left (by omega), h2.old k hk2]
    · refine h2.lay G' fun k hk hk2 => ?_
      rw [h k (by omega) (by simp; omega), List.getElem?_append_left hk2]
  bd := fun n hn ha h => by
    have l1 := h1.len
    have l2 := h2.len
    have i1 := h1.hi
    have i2 := h2.hi
    simp at hn
    have b1 := h1.bd n (by omega) ha h
    have b2 := h2.bd n (by omega) ha (fun k _ x hk => b1 k x hk)
    refine bd_one b2 ?_
    simp
    omega

theorem layF_ok (p : Pg) : ∀ (a : Nat) (G : List Stp), LayOk p a G (layF p a G).1 (layF p a G).2 := by
  induction p with
  | skip => exact fun a G => layOk_one _ a G fun G' h => h
  | asg v e => exact fun a G => layOk_one _ a G fun G' h => h
  | asm t => exact fun a G => layOk_one _ a G fun G' h => h
  | seq p q ihp ihq =>
    intro a G
    have h2 := ihq a G
    have h1 := ihp (layF q a G).2 (layF q a G).1
    have l1 := h1.len
    have l2 := h2.len
    have i1 := h1.hi
    have i2 := h2.hi
    have o1 := h1.lo
    constructor
    · simp only [layF]; omega
    · intro k hk; simp only [layF]; rw [h1.old k (by omega), h2.old k hk]
    · simp only [layF]; omega
    · exact i1
    · intro G' h
      simp only [layF] at h
      refine ⟨_, h1.lay G' fun k hk hk2 => h k (by omega) hk2, h2.lay G' fun k hk hk2 => ?_⟩
      rw [h k hk (by omega), h1.old k hk2]
    · intro n hn ha h
      simp only [layF] at hn ⊢
      have b2 := h2.bd n (by omega) ha h
      exact h1.bd n hn (by omega) (fun k _ x hk => b2 k x hk)
  | ite t p q ihp ihq => exact fun a G => layOk_two (ihp a G) (ihq a _) fun G' h1 h2 h3 => ⟨_, _, h1, h2, h3⟩
  | cho p q ihp ihq => exact fun a G => layOk_two (ihp a G) (ihq a _) fun G' h1 h2 h3 => ⟨_, _, h1, h2, h3⟩
  | whl t p ihp =>
    intro a G
    have h1 := ihp G.length (G ++ [⟨some (.whl t p), [0, a]⟩])
    have l1 := h1.len
    have i1 := h1.hi
    have o1 := h1.lo
    simp at l1 o1
    constructor
    · simp only [layF, List.length_set]; omega
    · intro k hk
      simp only [layF]
      rw [List.getElem?_set_ne (by omega), h1.old k (by simp; omega), List.getElem?_append_left hk]
    · exact Nat.le_refl _
    · simp only [layF, List.length_set]; omega
    · intro G' h
      simp only [layF, List.length_set] at h
      refine ⟨_, ?_, h1.lay G' fun k hk hk2 => ?_⟩
      · simp only [layF]
        rw [h _ (Nat.le_refl _) (by omega), List.getElem?_set_self (by omega)]
      · simp at hk
        rw [h k (by omega) hk2, List.getElem?_set_ne (by omega)]
    · intro n hn ha h
      simp only [layF, List.length_set] at hn ⊢
      have b := h1.bd n hn (by omega) (by
        intro k hk x hx
        refine bd_one (fun k y hk => h k (getG_lt hk) y hk) ?_ k x hx
        simp; omega)
      intro k x hk
      by_cases e : k = G.length
      · subst e
        rw [List.getElem?_set_self (by omega)] at hk
        injection hk with hk
        subst hk
        simp; omega
      · rw [List.getElem?_set_ne (by omega)] at hk
        exact b k x hk
end Go.Proofs.Ytheclmdpiijakaa
