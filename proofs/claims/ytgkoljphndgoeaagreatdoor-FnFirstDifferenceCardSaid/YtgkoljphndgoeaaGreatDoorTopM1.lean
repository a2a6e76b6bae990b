import Derived.Test.YtgkoljphndgoeaaGreatDoorTopV
import Derived.Test.YtgkoljphndgoeaaGreatDoorMo
import Derived.Test.YtgkoljphndgoeaaGreatDoorWk4
import Derived.Test.YtgkoljphndgoeaaGreatDoorTopL1
namespace Go.Proofs.YtgkoljphndgoeaaGreatDoor
abbrev Nd := Pt × Pt
section
variable {M : Mdl} {G H : List Stp}
def pnx (M : Mdl) (G H : List Stp) (n : Nd) : List Nd := if n.1.1 ≠ 0 then (nxp M G n.1).map (·, n.2) else (nxp M H n.2).map (n.1, ·)
def PE (M : Mdl) (G H : List Stp) (n z : Nd) : Prop := z ∈ pnx M G H n
theorem pe_left {x x' y : Pt} (h : Top G) (he : Edge M G x x') : PE M G H (x, y) (x', y) := by
 have h0 : x.1 ≠ 0 := fun e => by
  obtain ⟨k, i⟩ := x
  simp only at e
  subst e
  unfold Edge at he
  rw [nx_end h] at he; cases he
 unfold PE pnx
 rw [if_pos h0]
 exact List.mem_map.2 ⟨x', he, rfl⟩
theorem pe_right {x y y' : Pt} (h0 : x.1 = 0) (he : Edge M H y y') : PE M G H (x, y) (x, y') := by
 unfold PE pnx
 rw [if_neg (by simpa using h0)]
 exact List.mem_map.2 ⟨y', he, rfl⟩
theorem pe_or {n z : Nd} (h : PE M G H n z) : (Edge M G n.1 z.1 ∧ z.2 = n.2) ∨ (n.1.1 = 0 ∧ Edge M H n.2 z.2 ∧ z.1 = n.1) := by
 unfold PE pnx at h
 split at h
 ·obtain ⟨x, hx, rfl⟩ := List.mem_map.1 h
  exact .inl ⟨hx, rfl⟩
 ·rename_i h0
  obtain ⟨x, hx, rfl⟩ := List.mem_map.1 h
  exact .inr ⟨by simpa using h0, hx, rfl⟩
theorem star_or {n z : Nd} (h : Star (PE M G H) n z) : Star (Edge M G) n.1 z.1 ∧ Star (Edge M H) n.2 z.2 := by
 induction h with
 | refl => exact ⟨.refl _, .refl _⟩
 | head h1 _ ih =>
  rcases pe_or h1 with ⟨k1, k2⟩ | ⟨_, k1, k2⟩
  ·exact ⟨.head k1 ih.1, k2 ▸ ih.2⟩
  ·exact ⟨k2 ▸ ih.1, .head k1 ih.2⟩
theorem star_left {x x' y : Pt} (hT : Top G) (h : Star (Edge M G) x x') : Star (PE M G H) (x, y) (x', y) := by
 induction h with
 | refl => exact .refl _
 | head h1 _ ih => exact .head (pe_left hT h1) ih
theorem star_right {x y y' : Pt} (h0 : x.1 = 0) (h : Star (Edge M H) y y') : Star (PE M G H) (x, y) (x, y') := by
 induction h with
 | refl => exact .refl _
 | head h1 _ ih => exact .head (pe_right h0 h1) ih
theorem pair_ends {x y : Pt} {a b : Nat} (hT : Top G) : Star (PE M G H) (x, y) ((0, a), (0, b)) ↔ Star (Edge M G) x (0, a) ∧ Star (Edge M H) y (0, b) := by
 constructor
 ·exact fun h => star_or h
 ·rintro ⟨h1, h2⟩
  exact (star_left hT h1).trans (star_right rfl h2)
abbrev Mq := Nd → Option (List Nd)
def updq (m : Mq) (p : Nd) (l : List Nd) : Mq := fun q => if p = q then some l else m q
theorem updq_same (m : Mq) (p : Nd) (l : List Nd) : updq m p l p = some l := by simp [updq]
theorem updq_ne {m : Mq} {p q : Nd} {l : List Nd} (h : p ≠ q) : updq m p l q = m q := by simp [updq, h]
def delq (m : Mq) (p : Nd) : Mq := fun q => if p = q then none else m q
theorem delq_same (m : Mq) (p : Nd) : delq m p p = none := by simp [delq]
theorem delq_ne {m : Mq} {p q : Nd} (h : p ≠ q) : delq m p q = m q := by simp [delq, h]
def uni2 (N N' S : Nat) : List Nd := (univ N S).flatMap fun x => (univ N' S).map fun y => (x, y)
theorem mem_uni2 {N N' S : Nat} {n : Nd} : n ∈ uni2 N N' S ↔ (n.1.1 < N ∧ n.1.2 < S) ∧ n.2.1 < N' ∧ n.2.2 < S := by
 unfold uni2
 simp only [List.mem_flatMap, List.mem_map, mem_univ]
 constructor
 ·rintro ⟨x, hx, y, hy, rfl⟩; exact ⟨hx, hy⟩
 ·rintro ⟨h1, h2⟩; exact ⟨n.1, h1, n.2, h2, rfl⟩
theorem univ_nodup (N S : Nat) : (univ N S).Nodup := by
 unfold univ
 induction N with
 | zero => simp
 | succ n ih =>
  rw [List.range_succ, List.flatMap_append]
  refine List.nodup_append.2 ⟨ih, ?_, ?_⟩
  ·simp only [List.flatMap_cons, List.flatMap_nil, List.append_nil]
   exact List.Pairwise.map _ (fun a b h => by simpa using h) List.nodup_range
  ·intro a ha b hb
   simp only [List.mem_flatMap, List.mem_range, List.mem_map, List.mem_singleton] at ha hb
   obtain ⟨k, hk, i, _, rfl⟩ := ha
   obtain ⟨k', rfl, i', _, rfl⟩ := hb
   simp; omega
theorem uni2_nodup (N N' S : Nat) : (uni2 N N' S).Nodup := by
 unfold uni2
 have h := univ_nodup N S
 generalize univ N S = l at h
 induction l with
 | nil => simp
 | cons a l ih =>
  rw [List.flatMap_cons]
  rw [List.nodup_cons] at h
  refine List.nodup_append.2 ⟨List.Pairwise.map _ (fun a b h => by simpa using h) (univ_nodup N' S), ih h.2, ?_⟩
  intro x hx y hy
  simp only [List.mem_flatMap, List.mem_map] at hx hy
  obtain ⟨i, _, rfl⟩ := hx
  obtain ⟨k, hk, j, _, rfl⟩ := hy
  intro e
  injection e with e1 e2
  subst e1
  exact h.1 hk
theorem uni2_len (N N' S : Nat) : (uni2 N N' S).length = N * S * (N' * S) := by
 unfold uni2
 rw [← univ_len N S, ← univ_len N' S]
 generalize univ N S = l
 induction l with
 | nil => simp
 | cons a l ih => rw [List.flatMap_cons, List.length_append, ih]; simp [Nat.succ_mul]; omega
def unkq (U : List Nd) (m : Mq) : Nat := U.countP fun x => (m x).isNone
def rlen (m : Mq) (n : Nd) : Nat := ((m n).getD []).length
def sumq (U : List Nd) (m : Mq) : Nat := (U.map (rlen m)).sum
theorem sum_congr {U : List Nd} {f g : Nd → Nat} (h : ∀ x, x ∈ U → f x = g x) : (U.map f).sum = (U.map g).sum := by
 rw [List.map_congr_left h]
theorem sum_one {U : List Nd} {f g : Nd → Nat} {z : Nd} (hn : U.Nodup) (hz : z ∈ U) (h : ∀ x, x ≠ z → f x = g x) : (U.map f).sum + g z = (U.map g).sum + f z := by
 induction U with
 | nil => cases hz
 | cons a U ih =>
  rw [List.nodup_cons] at hn
  simp only [List.map_cons, List.sum_cons]
  rcases List.mem_cons.1 hz with rfl | hz'
  ·have := sum_congr (U := U) (f := f) (g := g) fun x hx => h x fun e => hn.1 (e ▸ hx)
   omega
  ·have h1 := ih hn.2 hz'
   have h2 := h a fun e => hn.1 (e ▸ hz')
   omega
theorem count_one {U : List Nd} {p q : Nd → Bool} {z : Nd} (hn : U.Nodup) (hz : z ∈ U) (h : ∀ x, x ≠ z → p x = q x) (hp : p z = true) (hq : q z = false) : U.countP p = U.countP q + 1 := by
 induction U with
 | nil => cases hz
 | cons a U ih =>
  rw [List.nodup_cons] at hn
  simp only [List.countP_cons]
  rcases List.mem_cons.1 hz with rfl | hz'
  ·have : U.countP p = U.countP q := List.countP_congr fun x hx => by rw [h x fun e => hn.1 (e ▸ hx)]
   rw [hp, hq, this]; simp
  ·have h1 := ih hn.2 hz'
   have h2 := h a fun e => hn.1 (e ▸ hz')
   rw [h1, h2]; omega
theorem unkq_upd {U : List Nd} {m : Mq} {z : Nd} {l : List Nd} (hn : U.Nodup) (hz : z ∈ U) (h : m z = none) : unkq U m = unkq U (updq m z l) + 1 :=
 count_one hn hz (fun x hx => by rw [updq_ne (fun e => hx e.symm)]) (by rw [h]; rfl) (by rw [updq_same]; rfl)
theorem unkq_old {U : List Nd} {m : Mq} {z : Nd} {l l' : List Nd} (h : m z = some l) : unkq U (updq m z l') = unkq U m := by
 unfold unkq
 apply List.countP_congr
 intro x _
 by_cases e : z = x
 ·subst e; rw [updq_same, h]; simp
 ·rw [updq_ne e]
theorem sumq_upd {U : List Nd} {m : Mq} {z : Nd} {l : List Nd} (hn : U.Nodup) (hz : z ∈ U) : sumq U (updq m z l) + rlen m z = sumq U m + l.length := by
 have := sum_one (f := rlen (updq m z l)) (g := rlen m) hn hz (fun x hx => by unfold rlen; rw [updq_ne (fun e => hx e.symm)])
 rw [show rlen (updq m z l) z = l.length by unfold rlen; rw [updq_same]; rfl] at this
 exact this
theorem sumq_del {U : List Nd} {m : Mq} {z : Nd} (hn : U.Nodup) (hz : z ∈ U) : sumq U (delq m z) + rlen m z = sumq U m := by
 have := sum_one (f := rlen (delq m z)) (g := rlen m) hn hz (fun x hx => by unfold rlen; rw [delq_ne (fun e => hx e.symm)])
 rw [show rlen (delq m z) z = 0 by unfold rlen; rw [delq_same]; rfl] at this
 exact this
structure Wlk (M : Mdl) (G H : List Stp) (S : Nat) (T : Nd → Prop) (m : Mq) (O : List Nd) (q : Option Nd) (Q : List Nd) : Prop where
 rc : ∀ n, m n ≠ none → ∃ t, T t ∧ Star (PE M G H) t n
 un : ∀ n, m n ≠ none → n ∈ uni2 G.length H.length S
 cl : ∀ n, m n ≠ none → n ∈ O ∨ ∀ z, PE M G H n z → (∃ l, m z = some l ∧ n ∈ l) ∨ (q = some n ∧ z ∈ Q)
 sd : ∀ z l, m z = some l → ∀ n, n ∈ l → PE M G H n z ∧ m n ≠ none
 op : ∀ n, n ∈ O → m n ≠ none
 qk : ∀ n, q = some n → m n ≠ none ∧ ∀ z, z ∈ Q → PE M G H n z
 sz : sumq (uni2 G.length H.length S) m + Q.length + 2 * (O.length + unkq (uni2 G.length H.length S) m) ≤ 2 * (G.length * S * (H.length * S))
variable {S : Nat} {T : Nd → Prop} {m : Mq} {O : List Nd}
theorem Wlk.zero (M : Mdl) (G H : List Stp) (S : Nat) (T : Nd → Prop) : Wlk M G H S T (fun _ => none) [] none [] where
 rc := fun n h => absurd rfl h
 un := fun n h => absurd rfl h
 cl := fun n h => absurd rfl h
 sd := fun z l h => by cases h
 op := fun n h => by cases h
 qk := fun n h => by cases h
 sz := by
  have h1 : sumq (uni2 G.length H.length S) (fun _ => none) = 0 := by
   unfold sumq
   generalize uni2 G.length H.length S = U
   induction U with
   | nil => rfl
   | cons a U ih => simp only [List.map_cons, List.sum_cons]; rw [ih]; rfl
  have h2 : unkq (uni2 G.length H.length S) (fun _ => none) ≤ _ := List.countP_le_length
  rw [uni2_len] at h2
  rw [h1]; simp; omega
theorem Wlk.mono {T' : Nd → Prop} {q : Option Nd} {Q : List Nd} (h : Wlk M G H S T m O q Q) (hT : ∀ n, T n → T' n) : Wlk M G H S T' m O q Q :=
 ⟨fun n hn => by obtain ⟨t, h1, h2⟩ := h.rc n hn; exact ⟨t, hT t h1, h2⟩, h.un, h.cl, h.sd, h.op, h.qk, h.sz⟩
theorem Wlk.begin {f : Nd} (h : Wlk M G H S T m [] none []) (hf : m f = none) (hT : T f) (hu : f ∈ uni2 G.length H.length S) : Wlk M G H S T (updq m f []) [f] none [] := by
 have hne : ∀ n, updq m f [] n ≠ none ↔ n = f ∨ m n ≠ none := fun n => by
  by_cases e : f = n
  ·subst e; rw [updq_same]; simp
  ·rw [updq_ne e]; exact ⟨.inr, fun h => h.resolve_left (fun h => e h.symm)⟩
 have hs : ∀ z l, m z = some l → updq m f [] z = some l := fun z l hz => by
  rw [updq_ne (fun e => by subst e; rw [hf] at hz; cases hz)]; exact hz
 constructor
 ·intro n hn
  rcases (hne n).1 hn with rfl | hn
  ·exact ⟨_, hT, .refl _⟩
  ·exact h.rc n hn
 ·intro n hn
  rcases (hne n).1 hn with rfl | hn
  ·exact hu
  ·exact h.un n hn
 ·intro n hn
  rcases (hne n).1 hn with rfl | hn
  ·exact .inl (by simp)
  ·right
   intro z hz
   rcases h.cl n hn with k | k
   ·cases k
   ·rcases k z hz with ⟨l, k1, k2⟩ | ⟨k, _⟩
    ·exact .inl ⟨l, hs z l k1, k2⟩
    ·cases k
 ·intro z l hz n hn
  by_cases e : f = z
  ·subst e; rw [updq_same] at hz; injection hz with hz; subst hz; cases hn
  ·rw [updq_ne e] at hz
   have := h.sd z l hz n hn
   exact ⟨this.1, (hne n).2 (.inr this.2)⟩
 ·intro n hn
  simp at hn
  exact (hne n).2 (.inl hn)
 ·intro n hn; cases hn
 ·have h1 := h.sz
  have h2 := unkq_upd (l := []) (uni2_nodup _ _ _) hu hf
  have h3 := sumq_upd (m := m) (l := []) (uni2_nodup _ _ _) hu
  simp at h1 h3 ⊢
  omega
theorem Wlk.pop {n : Nd} (h : Wlk M G H S T m (n :: O) none []) (hl : (pnx M G H n).length ≤ 2) : Wlk M G H S T m O (some n) (pnx M G H n) where
 rc := h.rc
 un := h.un
 cl := fun k hk => by
  by_cases e : k = n
  ·subst e; exact .inr fun z hz => .inr ⟨rfl, hz⟩
  ·rcases h.cl k hk with h1 | h1
   ·rcases List.mem_cons.1 h1 with h2 | h2
    ·exact absurd h2 e
    ·exact .inl h2
   ·right
    intro z hz
    rcases h1 z hz with h2 | ⟨h2, _⟩
    ·exact .inl h2
    ·cases h2
 sd := h.sd
 op := fun k hk => h.op k (List.mem_cons_of_mem _ hk)
 qk := fun k hk => by injection hk with hk; subst hk; exact ⟨h.op _ (List.mem_cons_self ..), fun z hz => hz⟩
 sz := by have := h.sz; simp at this; omega
theorem Wlk.note {n z : Nd} {Q : List Nd} (h : Wlk M G H S T m O (some n) (z :: Q)) (hu : z ∈ uni2 G.length H.length S) : Wlk M G H S T (updq m z ((m z).getD [] ++ [n])) (if m z = none then z :: O else O) (some n) Q := by
 have hne : ∀ k, updq m z ((m z).getD [] ++ [n]) k ≠ none ↔ k = z ∨ m k ≠ none := fun k => by
  by_cases e : z = k
  ·subst e; rw [updq_same]; simp
  ·rw [updq_ne e]; exact ⟨.inr, fun h => h.resolve_left (fun h => e h.symm)⟩
 obtain ⟨q1, q2⟩ := h.qk n rfl
 have hin : ∀ k l w, m k = some l → w ∈ l → ∃ l', updq m z ((m z).getD [] ++ [n]) k = some l' ∧ w ∈ l' := fun k l w hk hw => by
  by_cases e : z = k
  ·subst e
   rw [updq_same, hk]
   exact ⟨_, rfl, by simp [hw]⟩
  ·rw [updq_ne e]; exact ⟨l, hk, hw⟩
 constructor
 ·intro k hk
  rcases (hne k).1 hk with rfl | hk
  ·obtain ⟨t, h1, h2⟩ := h.rc n q1
   exact ⟨t, h1, h2.tail (q2 _ (List.mem_cons_self ..))⟩
  ·exact h.rc k hk
 ·intro k hk
  rcases (hne k).1 hk with rfl | hk
  ·exact hu
  ·exact h.un k hk
 ·intro k hk
  by_cases hk0 : m k = none
  ·rcases (hne k).1 hk with rfl | hk
   ·left; rw [if_pos hk0]; simp
   ·exact absurd hk0 hk
  ·rcases h.cl k hk0 with h1 | h1
   ·left; split
    ·exact List.mem_cons_of_mem _ h1
    ·exact h1
   ·right
    intro u hu'
    rcases h1 u hu' with ⟨l, h2, h3⟩ | ⟨h2, h3⟩
    ·exact .inl (hin u l k h2 h3)
    ·injection h2 with h2
     subst h2
     rcases List.mem_cons.1 h3 with rfl | h3
     ·left; rw [updq_same]; exact ⟨_, rfl, by simp⟩
     ·exact .inr ⟨rfl, h3⟩
 ·intro k l hk w hw
  by_cases e : z = k
  ·subst e
   rw [updq_same] at hk
   injection hk with hk
   subst hk
   rcases List.mem_append.1 hw with hw | hw
   ·cases hm : m z with
    | none => rw [hm] at hw; cases hw
    | some l0 =>
     rw [hm] at hw
     have hsd := h.sd z l0 hm w hw
     exact ⟨hsd.1, by have h9 := (hne w).2 (.inr hsd.2); rwa [hm] at h9⟩
   ·simp at hw
    subst hw
    exact ⟨q2 _ (List.mem_cons_self ..), (hne _).2 (.inr q1)⟩
  ·rw [updq_ne e] at hk
   have := h.sd k l hk w hw
   exact ⟨this.1, (hne w).2 (.inr this.2)⟩
 ·intro k hk
  rw [hne]
  split at hk
  ·rcases List.mem_cons.1 hk with rfl | hk
   ·exact .inl rfl
   ·exact .inr (h.op k hk)
  ·exact .inr (h.op k hk)
 ·intro k hk
  injection hk with hk
  subst hk
  exact ⟨(hne _).2 (.inr q1), fun u hu => q2 u (List.mem_cons_of_mem _ hu)⟩
 ·have h1 := h.sz
  have h3 := sumq_upd (m := m) (l := (m z).getD [] ++ [n]) (uni2_nodup G.length H.length S) hu
  have h4 : rlen m z = ((m z).getD []).length := rfl
  simp at h1 h3
  split
  ·rename_i hm
   have h2 := unkq_upd (l := (m z).getD [] ++ [n]) (uni2_nodup G.length H.length S) hu hm
   simp
   omega
  ·rename_i hm
   obtain ⟨l0, hl0⟩ : ∃ l, m z = some l := by
    cases hh : m z with
    | none => exact absurd hh hm
    | some l => exact ⟨l, rfl⟩
   have h2 := unkq_old (U := uni2 G.length H.length S) (l' := (m z).getD [] ++ [n]) hl0
   omega
theorem Wlk.noted {q : Option Nd} (h : Wlk M G H S T m O q []) : Wlk M G H S T m O none [] where
 rc := h.rc
 un := h.un
 cl := fun n hn => (h.cl n hn).imp id fun h1 z hz => by
  rcases h1 z hz with h2 | ⟨_, h2⟩
  ·exact .inl h2
  ·cases h2
 sd := h.sd
 op := h.op
 qk := fun n h => by cases h
 sz := h.sz
structure Avd (M : Mdl) (G H : List Stp) (S : Nat) (bad : Nd → Prop) (m m' : Mq) (O : List Nd) : Prop where
 sub : ∀ n, m' n = none ∨ m' n = m n
 dl : ∀ n, m n ≠ none → m' n = none → ∃ b, bad b ∧ Star (PE M G H) n b
 oo : ∀ n, n ∈ O → ∃ b, bad b ∧ Star (PE M G H) n b
 cl : ∀ z l, m z = some l → m' z = none → ∀ n, n ∈ l → n ∈ O ∨ m' n = none
 bd : ∀ b, bad b → b ∈ O ∨ m' b = none
 sz : sumq (uni2 G.length H.length S) m' + O.length ≤ 2 * (G.length * S * (H.length * S)) + S * S
theorem Avd.pop {bad : Nd → Prop} {m' : Mq} {a : Nd} (hw : ∀ z l, m z = some l → ∀ n, n ∈ l → PE M G H n z ∧ m n ≠ none) (hun : ∀ n, m n ≠ none → n ∈ uni2 G.length H.length S) (h : Avd M G H S bad m m' (a :: O)) : Avd M G H S bad m (delq m' a) (((m' a).getD []).reverse ++ O) ∧ (sumq (uni2 G.length H.length S) (delq m' a) + (((m' a).getD []).reverse ++ O).length < sumq (uni2 G.length H.length S) m' + (a :: O).length) := by
 have hsz : sumq (uni2 G.length H.length S) (delq m' a) + (((m' a).getD []).reverse ++ O).length + 1 = sumq (uni2 G.length H.length S) m' + (a :: O).length := by
  cases ha : m' a with
  | none =>
   have : delq m' a = m' := by
    funext q
    unfold delq
    split
    ·rename_i e; subst e; exact ha.symm
    ·rfl
   rw [this]; simp; omega
  | some l =>
   have hin : a ∈ uni2 G.length H.length S := by
    apply hun
    rcases h.sub a with k | k
    ·rw [ha] at k; cases k
    ·rw [← k, ha]; simp
   have := sumq_del (m := m') (uni2_nodup G.length H.length S) hin
   have h4 : rlen m' a = l.length := by unfold rlen; rw [ha]; rfl
   simp
   omega
 obtain ⟨b0, hb0, hs0⟩ := h.oo a (List.mem_cons_self ..)
 refine ⟨⟨fun n => ?_, fun n h1 h2 => ?_, fun n hn => ?_, fun z l hz hd n hn => ?_, fun b hb => ?_, ?_⟩, by omega⟩
 ·by_cases e : a = n
  ·subst e; exact .inl (delq_same _ _)
  ·rw [delq_ne e]; exact h.sub n
 ·by_cases e : a = n
  ·subst e; exact ⟨b0, hb0, hs0⟩
  ·rw [delq_ne e] at h2; exact h.dl n h1 h2
 ·rcases List.mem_append.1 hn with hn | hn
  ·rw [List.mem_reverse] at hn
   cases ha : m' a with
   | none => rw [ha] at hn; cases hn
   | some l =>
    rw [ha] at hn
    have hm : m a = some l := by
     rcases h.sub a with k | k
     ·rw [ha] at k; cases k
     ·rw [← k, ha]
    exact ⟨b0, hb0, .head (hw a l hm n hn).1 hs0⟩
  ·exact h.oo n (List.mem_cons_of_mem _ hn)
 ·by_cases e : a = z
  ·subst e
   cases ha : m' a with
   | none =>
    rcases h.cl a l hz ha n hn with k | k
    ·rcases List.mem_cons.1 k with rfl | k
     ·exact .inr (delq_same _ _)
     ·exact .inl (List.mem_append_right _ k)
    ·right
     by_cases e2 : a = n
     ·subst e2; exact delq_same _ _
     ·rw [delq_ne e2]; exact k
   | some l' =>
    have : l' = l := by
     rcases h.sub a with k | k
     ·rw [ha] at k; cases k
     ·rw [ha, hz] at k; injection k
    subst this
    left
    exact List.mem_append_left _ (List.mem_reverse.2 (by simpa using hn))
  ·rw [delq_ne e] at hd
   rcases h.cl z l hz hd n hn with k | k
   ·rcases List.mem_cons.1 k with rfl | k
    ·exact .inr (delq_same _ _)
    ·exact .inl (List.mem_append_right _ k)
   ·right
    by_cases e2 : a = n
    ·subst e2; exact delq_same _ _
    ·rw [delq_ne e2]; exact k
 ·rcases h.bd b hb with k | k
  ·rcases List.mem_cons.1 k with rfl | k
   ·exact .inr (delq_same _ _)
   ·exact .inl (List.mem_append_right _ k)
  ·right
   by_cases e2 : a = b
   ·subst e2; exact delq_same _ _
   ·rw [delq_ne e2]; exact k
 ·have := h.sz; omega
theorem Avd.done {bad : Nd → Prop} {m' : Mq} (hk : Wlk M G H S T m [] none []) (h : Avd M G H S bad m m' []) {n : Nd} (hn : m n ≠ none) : m' n = none ↔ ∃ b, bad b ∧ Star (PE M G H) n b := by
 constructor
 ·exact h.dl n hn
 ·rintro ⟨b, hb, hs⟩
  have hb' : m' b = none := by
   rcases h.bd b hb with k | k
   ·cases k
   ·exact k
  clear hb
  induction hs with
  | refl => exact hb'
  | @head i j k h1 h2 ih =>
   have hj : m j ≠ none ∧ ∃ l, m j = some l ∧ i ∈ l := by
    rcases hk.cl i hn with k1 | k1
    ·cases k1
    ·rcases k1 j h1 with ⟨l, k2, k3⟩ | ⟨k2, _⟩
     ·exact ⟨by rw [k2]; simp, l, k2, k3⟩
     ·cases k2
   obtain ⟨h3, l, h4, h5⟩ := hj
   rcases h.cl j l h4 (ih h3 hb') i h5 with k | k
   ·cases k
   ·exact k
end
end Go.Proofs.YtgkoljphndgoeaaGreatDoor
namespace Go.Proofs.YtgkoljphndgoeaaGreatDoor
open Go.RowKit Tm Go.Great Classical
theorem out_pure {p : Pg} {m : Mp} {E : List Nat} {lo bl : Bool} {i : Nat} (hi : i < 27) (h : Wk mdl (flG p) 27 (flS p) (fun j => j == i) 27 m E lo bl) (hT : Top (flG p)) : (∀ j, j < 27 → inE E j = rT p i j) ∧ lo = rL p i ∧ bl = rK p i := by
 have kn : ∀ y, m y ≠ none ↔ Star (Edge mdl (flG p)) (flS p, i) y := by
  intro y
  rw [h.kn y]
  constructor
  ·rintro ⟨q, _, e, hs⟩
   rw [← eq_of_beq e]; exact hs
  ·exact fun hs => ⟨i, hi, by simp, hs⟩
 refine ⟨fun j _ => ?_, ?_, ?_⟩
 ·rw [Bool.eq_iff_iff, show inE E j = true ↔ j ∈ E from by simp [inE], h.fin j, kn, rT_iff]
  exact fin_iff hT (fl_lay p)
 ·rw [Bool.eq_iff_iff, h.lp, rL_iff, ← lps_iff hT (fl_lay p)]
  constructor
  ·rintro ⟨q, _, e, hs⟩
   rw [← eq_of_beq e]; exact hs
  ·exact fun hs => ⟨i, hi, by simp, hs⟩
 ·rw [Bool.eq_iff_iff, h.blk, rK_iff, ← stk_iff hT (fl_lay p)]
  constructor
  ·rintro ⟨y, h1, h2⟩
   exact ⟨y, (kn y).1 h1, h2⟩
  ·rintro ⟨y, h1, h2⟩
   exact ⟨y, (kn y).2 h1, h2⟩
noncomputable def outV (p : Pg) (i : Nat) : Value := .agg #[.int .u32 (nb 27 (rT p i) : Nat), .bool (rL p i), .bool (rK p i)]
theorem outcome_p {p : Pg} {w1 : World} {B : Nat} {sp : Value} (hF : FlowOk false w1 B sp (flS p) (flG p)) (i : Nat) (hi : i < 27) (w : World) (hb : Below w1.heap.size w1 w) :
  Calls Tryz.prog 116 #[.agg #[sp, .int .i64 (flS p : Nat)], .int .i64 i] w fun e w' => e = .returned (outV p i) ∧ Below w.heap.size w w' := by
 refine (outcome_any hF.flown1 i hi w hb).mono ?_
 rintro e w' ⟨m, E, lo, bl, rfl, hk, hw⟩
 obtain ⟨h1, h2, h3⟩ := out_pure hi hk hF.top
 refine ⟨?_, hw⟩
 rw [nb_congr h1, h2, h3]
 rfl
def stN (p q : Pg) (i j : Nat) : Nd := ((flS p, i), (flS q, j))
def enN (a c : Nat) : Nd := ((0, a), (0, c))
theorem star_rT {p : Pg} (hT : Top (flG p)) (i a : Nat) : Star (Edge mdl (flG p)) (flS p, i) (0, a) ↔ rT p i a = true := by
 rw [rT_iff]; exact fin_iff hT (fl_lay p)
theorem pair_star {p q : Pg} (hT : Top (flG p)) (hU : Top (flG q)) (i j a c : Nat) : Star (PE mdl (flG p) (flG q)) (stN p q i j) (enN a c) ↔ (rT p i a && rT q j c) = true := by
 unfold stN enN
 rw [pair_ends hT, star_rT hT, star_rT hU, Bool.and_eq_true]
noncomputable def frR (p q : Pg) (A : Nat → Nat → Bool) : Nat → Nat → Bool := fun i j => (List.range 27).all fun a => (List.range 27).all fun c => !(rT p i a && rT q j c) || A a c
theorem frR_iff {p q : Pg} {A : Nat → Nat → Bool} {i j : Nat} : frR p q A i j = true ↔ ∀ a, a < 27 → ∀ c, c < 27 → (rT p i a && rT q j c) = true → A a c = true := by
 unfold frR
 simp only [List.all_eq_true, List.mem_range, Bool.or_eq_true, Bool.not_eq_true']
 constructor
 ·intro h a ha c hc k
  rcases h a ha c hc with h | h
  ·rw [h] at k; cases k
  ·exact h
 ·intro h a ha c hc
  cases k : (rT p i a && rT q j c)
  ·exact .inl rfl
  ·exact .inr (h a ha c hc k)
def stT (p q : Pg) (A : Nat → Nat → Bool) (k : Nat) : Nd → Prop := fun n => ∃ i j, i < 27 ∧ j < 27 ∧ i + 27 * j < k ∧ A i j = true ∧ n = stN p q i j
theorem stT_mono {p q : Pg} {A : Nat → Nat → Bool} {k : Nat} (n : Nd) (h : stT p q A k n) : stT p q A (k + 1) n := by
 obtain ⟨i, j, h1, h2, h3, h4⟩ := h
 exact ⟨i, j, h1, h2, by omega, h4⟩
structure Gn (p q : Pg) (A : Nat → Nat → Bool) (k : Nat) (m : Mq) : Prop where
 wk : Wlk mdl (flG p) (flG q) 27 (stT p q A k) m [] none []
 all : ∀ n, stT p q A k n → m n ≠ none
theorem Gn.zero (p q : Pg) (A : Nat → Nat → Bool) : Gn p q A 0 (fun _ => none) :=
 ⟨Wlk.zero _ _ _ _ _, fun n ⟨i, j, _, _, h, _⟩ => by omega⟩
theorem Gn.skip {p q : Pg} {A : Nat → Nat → Bool} {m : Mq} {i j : Nat} (hi : i < 27) (h : Gn p q A (i + 27 * j) m) (hA : A i j = false) : Gn p q A (i + 27 * j + 1) m :=
 ⟨h.wk.mono stT_mono, fun n ⟨a, b, h1, h2, h3, h4, h5⟩ => h.all n ⟨a, b, h1, h2, by
  by_cases e : a + 27 * b = i + 27 * j
  ·have e1 : a = i := by omega
   have e2 : b = j := by omega
   subst e1 e2
   rw [hA] at h4; cases h4
  ·omega, h4, h5⟩⟩
theorem Gn.step {p q : Pg} {A : Nat → Nat → Bool} {m m' : Mq} {i j : Nat} (hi : i < 27) (h : Gn p q A (i + 27 * j) m) (hw : Wlk mdl (flG p) (flG q) 27 (stT p q A (i + 27 * j + 1)) m' [] none []) (hs : m' (stN p q i j) ≠ none) (hk : ∀ n, m n ≠ none → m' n ≠ none) : Gn p q A (i + 27 * j + 1) m' :=
 ⟨hw, fun n ⟨a, b, h1, h2, h3, h4, h5⟩ => by
  by_cases e : a + 27 * b = i + 27 * j
  ·have e1 : a = i := by omega
   have e2 : b = j := by omega
   subst e1 e2
   rw [h5]; exact hs
  ·exact hk n (h.all n ⟨a, b, h1, h2, by omega, h4, h5⟩)⟩
def badN (B : Nat → Nat → Bool) : Nd → Prop := fun n => ∃ a c, a < 27 ∧ c < 27 ∧ B a c = true ∧ n = enN a c
theorem free_at {p q : Pg} {A B : Nat → Nat → Bool} {m m' : Mq} (hT : Top (flG p)) (hU : Top (flG q)) (hG : Gn p q A 729 m) (hA : Avd mdl (flG p) (flG q) 27 (badN B) m m' []) {i j : Nat} (hi : i < 27) (hj : j < 27) (h : A i j = true) : (m' (stN p q i j)).isSome = frR p q (fun a c => !B a c) i j := by
 have hm := hG.all _ ⟨i, j, hi, hj, by omega, h, rfl⟩
 have hd := hA.done hG.wk hm
 rw [Bool.eq_iff_iff, frR_iff, Option.isSome_iff_ne_none, ne_eq, hd]
 constructor
 ·intro hn a ha c hc hr
  cases hB : B a c with
  | false => rfl
  | true => exact absurd ⟨_, ⟨a, c, ha, hc, hB, rfl⟩, (pair_star hT hU i j a c).2 hr⟩ hn
 ·rintro h2 ⟨b, ⟨a, c, ha, hc, hB, rfl⟩, hs⟩
  have := h2 a ha c hc ((pair_star hT hU i j a c).1 hs)
  rw [hB] at this; cases this
end Go.Proofs.YtgkoljphndgoeaaGreatDoor
