/-
  Terms of all kinds in memory: a term is two cells, a letter and a slice of the operands' cells. While a text is read some terms are still open: 'GPend' says that whatever trees come to stand in the open places, the root then reads as the whole tree.
-/
import Derived.Test.YtpdepihggpfmiabDoorTree
import Derived.Test.YtpdepihggpfmiabDoorGPure
namespace Go.Proofs.YtpdepihggpfmiabDoor
open Go.RowKit

/-- The cells of a row of trees, from an offset of a block on; the operands' cells lie in blocks from B on. -/
def RepF (w : World) (B : Nat) : Fo → Nat → Nat → Prop
  | .nil, _, _ => True
  | .nd c kids rest, b, o => (∃ x y, w.cell? ⟨b, o, none⟩ = some x ∧ w.cell? ⟨b, o + 1, none⟩ = some y ∧ x = lv c ∧ ∃ a n, y = .slice a kids.len n ∧ kids.len ≤ n ∧ (kids = .nil ∨ ∃ kb, a = some ⟨kb, 0, none⟩ ∧ B ≤ kb ∧ RepF w B kids kb 0)) ∧ RepF w B rest b (o + 2)

/-- The values x and y are the two cells of a term with this letter and these operands. -/
def RepN (w : World) (B : Nat) (c : UInt8) (kids : Fo) (x y : Value) : Prop := x = lv c ∧ ∃ a n, y = .slice a kids.len n ∧ kids.len ≤ n ∧ (kids = .nil ∨ ∃ kb, a = some ⟨kb, 0, none⟩ ∧ B ≤ kb ∧ RepF w B kids kb 0)

theorem RepF.cons {w : World} {B : Nat} {c : UInt8} {kids rest : Fo} {b o : Nat} : RepF w B (.nd c kids rest) b o ↔ (∃ x y, w.cell? ⟨b, o, none⟩ = some x ∧ w.cell? ⟨b, o + 1, none⟩ = some y ∧ RepN w B c kids x y) ∧ RepF w B rest b (o + 2) := Iff.rfl

theorem RepN.forms {w : World} {B : Nat} {c : UInt8} {kids : Fo} {x y : Value} (h : RepN w B c kids x y) : ∃ (a : Option Addr) (m : Nat), x = .int .u8 c.toNat ∧ y = .slice a kids.len m := by
  obtain ⟨h1, a, n, h2, _, _⟩ := h
  exact ⟨a, n, h1, h2⟩

theorem RepF.keep {w w' : World} {B B' : Nat} (hc : ∀ b o v, B ≤ b → w.cell? ⟨b, o, none⟩ = some v → w'.cell? ⟨b, o, none⟩ = some v) (hB : B' ≤ B) : ∀ {f : Fo} {b o : Nat}, B ≤ b → RepF w B f b o → RepF w' B' f b o := by
  intro f
  induction f with
  | nil => exact fun _ h => h
  | nd c kids rest ih1 ih2 =>
    rintro b o hb ⟨⟨x, y, h1, h2, h3, a, n, h4, hcap, h5⟩, h6⟩
    refine ⟨⟨x, y, hc _ _ _ hb h1, hc _ _ _ hb h2, h3, a, n, h4, hcap, ?_⟩, ih2 hb h6⟩
    rcases h5 with h5 | ⟨kb, h5, h7, h8⟩
    · exact .inl h5
    · exact .inr ⟨kb, h5, by omega, ih1 h7 h8⟩
theorem RepN.keep {w w' : World} {B B' : Nat} (hc : ∀ b o v, B ≤ b → w.cell? ⟨b, o, none⟩ = some v → w'.cell? ⟨b, o, none⟩ = some v) (hB : B' ≤ B) {c : UInt8} {kids : Fo} {x y : Value} (h : RepN w B c kids x y) : RepN w' B' c kids x y := by
  obtain ⟨h3, a, n, h4, hcap, h5⟩ := h
  refine ⟨h3, a, n, h4, hcap, ?_⟩
  rcases h5 with h5 | ⟨kb, h5, h7, h8⟩
  · exact .inl h5
  · exact .inr ⟨kb, h5, by omega, h8.keep hc hB h7⟩
theorem RepN.below {w w' : World} {B : Nat} (hb : Below w.heap.size w w') {c : UInt8} {kids : Fo} {x y : Value} (h : RepN w B c kids x y) : RepN w' B c kids x y :=
  h.keep (fun _ _ _ _ h => (hb.cell (p := ⟨_, _, none⟩) (cell_lt h)).trans h) (Nat.le_refl _)
theorem RepN.mono {w : World} {B B' : Nat} {c : UInt8} {kids : Fo} {x y : Value} (h : RepN w B c kids x y) (hB : B' ≤ B) : RepN w B' c kids x y := h.keep (fun _ _ _ _ h => h) hB

/-- A term of an expression or a test, in the words of 'Tm'. -/
theorem repT_of {w : World} {B : Nat} : ∀ (t : Tm) (r : Fo) (b o : Nat), B ≤ b → RepF w B (emb t r) b o → (∃ x y, w.cell? ⟨b, o, none⟩ = some x ∧ w.cell? ⟨b, o + 1, none⟩ = some y ∧ RepT w B t x y) ∧ RepF w B r b (o + 2) := by
  intro t
  induction t with
  | leaf c =>
    rintro r b o hB ⟨⟨x, y, h1, h2, h3, a, n, h4, _, _⟩, h6⟩
    exact ⟨⟨x, y, h1, h2, h3, a, n, h4⟩, h6⟩
  | un c a ih =>
    rintro r b o hB ⟨⟨x, y, h1, h2, h3, p, n, h4, _, h5⟩, h6⟩
    refine ⟨⟨x, y, h1, h2, h3, ?_⟩, h6⟩
    rcases h5 with h5 | ⟨kb, rfl, h7, h8⟩
    · cases a <;> cases h5
    · obtain ⟨⟨x1, y1, k1, k2, k3⟩, _⟩ := ih _ _ _ h7 h8
      have hl : (emb a .nil).len = 1 := by cases a <;> rfl
      exact ⟨kb, n, x1, y1, by rw [h4, hl], h7, k1, k2, k3⟩
  | bin c a d iha ihd =>
    rintro r b o hB ⟨⟨x, y, h1, h2, h3, p, n, h4, _, h5⟩, h6⟩
    refine ⟨⟨x, y, h1, h2, h3, ?_⟩, h6⟩
    rcases h5 with h5 | ⟨kb, rfl, h7, h8⟩
    · cases a <;> cases h5
    · obtain ⟨⟨x1, y1, k1, k2, k3⟩, h9⟩ := iha _ _ _ h7 h8
      obtain ⟨⟨x2, y2, l1, l2, l3⟩, _⟩ := ihd _ _ _ h7 h9
      have hl : (emb a (emb d .nil)).len = 2 := by cases a <;> cases d <;> rfl
      exact ⟨kb, n, x1, y1, x2, y2, by rw [h4, hl], h7, k1, k2, l1, l2, k3, l3⟩
theorem repT_ofN {w : World} {B : Nat} {t : Tm} {c : UInt8} {kids : Fo} {x y : Value} (e : Fo.nd c kids .nil = emb t .nil) (h : RepN w B c kids x y) : RepT w B t x y := by
  obtain ⟨h3, a, n, h4, _, h5⟩ := h
  cases t with
  | leaf c' => simp [emb] at e; obtain ⟨rfl, rfl⟩ := e; exact ⟨h3, a, n, h4⟩
  | un c' t1 =>
    simp [emb] at e; obtain ⟨rfl, rfl⟩ := e
    refine ⟨h3, ?_⟩
    rcases h5 with h5 | ⟨kb, rfl, h7, h8⟩
    · cases t1 <;> cases h5
    · obtain ⟨⟨x1, y1, k1, k2, k3⟩, _⟩ := repT_of _ _ _ _ h7 h8
      have hl : (emb t1 .nil).len = 1 := by cases t1 <;> rfl
      exact ⟨kb, n, x1, y1, by rw [h4, hl], h7, k1, k2, k3⟩
  | bin c' t1 t2 =>
    simp [emb] at e; obtain ⟨rfl, rfl⟩ := e
    refine ⟨h3, ?_⟩
    rcases h5 with h5 | ⟨kb, rfl, h7, h8⟩
    · cases t1 <;> cases h5
    · obtain ⟨⟨x1, y1, k1, k2, k3⟩, h9⟩ := repT_of _ _ _ _ h7 h8
      obtain ⟨⟨x2, y2, l1, l2, l3⟩, _⟩ := repT_of _ _ _ _ h7 h9
      have hl : (emb t1 (emb t2 .nil)).len = 2 := by cases t1 <;> cases t2 <;> rfl
      exact ⟨kb, n, x1, y1, x2, y2, by rw [h4, hl], h7, k1, k2, l1, l2, k3, l3⟩

/-- An open place: the kind that is wanted, the block, the offset. -/
structure GHole where
  kind : UInt8
  b : Nat
  o : Nat

def gstk : List GHole → List Value
  | [] => []
  | p :: L => gstk L ++ [lv p.kind, .pointer (some ⟨p.b, p.o, none⟩)]
theorem gstk_length (L : List GHole) : (gstk L).length = L.length * 2 := by
  induction L with
  | nil => rfl
  | cons p L ih => simp [gstk, ih]; omega
theorem gstk_top0 (p : GHole) (L : List GHole) : (gstk (p :: L))[L.length * 2]? = some (lv p.kind) := by
  rw [← gstk_length L]; simp [gstk]
theorem gstk_top1 (p : GHole) (L : List GHole) : (gstk (p :: L))[L.length * 2 + 1]? = some (.pointer (some ⟨p.b, p.o, none⟩)) := by
  rw [← gstk_length L]; simp [gstk]

def GIn (L : List GHole) (b o : Nat) : Prop := ∃ p ∈ L, p.b = b ∧ (o = p.o ∨ o = p.o + 1)
def GKeeps (base : Nat) (w w' : World) (L : List GHole) : Prop := ∀ b o v, base ≤ b → (∃ cur, TB w b cur) → w.cell? ⟨b, o, none⟩ = some v → ¬ GIn L b o → w'.cell? ⟨b, o, none⟩ = some v

/-- The trees stand in the open places. -/
def GRep (w : World) (B : Nat) : List GHole → Fo → Prop
  | [], f => f = .nil
  | p :: L, f => ∃ c kids rest x y, f = .nd c kids rest ∧ w.cell? ⟨p.b, p.o, none⟩ = some x ∧ w.cell? ⟨p.b, p.o + 1, none⟩ = some y ∧ RepN w B c kids x y ∧ GRep w B L rest

structure GPend (w : World) (base : Nat) (L : List GHole) (F : Fo → Fo) (rb : Nat) : Prop where
  cells : ∀ p ∈ L, base ≤ p.b ∧ p.o % 2 = 0 ∧ ∃ cur, TB w p.b cur ∧ p.o + 1 < cur.size
  apart : L.Pairwise fun p q => ¬ (p.b = q.b ∧ p.o = q.o)
  rep : ∀ w' f, GRep w' base L f → GKeeps base w w' L → RepF w' base (F f) rb 0

theorem GPend.start (w : World) (base rb : Nat) (k : UInt8) (cur : Array Value) (hb : base ≤ rb) (h : TB w rb cur) (hs : 1 < cur.size) : GPend w base [⟨k, rb, 0⟩] (fun f => f) rb where
  cells := by
    intro p hp
    simp at hp; subst hp
    exact ⟨hb, rfl, cur, h, hs⟩
  apart := by simp
  rep := by
    rintro w' f ⟨c, kids, rest, x, y, rfl, h1, h2, h3, h4⟩ _
    rw [show rest = .nil from h4]
    exact ⟨⟨x, y, h1, h2, h3⟩, trivial⟩

theorem GPend.keep {w w' : World} {base : Nat} {L : List GHole} {F : Fo → Fo} {rb : Nat} (h : GPend w base L F rb) (hk : ∀ b cur, TB w b cur → TB w' b cur) : GPend w' base L F rb where
  cells := fun p hp => by
    obtain ⟨h1, h2, cur, h3, h4⟩ := h.cells p hp
    exact ⟨h1, h2, cur, hk _ _ h3, h4⟩
  apart := h.apart
  rep := fun w2 ts hr hkeep => h.rep w2 ts hr fun b o v hB ⟨cur, hb⟩ hc hn =>
    hkeep b o v hB ⟨cur, hk _ _ hb⟩ (by rw [(hk _ _ hb).cell, ← hb.cell]; exact hc) hn

/-- What the top place becomes: a term with this letter and as many operands. -/
def gbuild (c : UInt8) (n : Nat) (f : Fo) : Fo := .nd c (f.take n) (f.drop n)
def gholes (nb : Nat) : Nat → List UInt8 → List GHole
  | _, [] => []
  | o, k :: l => ⟨k, nb, o⟩ :: gholes nb (o + 2) l
theorem gholes_len (nb o : Nat) (l : List UInt8) : (gholes nb o l).length = l.length := by
  induction l generalizing o with
  | nil => rfl
  | cons k l ih => simp [gholes, ih]
theorem gholes_kind (nb o : Nat) (l : List UInt8) : (gholes nb o l).map (·.kind) = l := by
  induction l generalizing o with
  | nil => rfl
  | cons k l ih => simp [gholes, ih]
theorem gholes_mem {nb o : Nat} {l : List UInt8} {q : GHole} (h : q ∈ gholes nb o l) : q.b = nb ∧ o ≤ q.o ∧ q.o % 2 = o % 2 ∧ q.o + 1 < o + l.length * 2 := by
  induction l generalizing o with
  | nil => simp [gholes] at h
  | cons k l ih =>
    simp only [gholes, List.mem_cons] at h
    rcases h with rfl | h
    · simp; omega
    · have := ih h
      simp only [List.length_cons]; omega
theorem gholes_apart (nb o : Nat) (l : List UInt8) : (gholes nb o l).Pairwise fun p q => ¬ (p.b = q.b ∧ p.o = q.o) := by
  induction l generalizing o with
  | nil => simp [gholes]
  | cons k l ih =>
    simp only [gholes, List.pairwise_cons]
    exact ⟨fun q hq e => by have := gholes_mem hq; have e2 : o = q.o := e.2; omega, ih _⟩
theorem grep_split {w : World} {B nb : Nat} {l : List UInt8} {L : List GHole} : ∀ {o : Nat} {f : Fo}, GRep w B (gholes nb o l ++ L) f → (f.take l.length).len = l.length ∧ RepF w B (f.take l.length) nb o ∧ GRep w B L (f.drop l.length) := by
  induction l with
  | nil => intro o f h; exact ⟨rfl, trivial, h⟩
  | cons k l ih =>
    intro o f h
    obtain ⟨c, kids, rest, x, y, rfl, h1, h2, h3, h4⟩ := h
    obtain ⟨a, b, c2⟩ := ih h4
    exact ⟨by simp [Fo.take, Fo.len, a], ⟨⟨x, y, h1, h2, h3⟩, b⟩, c2⟩

/-- One letter has been read: the top place is filled, its operands are open. -/
theorem GPend.step {w w1 : World} {base : Nat} {p : GHole} {L : List GHole} {F : Fo → Fo} {rb : Nat} (h : GPend w base (p :: L) F rb) (c : UInt8) (l : List UInt8) (nb : Nat) (zs : Array Value) (y : Value)
    (hold : ∀ b cur, TB w b cur → b ≠ p.b → TB w1 b cur) (hnb : w.heap.size ≤ nb) (hbase : base ≤ nb)
    (hp : ∀ cur, TB w p.b cur → TB w1 p.b ((cur.setIfInBounds p.o (lv c)).setIfInBounds (p.o + 1) y))
    (hz : TB w1 nb zs) (hzs : zs.size = l.length * 2) (hy : ∃ n, y = .slice (some ⟨nb, 0, none⟩) l.length n ∧ l.length ≤ n) :
    GPend w1 base (gholes nb 0 l ++ L) (fun f => F (gbuild c l.length f)) rb := by
  have hpc := h.cells p (by simp)
  obtain ⟨hp1, hp2, cur, hcur, hsz⟩ := hpc
  have hcur1 := hp cur hcur
  have hpnb : p.b ≠ nb := by have := hcur.lt; omega
  have cx : w1.cell? ⟨p.b, p.o, none⟩ = some (lv c) := by
    rw [hcur1.cell]; simp [Array.getElem?_setIfInBounds]; omega
  have cy : w1.cell? ⟨p.b, p.o + 1, none⟩ = some y := by
    rw [hcur1.cell]; simp [Array.getElem?_setIfInBounds]; omega
  have even : ∀ q ∈ p :: L, q.o % 2 = 0 := fun q hq => (h.cells q hq).2.1
  have hfar : ∀ q ∈ L, q.b ≠ nb := fun q hq => by obtain ⟨_, _, cq, h3, _⟩ := h.cells q (by simp [hq]); have := h3.lt; omega
  have notin : ∀ o, o = p.o ∨ o = p.o + 1 → ¬ GIn (gholes nb 0 l ++ L) p.b o := by
    rintro o ho ⟨q, hq, hb, ho'⟩
    rw [List.mem_append] at hq
    rcases hq with hq | hq
    · have := (gholes_mem hq).1; omega
    · have h1 := (List.pairwise_cons.1 h.apart).1 q hq
      have h2 := even q (by simp [hq])
      exact h1 ⟨hb.symm, by omega⟩
  refine ⟨?_, ?_, ?_⟩
  · intro q hq
    rw [List.mem_append] at hq
    rcases hq with hq | hq
    · obtain ⟨e1, e2, e3, e4⟩ := gholes_mem hq
      exact ⟨by omega, by omega, zs, by rw [e1]; exact hz, by omega⟩
    · obtain ⟨h1, h2, cq, h3, h4⟩ := h.cells q (by simp [hq])
      refine ⟨h1, h2, ?_⟩
      by_cases e : q.b = p.b
      · rw [e] at h3 ⊢
        exact ⟨_, hp cq h3, by simpa using h4⟩
      · exact ⟨cq, hold _ _ h3 e, h4⟩
  · rw [List.pairwise_append]
    refine ⟨gholes_apart _ _ _, (List.pairwise_cons.1 h.apart).2, fun q hq q2 hq2 e => ?_⟩
    exact hfar q2 hq2 (by have := (gholes_mem hq).1; omega)
  · intro w' f hr hk
    have kx : w'.cell? ⟨p.b, p.o, none⟩ = some (lv c) := hk p.b p.o _ hp1 ⟨_, hcur1⟩ cx (notin _ (.inl rfl))
    have ky : w'.cell? ⟨p.b, p.o + 1, none⟩ = some y := hk p.b (p.o + 1) _ hp1 ⟨_, hcur1⟩ cy (notin _ (.inr rfl))
    have hkeep : GKeeps base w w' (p :: L) := by
      intro b o v hB ⟨cb, hb⟩ hc hn
      have hbn : b ≠ nb := by have := hb.lt; omega
      have hn2 : ¬ GIn (gholes nb 0 l ++ L) b o := by
        rintro ⟨q, hq, hqb, hqo⟩
        rw [List.mem_append] at hq
        rcases hq with hq | hq
        · have := (gholes_mem hq).1; omega
        · exact hn ⟨q, by simp [hq], hqb, hqo⟩
      by_cases e : b = p.b
      · subst e
        refine hk p.b o v hB ⟨_, hp cb hb⟩ ?_ hn2
        rw [(hp cb hb).cell]
        rw [hb.cell] at hc
        have h1 : o ≠ p.o := fun e => hn ⟨p, by simp, rfl, .inl e⟩
        have h2 : o ≠ p.o + 1 := fun e => hn ⟨p, by simp, rfl, .inr e⟩
        rw [Array.getElem?_setIfInBounds, if_neg (by omega), Array.getElem?_setIfInBounds, if_neg (by omega)]
        exact hc
      · exact hk b o v hB ⟨cb, hold _ _ hb e⟩ (by rw [(hold _ _ hb e).cell, ← hb.cell]; exact hc) hn2
    obtain ⟨n, rfl, hyn⟩ := hy
    obtain ⟨a, b, c2⟩ := grep_split hr
    exact h.rep w' _ ⟨c, _, _, _, _, rfl, kx, ky, ⟨rfl, _, n, by rw [a], by rw [a]; exact hyn, .inr ⟨nb, rfl, hbase, b⟩⟩, c2⟩ hkeep

theorem GPend.done {w w' : World} {base : Nat} {F : Fo → Fo} {rb : Nat} (h : GPend w base [] F rb) (hk : ∀ b o v, base ≤ b → w.cell? ⟨b, o, none⟩ = some v → w'.cell? ⟨b, o, none⟩ = some v) : RepF w' base (F .nil) rb 0 :=
  h.rep w' .nil rfl fun b o v hB _ hc _ => hk b o v hB hc

/-- What has been read so far: whatever trees come to stand in the open places, their bytes behind those that have been read are the bytes of the whole tree. -/
structure GSofar (k : UInt8) (pre : List UInt8) (ks : List UInt8) (F : Fo → Fo) : Prop where
  ok : ∀ f, FOk false f ks → FOk false (F f) [k]
  ser : ∀ f, FOk false f ks → (F f).ser = pre ++ f.ser
theorem GSofar.start (k : UInt8) : GSofar k [] [k] (fun f => f) where
  ok := fun _ h => h
  ser := fun _ _ => rfl
theorem GSofar.step {k : UInt8} {pre : List UInt8} {k0 : UInt8} {ks : List UInt8} {F : Fo → Fo} (h : GSofar k pre (k0 :: ks) F) {c : UInt8} {l : List UInt8} (hl : gopk false k0 c = some l) : GSofar k (pre ++ [c]) (l ++ ks) (fun f => F (gbuild c l.length f)) where
  ok := fun f hf => h.ok _ ⟨_, _, l, rfl, hl, hf.split.1, hf.split.2⟩
  ser := fun f hf => by
    rw [h.ser (gbuild c l.length f) ⟨_, _, l, rfl, hl, hf.split.1, hf.split.2⟩]
    simp [gbuild, Fo.ser, Fo.take_drop]
end Go.Proofs.YtpdepihggpfmiabDoor
