/-
  A tree of terms in memory: a term is two cells, a letter and a slice of the operands' cells. While a text is read some terms are still open: 'Pend' says that whatever trees come to stand in the open places, the root then reads as the whole tree.
-/
import Derived.Test.YtpdepihggpfmiabDoorBase
import Derived.Test.YtpdepihggpfmiabDoorKinds
import Derived.Lib.OthersKept
namespace Go.Proofs.YtpdepihggpfmiabDoor
open Go.RowKit Tm

def lv (c : UInt8) : Value := .int .u8 c.toNat

/-- The values x and y are the two cells of a term that reads as the tree; the cells of its operands lie in blocks from B on. -/
def RepT (w : World) (B : Nat) : Tm → Value → Value → Prop
  | .leaf c, x, y => x = lv c ∧ ∃ a n, y = .slice a 0 n
  | .un c a, x, y => x = lv c ∧ ∃ b n x1 y1, y = .slice (some ⟨b, 0, none⟩) 1 n ∧ B ≤ b ∧ w.cell? ⟨b, 0, none⟩ = some x1 ∧ w.cell? ⟨b, 1, none⟩ = some y1 ∧ RepT w B a x1 y1
  | .bin c a d, x, y => x = lv c ∧ ∃ b n x1 y1 x2 y2, y = .slice (some ⟨b, 0, none⟩) 2 n ∧ B ≤ b ∧ w.cell? ⟨b, 0, none⟩ = some x1 ∧ w.cell? ⟨b, 1, none⟩ = some y1 ∧
      w.cell? ⟨b, 2, none⟩ = some x2 ∧ w.cell? ⟨b, 3, none⟩ = some y2 ∧ RepT w B a x1 y1 ∧ RepT w B d x2 y2

def RepAt (w : World) (B b o : Nat) (t : Tm) : Prop := ∃ x y, w.cell? ⟨b, o, none⟩ = some x ∧ w.cell? ⟨b, o + 1, none⟩ = some y ∧ RepT w B t x y

theorem RepT.head {w : World} {B : Nat} {t : Tm} {x y : Value} (h : RepT w B t x y) : x = lv t.head := by cases t <;> exact h.1

theorem RepT.forms {w : World} {B : Nat} {t : Tm} {x y : Value} (h : RepT w B t x y) : ∃ (c : Int) (a : Option Addr) (n m : Nat), x = .int .u8 c ∧ y = .slice a n m := by
  cases t with
  | leaf c => obtain ⟨rfl, a, n, rfl⟩ := h; exact ⟨_, _, _, _, rfl, rfl⟩
  | un c a => obtain ⟨rfl, b, n, x1, y1, rfl, _⟩ := h; exact ⟨_, _, _, _, rfl, rfl⟩
  | bin c a d => obtain ⟨rfl, b, n, x1, y1, x2, y2, rfl, _⟩ := h; exact ⟨_, _, _, _, rfl, rfl⟩

theorem cell_lt {w : World} {b o : Nat} {v : Value} (h : w.cell? ⟨b, o, none⟩ = some v) : b < w.heap.size := World.block_lt_of_cell? w ⟨b, o, none⟩ h

theorem RepT.keep {w w' : World} {B B' : Nat} (hc : ∀ b o v, B ≤ b → w.cell? ⟨b, o, none⟩ = some v → w'.cell? ⟨b, o, none⟩ = some v) (hB : B' ≤ B) : ∀ {t : Tm} {x y : Value}, RepT w B t x y → RepT w' B' t x y := by
  intro t
  induction t with
  | leaf c => exact fun h => h
  | un c a ih =>
    rintro x y ⟨h0, b, n, x1, y1, h1, hb, h2, h3, h4⟩
    exact ⟨h0, b, n, x1, y1, h1, by omega, hc _ _ _ hb h2, hc _ _ _ hb h3, ih h4⟩
  | bin c a d iha ihd =>
    rintro x y ⟨h0, b, n, x1, y1, x2, y2, h1, hb, h2, h3, h4, h5, h6, h7⟩
    exact ⟨h0, b, n, x1, y1, x2, y2, h1, by omega, hc _ _ _ hb h2, hc _ _ _ hb h3, hc _ _ _ hb h4, hc _ _ _ hb h5, iha h6, ihd h7⟩
theorem RepT.below {w w' : World} {B : Nat} (hb : Below w.heap.size w w') {t : Tm} {x y : Value} (h : RepT w B t x y) : RepT w' B t x y :=
  h.keep (fun _ _ _ _ h => (hb.cell (p := ⟨_, _, none⟩) (cell_lt h)).trans h) (Nat.le_refl _)
theorem RepT.mono {w : World} {B B' : Nat} {t : Tm} {x y : Value} (h : RepT w B t x y) (hB : B' ≤ B) : RepT w B' t x y := h.keep (fun _ _ _ _ h => h) hB

/-- An open place: the kind that is wanted, the block, the offset. -/
structure Hole where
  kind : Bool
  b : Nat
  o : Nat

def kv (k : Bool) : Value := .int .u8 (kcode k)
def stk : List Hole → List Value
  | [] => []
  | p :: L => stk L ++ [kv p.kind, .pointer (some ⟨p.b, p.o, none⟩)]
theorem stk_length (L : List Hole) : (stk L).length = L.length * 2 := by
  induction L with
  | nil => rfl
  | cons p L ih => simp [stk, ih]; omega
theorem stk_top0 (p : Hole) (L : List Hole) : (stk (p :: L))[L.length * 2]? = some (kv p.kind) := by
  rw [← stk_length L]; simp [stk]
theorem stk_top1 (p : Hole) (L : List Hole) : (stk (p :: L))[L.length * 2 + 1]? = some (.pointer (some ⟨p.b, p.o, none⟩)) := by
  rw [← stk_length L]; simp [stk]

/-- A block of terms' cells. -/
def TB (w : World) (b : Nat) (cur : Array Value) : Prop := w.heap[b]? = some (.cells cur 47 (0, 0))

def InHoles (L : List Hole) (b o : Nat) : Prop := ∃ p ∈ L, p.b = b ∧ (o = p.o ∨ o = p.o + 1)
def Keeps (base : Nat) (w w' : World) (L : List Hole) : Prop := ∀ b o v, base ≤ b → (∃ cur, TB w b cur) → w.cell? ⟨b, o, none⟩ = some v → ¬ InHoles L b o → w'.cell? ⟨b, o, none⟩ = some v

def RepL (w : World) (B : Nat) : List Hole → List Tm → Prop
  | [], [] => True
  | p :: L, t :: ts => RepAt w B p.b p.o t ∧ RepL w B L ts
  | _, _ => False

structure Pend (w : World) (base : Nat) (L : List Hole) (F : List Tm → Tm) (rb : Nat) : Prop where
  cells : ∀ p ∈ L, base ≤ p.b ∧ p.o % 2 = 0 ∧ ∃ cur, TB w p.b cur ∧ p.o + 1 < cur.size
  apart : L.Pairwise fun p q => ¬ (p.b = q.b ∧ p.o = q.o)
  rep : ∀ w' ts, RepL w' base L ts → Keeps base w w' L → RepAt w' base rb 0 (F ts)

theorem TB.cell {w : World} {b : Nat} {cur : Array Value} (h : TB w b cur) (i : Nat) : w.cell? ⟨b, i, none⟩ = cur[i]? := cell_of_row w b i cur _ (0, 0) h
theorem TB.frozen {w : World} {b : Nat} {cur : Array Value} (h : TB w b cur) (i : Nat) : w.frozen? ⟨b, i, none⟩ = false := by unfold TB at h; simp [World.frozen?, h]
theorem TB.lt {w : World} {b : Nat} {cur : Array Value} (h : TB w b cur) : b < w.heap.size := (Array.getElem?_eq_some_iff.1 h).1

/-- At the start the root is open. -/
theorem Pend.start (w : World) (base rb : Nat) (k : Bool) (cur : Array Value) (hb : base ≤ rb) (h : TB w rb cur) (hs : 1 < cur.size) : Pend w base [⟨k, rb, 0⟩] (fun ts => ts.headD (.leaf 0)) rb where
  cells := by
    intro p hp
    simp at hp; subst hp
    exact ⟨hb, rfl, cur, h, hs⟩
  apart := by simp
  rep := by
    intro w' ts h _
    match ts, h with
    | [t], h => exact h.1

/-- The world goes on, its blocks of terms as they were. -/
theorem Pend.keep {w w' : World} {base : Nat} {L : List Hole} {F : List Tm → Tm} {rb : Nat} (h : Pend w base L F rb) (hk : ∀ b cur, TB w b cur → TB w' b cur) : Pend w' base L F rb where
  cells := fun p hp => by
    obtain ⟨h1, h2, cur, h3, h4⟩ := h.cells p hp
    exact ⟨h1, h2, cur, hk _ _ h3, h4⟩
  apart := h.apart
  rep := fun w2 ts hr hkeep => h.rep w2 ts hr fun b o v hB ⟨cur, hb⟩ hc hn =>
    hkeep b o v hB ⟨cur, hk _ _ hb⟩ (by rw [(hk _ _ hb).cell, ← hb.cell]; exact hc) hn

/-- What the top place becomes: a term with this letter and, in block nb, as many operands as kinds. -/
def build (c : UInt8) : List Bool → List Tm → List Tm
  | [], ts => .leaf c :: ts
  | [_], a :: ts => .un c a :: ts
  | [_, _], a :: b :: ts => .bin c a b :: ts
  | _, _ => []
def newHoles (nb : Nat) : List Bool → List Hole
  | [] => []
  | [k1] => [⟨k1, nb, 0⟩]
  | [k1, k2] => [⟨k1, nb, 0⟩, ⟨k2, nb, 2⟩]
  | _ => []

theorem not_in_of_apart {p : Hole} {L : List Hole} {nbk : List Bool} {nb : Nat} (hap : (p :: L).Pairwise fun p q => ¬ (p.b = q.b ∧ p.o = q.o)) (he : ∀ q ∈ p :: L, q.o % 2 = 0) (hne : p.b ≠ nb) {o : Nat} (ho : o = p.o ∨ o = p.o + 1) : ¬ InHoles (newHoles nb nbk ++ L) p.b o := by
  rintro ⟨q, hq, hb, ho'⟩
  rw [List.mem_append] at hq
  rcases hq with hq | hq
  · have : q.b = nb := by
      match nbk, hq with
      | [], hq => simp [newHoles] at hq
      | [k1], hq => simp [newHoles] at hq; rw [hq]
      | [k1, k2], hq => simp [newHoles] at hq; rcases hq with rfl | rfl <;> rfl
      | k1 :: k2 :: k3 :: r, hq => simp [newHoles] at hq
    omega
  · have h1 := (List.pairwise_cons.1 hap).1 q hq
    have h2 := he q (by simp [hq])
    have h3 := he p (by simp)
    exact h1 ⟨hb.symm, by omega⟩

/-- One letter has been read: the top place is filled, its operands are open. -/
theorem Pend.step {w w1 : World} {base : Nat} {p : Hole} {L : List Hole} {F : List Tm → Tm} {rb : Nat} (h : Pend w base (p :: L) F rb) (c : UInt8) (l : List Bool) (hl : l.length ≤ 2) (nb : Nat) (zs : Array Value) (y : Value)
    (hold : ∀ b cur, TB w b cur → b ≠ p.b → TB w1 b cur) (hnb : w.heap.size ≤ nb) (hbase : base ≤ nb)
    (hp : ∀ cur, TB w p.b cur → TB w1 p.b ((cur.setIfInBounds p.o (lv c)).setIfInBounds (p.o + 1) y))
    (hz : TB w1 nb zs) (hzs : zs.size = l.length * 2) (hy : ∃ n, y = .slice (some ⟨nb, 0, none⟩) l.length n) :
    Pend w1 base (newHoles nb l ++ L) (fun ts => F (build c l ts)) rb := by
  have hpc := h.cells p (by simp)
  obtain ⟨hp1, hp2, cur, hcur, hsz⟩ := hpc
  have hcur1 := hp cur hcur
  have hpnb : p.b ≠ nb := by have := hcur.lt; omega
  have cx : w1.cell? ⟨p.b, p.o, none⟩ = some (lv c) := by
    rw [hcur1.cell]; simp [Array.getElem?_setIfInBounds]; omega
  have cy : w1.cell? ⟨p.b, p.o + 1, none⟩ = some y := by
    rw [hcur1.cell]; simp [Array.getElem?_setIfInBounds]; omega
  have even : ∀ q ∈ p :: L, q.o % 2 = 0 := fun q hq => (h.cells q hq).2.1
  refine ⟨?_, ?_, ?_⟩
  · intro q hq
    rw [List.mem_append] at hq
    rcases hq with hq | hq
    · match l, hq, hzs with
      | [], hq, _ => simp [newHoles] at hq
      | [k1], hq, hzs => simp [newHoles] at hq; subst hq; exact ⟨hbase, rfl, zs, hz, by simp at hzs ⊢; omega⟩
      | [k1, k2], hq, hzs =>
        simp [newHoles] at hq
        rcases hq with rfl | rfl
        · exact ⟨hbase, by simp, zs, hz, by simp at hzs ⊢; omega⟩
        · exact ⟨hbase, by simp, zs, hz, by simp at hzs ⊢; omega⟩
      | k1 :: k2 :: k3 :: r, hq, _ => simp [newHoles] at hq
    · obtain ⟨h1, h2, cq, h3, h4⟩ := h.cells q (by simp [hq])
      refine ⟨h1, h2, ?_⟩
      by_cases e : q.b = p.b
      · rw [e] at h3 ⊢
        exact ⟨_, hp cq h3, by simpa using h4⟩
      · exact ⟨cq, hold _ _ h3 e, h4⟩
  · have hap := (List.pairwise_cons.1 h.apart).2
    have hfar : ∀ q ∈ L, q.b ≠ nb := fun q hq => by obtain ⟨_, _, cq, h3, _⟩ := h.cells q (by simp [hq]); have := h3.lt; omega
    match l with
    | [] => simpa [newHoles] using hap
    | [k1] => simp [newHoles]; exact ⟨fun q hq e => absurd e.symm (hfar q hq), by simpa using hap⟩
    | [k1, k2] => simp [newHoles]; exact ⟨fun q hq e => absurd e.symm (hfar q hq), fun q hq e => absurd e.symm (hfar q hq), by simpa using hap⟩
    | k1 :: k2 :: k3 :: r => simpa [newHoles] using hap
  · intro w' ts hr hk
    have kx : w'.cell? ⟨p.b, p.o, none⟩ = some (lv c) := hk p.b p.o _ hp1 ⟨_, hcur1⟩ cx (not_in_of_apart h.apart even hpnb (.inl rfl))
    have ky : w'.cell? ⟨p.b, p.o + 1, none⟩ = some y := hk p.b (p.o + 1) _ hp1 ⟨_, hcur1⟩ cy (not_in_of_apart h.apart even hpnb (.inr rfl))
    have hkeep : Keeps base w w' (p :: L) := by
      intro b o v hB ⟨cb, hb⟩ hc hn
      have hbn : b ≠ nb := by have := hb.lt; omega
      have hn2 : ¬ InHoles (newHoles nb l ++ L) b o := by
        rintro ⟨q, hq, hqb, hqo⟩
        rw [List.mem_append] at hq
        rcases hq with hq | hq
        · have : q.b = nb := by
            match l, hq with
            | [], hq => simp [newHoles] at hq
            | [k1], hq => simp [newHoles] at hq; rw [hq]
            | [k1, k2], hq => simp [newHoles] at hq; rcases hq with rfl | rfl <;> rfl
            | k1 :: k2 :: k3 :: r, hq => simp [newHoles] at hq
          omega
        · exact hn ⟨q, by simp [hq], hqb, hqo⟩
      by_cases e : b = p.b
      · subst e
        refine hk p.b o v hB ⟨_, hp cb hb⟩ ?_ hn2
        rw [(hp cb hb).cell]
        rw [hb.cell] at hc
        have h1 : o ≠ p.o := fun e => hn ⟨p, by simp, rfl, .inl e⟩
        have h2 : o ≠ p.o + 1 := fun e => hn ⟨p, by simp, rfl, .inr e⟩
        rw [Array.getElem?_setIfInBounds, if_neg (by omega), Array.getElem?_setIfInBounds, if_neg (by omega)]
        exact hc
      · exact hk b o v hB ⟨cb, hold _ _ hb e⟩ (by rw [(hold _ _ hb e).cell, ← hb.cell]; exact hc) hn2
    obtain ⟨n, rfl⟩ := hy
    match l, ts, hr with
    | [], ts, hr => exact h.rep w' (.leaf c :: ts) ⟨⟨_, _, kx, ky, rfl, _, _, rfl⟩, hr⟩ hkeep
    | [k1], a :: ts, hr =>
      obtain ⟨⟨x1, y1, a1, a2, a3⟩, hr⟩ := hr
      exact h.rep w' (.un c a :: ts) ⟨⟨_, _, kx, ky, rfl, _, _, x1, y1, rfl, hbase, a1, a2, a3⟩, hr⟩ hkeep
    | [k1, k2], a :: d :: ts, hr =>
      obtain ⟨⟨x1, y1, a1, a2, a3⟩, ⟨x2, y2, b1, b2, b3⟩, hr⟩ := hr
      exact h.rep w' (.bin c a d :: ts) ⟨⟨_, _, kx, ky, rfl, _, _, x1, y1, x2, y2, rfl, hbase, a1, a2, b1, b2, a3, b3⟩, hr⟩ hkeep

/-- When nothing is open the root reads as the tree. -/
theorem Pend.done {w w' : World} {base : Nat} {F : List Tm → Tm} {rb : Nat} (h : Pend w base [] F rb) (hk : ∀ b o v, base ≤ b → w.cell? ⟨b, o, none⟩ = some v → w'.cell? ⟨b, o, none⟩ = some v) : RepAt w' base rb 0 (F []) :=
  h.rep w' [] trivial fun b o v hB _ hc _ => hk b o v hB hc

theorem kinds_newHoles (nb : Nat) (l : List Bool) (hl : l.length ≤ 2) : (newHoles nb l).map (·.kind) = l := by
  match l, hl with
  | [], _ => rfl
  | [k1], _ => rfl
  | [k1, k2], _ => rfl

/-- What has been read so far: whatever trees come to stand in the open places, their bytes behind those that have been read are the bytes of the whole tree. -/
structure Sofar (k : Bool) (pre : List UInt8) (ks : List Bool) (F : List Tm → Tm) : Prop where
  ok : ∀ ts, Oks false ks ts → Ok false k (F ts)
  ser : ∀ ts, Oks false ks ts → (F ts).ser = pre ++ sers ts

theorem Sofar.start (k : Bool) : Sofar k [] [k] (fun ts => ts.headD (.leaf 0)) where
  ok := fun ts h => by match ts, h with | [t], h => exact h.1
  ser := fun ts h => by match ts, h with | [t], h => simp [sers]

theorem oks_build {c : UInt8} {k : Bool} {l ks : List Bool} (hl : opk false k c = some l) : ∀ ts, Oks false (l ++ ks) ts → Oks false (k :: ks) (build c l ts) ∧ sers (build c l ts) = c :: sers ts := by
  intro ts h
  match l, opk_len hl, ts, h with
  | [], _, ts, h => exact ⟨⟨hl, h⟩, by simp [build, sers, Tm.ser]⟩
  | [k1], _, a :: ts, h => exact ⟨⟨⟨k1, hl, h.1⟩, h.2⟩, by simp [build, sers, Tm.ser]⟩
  | [k1, k2], _, a :: b :: ts, h => exact ⟨⟨⟨k1, k2, hl, h.1, h.2.1⟩, h.2.2⟩, by simp [build, sers, Tm.ser]⟩

theorem Sofar.step {k : Bool} {pre : List UInt8} {k0 : Bool} {ks : List Bool} {F : List Tm → Tm} (h : Sofar k pre (k0 :: ks) F) {c : UInt8} {l : List Bool} (hl : opk false k0 c = some l) : Sofar k (pre ++ [c]) (l ++ ks) (fun ts => F (build c l ts)) where
  ok := fun ts ht => h.ok _ (oks_build hl ts ht).1
  ser := fun ts ht => by rw [h.ser _ (oks_build hl ts ht).1, (oks_build hl ts ht).2]; simp
end Go.Proofs.YtpdepihggpfmiabDoor
