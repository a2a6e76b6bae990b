/-
  Several small texts in one: Kinds Tree GTree GKinds Up Must Read Find Expr SpecValid Valid Val Holds Spv EvalE EvalT Tst.
-/
import Derived.Test.YtheclmdpiijakaaBase
import Derived.Test.YtheclmdpiijakaaPure
import Derived.Lib.OthersKept
import Derived.Test.YtheclmdpiijakaaGPure
import Derived.Test.YtheclmdpiijakaaShelf
import Derived.WalkSmall
import Derived.Deep.LoopGhost
import Derived.BigQuiet
import Derived.Deep.QuietTactic
import Derived.Deep.RegionHeld3
import Derived.Deep.AppendLies
import Derived.Defers
import Derived.Recover
import Derived.Test.YtheclmdpiijakaaTopB
namespace Go.Proofs.Ytheclmdpiijakaa
open Go.RowKit

def kcode (k : Bool) : Int := if k then 116 else 101
def kbyte (k : Bool) : UInt8 := if k then 116 else 101
def kstr (l : List Bool) : ByteArray := ⟨(l.map kbyte).toArray⟩

theorem u8_of_nat {c : UInt8} {n : Nat} (h : c.toNat = n) (hn : n < 256) : c = UInt8.ofNat n := by
  apply UInt8.toNat_inj.1
  rw [h]; simp; omega

/-- The letters at which a kind has a list of operands. -/
theorem opk_cases {k : Bool} {c : UInt8} {l : List Bool} (h : opk false k c = some l) :
    (k = false ∧ l = [] ∧ (c = 120 ∨ c = 121 ∨ c = 122 ∨ c = 48 ∨ c = 49 ∨ c = 50)) ∨ (k = false ∧ l = [false, false] ∧ (c = 43 ∨ c = 45 ∨ c = 42)) ∨
    (k = true ∧ l = [] ∧ (c = 116 ∨ c = 102)) ∨ (k = true ∧ l = [false, false] ∧ (c = 61 ∨ c = 60)) ∨ (k = true ∧ l = [true] ∧ c = 33) ∨ (k = true ∧ l = [true, true] ∧ (c = 38 ∨ c = 124)) := by
  unfold opk isVarB isDigB isOpB at h
  cases k <;> simp at h
  · split at h
    · rename_i hh; simp at h; subst h; simp; rcases hh with ((hh | hh) | hh) | ((hh | hh) | hh) <;> simp [hh]
    · split at h
      · rename_i hh; simp at h; subst h; simp; rcases hh with (hh | hh) | hh <;> simp [hh]
      · simp at h
  · split at h
    · rename_i hh; simp at h; subst h; simp; rcases hh with hh | hh <;> simp [hh]
    · split at h
      · rename_i hh; simp at h; subst h; simp; rcases hh with hh | hh <;> simp [hh]
      · split at h
        · rename_i hh; simp at h; subst h; simp [hh]
        · split at h
          · rename_i hh; simp at h; subst h; simp; rcases hh with hh | hh <;> simp [hh]
          · simp at h

theorem ne_of_opk {k : Bool} {r : Int} (h : ∀ c : UInt8, (c.toNat : Int) = r → opk false k c = none) (d : UInt8) (hd : opk false k d ≠ none) : (r == (d.toNat : Int)) = false := by
  rw [beq_eq_false_iff_ne]
  rintro rfl
  exact hd (h d rfl)

def Panics (w : World) (e : Ending) (w' : World) : Prop := ∃ v, e = .panicked [{ v := .iface 9 v, recovered := false }] ∧ w = w'

end Go.Proofs.Ytheclmdpiijakaa

namespace Go.Proofs.Ytheclmdpiijakaa
open Go.RowKit Tm

def lv (c : UInt8) : Value := .int .u8 c.toNat

/-- The values x and y are the two cells of a term that reads as the tree; the cells of its operands lie in blocks from B on. -/
def RepT (w : World) (B : Nat) : Tm → Value → Value → Prop
  | .leaf c, x, y => x = lv c ∧ ∃ a n, y = .slice a 0 n
  | .un c a, x, y => x = lv c ∧ ∃ b n x1 y1, y = .slice (some ⟨b, 0, none⟩) 1 n ∧ B ≤ b ∧ w.cell? ⟨b, 0, none⟩ = some x1 ∧ w.cell? ⟨b, 1, none⟩ = some y1 ∧ RepT w B a x1 y1
  | .bin c a d, x, y => x = lv c ∧ ∃ b n x1 y1 x2 y2, y = .slice (some ⟨b, 0, none⟩) 2 n ∧ B ≤ b ∧ w.cell? ⟨b, 0, none⟩ = some x1 ∧ w.cell? ⟨b, 1, none⟩ = some y1 ∧
      w.cell? ⟨b, 2, none⟩ = some x2 ∧ w.cell? ⟨b, 3, none⟩ = some y2 ∧ RepT w B a x1 y1 ∧ RepT w B d x2 y2

def RepAt (w : World) (B b o : Nat) (t : Tm) : Prop := ∃ x y, w.cell? ⟨b, o, none⟩ = some x ∧ w.cell? ⟨b, o + 1, none⟩ = some y ∧ RepT w B t x y

theorem RepT.head {w : World} {B : Nat} {t : Tm} {x y : Value} (h : RepT w B t x y) : x = lv t.head := by cases t <;> exact h.1

theorem RepT.forms {w : World} {B : Nat} {t : Tm} {x y : Value} (h : RepT w B t x y) : ∃ (c : Int) (a : Option Addr) (n m : Nat), x = .int .u8 c ∧ y = .slice a n m := by
  cases t with
  | leaf c => obtain ⟨rfl, a, n, rfl⟩ := h; exact ⟨_, _, _, _, rfl, rfl⟩
  | un c a => obtain ⟨rfl, b, n, x1, y1, rfl, _⟩ := h; exact ⟨_, _, _, _, rfl, rfl⟩
  | bin c a d => obtain ⟨rfl, b, n, x1, y1, x2, y2, rfl, _⟩ := h; exact ⟨_, _, _, _, rfl, rfl⟩

theorem cell_lt {w : World} {b o : Nat} {v : Value} (h : w.cell? ⟨b, o, none⟩ = some v) : b < w.heap.size := World.block_lt_of_cell? w ⟨b, o, none⟩ h

theorem RepT.keep {w w' : World} {B B' : Nat} (hc : ∀ b o v, B ≤ b → w.cell? ⟨b, o, none⟩ = some v → w'.cell? ⟨b, o, none⟩ = some v) (hB : B' ≤ B) : ∀ {t : Tm} {x y : Value}, RepT w B t x y → RepT w' B' t x y := by
  intro t
  induction t with
  | leaf c => exact fun h => h
  | un c a ih =>
    rintro x y ⟨h0, b, n, x1, y1, h1, hb, h2, h3, h4⟩
    exact ⟨h0, b, n, x1, y1, h1, by omega, hc _ _ _ hb h2, hc _ _ _ hb h3, ih h4⟩
  | bin c a d iha ihd =>
    rintro x y ⟨h0, b, n, x1, y1, x2, y2, h1, hb, h2, h3, h4, h5, h6, h7⟩
    exact ⟨h0, b, n, x1, y1, x2, y2, h1, by omega, hc _ _ _ hb h2, hc _ _ _ hb h3, hc _ _ _ hb h4, hc _ _ _ hb h5, iha h6, ihd h7⟩
theorem RepT.below {w w' : World} {B : Nat} (hb : Below w.heap.size w w') {t : Tm} {x y : Value} (h : RepT w B t x y) : RepT w' B t x y :=
  h.keep (fun _ _ _ _ h => (hb.cell (p := ⟨_, _, none⟩) (cell_lt h)).trans h) (Nat.le_refl _)
theorem RepT.mono {w : World} {B B' : Nat} {t : Tm} {x y : Value} (h : RepT w B t x y) (hB : B' ≤ B) : RepT w B' t x y := h.keep (fun _ _ _ _ h => h) hB

/-- An open place: the kind that is wanted, the block, the offset. -/
structure Hole where
  kind : Bool
  b : Nat
  o : Nat

def kv (k : Bool) : Value := .int .u8 (kcode k)
def stk : List Hole → List Value
  | [] => []
  | p :: L => stk L ++ [kv p.kind, .pointer (some ⟨p.b, p.o, none⟩)]
theorem stk_length (L : List Hole) : (stk L).length = L.length * 2 := by
  induction L with
  | nil => rfl
  | cons p L ih => simp [stk, ih]; omega
theorem stk_top0 (p : Hole) (L : List Hole) : (stk (p :: L))[L.length * 2]? = some (kv p.kind) := by
  rw [← stk_length L]; simp [stk]
theorem stk_top1 (p : Hole) (L : List Hole) : (stk (p :: L))[L.length * 2 + 1]? = some (.pointer (some ⟨p.b, p.o, none⟩)) := by
  rw [← stk_length L]; simp [stk]

/-- A block of terms' cells. -/
def TB (w : World) (b : Nat) (cur : Array Value) : Prop := w.heap[b]? = some (.cells cur 117 (0, 0))

def InHoles (L : List Hole) (b o : Nat) : Prop := ∃ p ∈ L, p.b = b ∧ (o = p.o ∨ o = p.o + 1)
def Keeps (base : Nat) (w w' : World) (L : List Hole) : Prop := ∀ b o v, base ≤ b → (∃ cur, TB w b cur) → w.cell? ⟨b, o, none⟩ = some v → ¬ InHoles L b o → w'.cell? ⟨b, o, none⟩ = some v

def RepL (w : World) (B : Nat) : List Hole → List Tm → Prop
  | [], [] => True
  | p :: L, t :: ts => RepAt w B p.b p.o t ∧ RepL w B L ts
  | _, _ => False

structure Pend (w : World) (base : Nat) (L : List Hole) (F : List Tm → Tm) (rb : Nat) : Prop where
  cells : ∀ p ∈ L, base ≤ p.b ∧ p.o % 2 = 0 ∧ ∃ cur, TB w p.b cur ∧ p.o + 1 < cur.size
  apart : L.Pairwise fun p q => ¬ (p.b = q.b ∧ p.o = q.o)
  rep : ∀ w' ts, RepL w' base L ts → Keeps base w w' L → RepAt w' base rb 0 (F ts)

theorem TB.cell {w : World} {b : Nat} {cur : Array Value} (h : TB w b cur) (i : Nat) : w.cell? ⟨b, i, none⟩ = cur[i]? := cell_of_row w b i cur _ (0, 0) h
theorem TB.frozen {w : World} {b : Nat} {cur : Array Value} (h : TB w b cur) (i : Nat) : w.frozen? ⟨b, i, none⟩ = false := by unfold TB at h; simp [World.frozen?, h]
theorem TB.lt {w : World} {b : Nat} {cur : Array Value} (h : TB w b cur) : b < w.heap.size := (Array.getElem?_eq_some_iff.1 h).1

/-- At the start the root is open. -/
theorem Pend.start (w : World) (base rb : Nat) (k : Bool) (cur : Array Value) (hb : base ≤ rb) (h : TB w rb cur) (hs : 1 < cur.size) : Pend w base [⟨k, rb, 0⟩] (fun ts => ts.headD (.leaf 0)) rb where
  cells := by
    intro p hp
    simp at hp; subst hp
    exact ⟨hb, rfl, cur, h, hs⟩
  apart := by simp
  rep := by
    intro w' ts h _
    match ts, h with
    | [t], h => exact h.1

/-- The world goes on, its blocks of terms as they were. -/
theorem Pend.keep {w w' : World} {base : Nat} {L : List Hole} {F : List Tm → Tm} {rb : Nat} (h : Pend w base L F rb) (hk : ∀ b cur, TB w b cur → TB w' b cur) : Pend w' base L F rb where
  cells := fun p hp => by
    obtain ⟨h1, h2, cur, h3, h4⟩ := h.cells p hp
    exact ⟨h1, h2, cur, hk _ _ h3, h4⟩
  apart := h.apart
  rep := fun w2 ts hr hkeep => h.rep w2 ts hr fun b o v hB ⟨cur, hb⟩ hc hn =>
    hkeep b o v hB ⟨cur, hk _ _ hb⟩ (by rw [(hk _ _ hb).cell, ← hb.cell]; exact hc) hn

/-- What the top place becomes: a term with this letter and, in block nb, as many operands as kinds. -/
def build (c : UInt8) : List Bool → List Tm → List Tm
  | [], ts => .leaf c :: ts
  | [_], a :: ts => .un c a :: ts
  | [_, _], a :: b :: ts => .bin c a b :: ts
  | _, _ => []
def newHoles (nb : Nat) : List Bool → List Hole
  | [] => []
  | [k1] => [⟨k1, nb, 0⟩]
  | [k1, k2] => [⟨k1, nb, 0⟩, ⟨k2, nb, 2⟩]
  | _ => []

theorem not_in_of_apart {p : Hole} {L : List Hole} {nbk : List Bool} {nb : Nat} (hap : (p :: L).Pairwise fun p q => ¬ (p.b = q.b ∧ p.o = q.o)) (he : ∀ q ∈ p :: L, q.o % 2 = 0) (hne : p.b ≠ nb) {o : Nat} (ho : o = p.o ∨ o = p.o + 1) : ¬ InHoles (newHoles nb nbk ++ L) p.b o := by
  rintro ⟨q, hq, hb, ho'⟩
  rw [List.mem_append] at hq
  rcases hq with hq | hq
  · have : q.b = nb := by
      match nbk, hq with
      | [], hq => simp [newHoles] at hq
      | [k1], hq => simp [newHoles] at hq; rw [hq]
      | [k1, k2], hq => simp [newHoles] at hq; rcases hq with rfl | rfl <;> rfl
      | k1 :: k2 :: k3 :: r, hq => simp [newHoles] at hq
    omega
  · have h1 := (List.pairwise_cons.1 hap).1 q hq
    have h2 := he q (by simp [hq])
    have h3 := he p (by simp)
    exact h1 ⟨hb.symm, by omega⟩

/-- One letter has been read: the top place is filled, its operands are open. -/
theorem Pend.step {w w1 : World} {base : Nat} {p : Hole} {L : List Hole} {F : List Tm → Tm} {rb : Nat} (h : Pend w base (p :: L) F rb) (c : UInt8) (l : List Bool) (hl : l.length ≤ 2) (nb : Nat) (zs : Array Value) (y : Value)
    (hold : ∀ b cur, TB w b cur → b ≠ p.b → TB w1 b cur) (hnb : w.heap.size ≤ nb) (hbase : base ≤ nb)
    (hp : ∀ cur, TB w p.b cur → TB w1 p.b ((cur.setIfInBounds p.o (lv c)).setIfInBounds (p.o + 1) y))
    (hz : TB w1 nb zs) (hzs : zs.size = l.length * 2) (hy : ∃ n, y = .slice (some ⟨nb, 0, none⟩) l.length n) :
    Pend w1 base (newHoles nb l ++ L) (fun ts => F (build c l ts)) rb := by
  have hpc := h.cells p (by simp)
  obtain ⟨hp1, hp2, cur, hcur, hsz⟩ := hpc
  have hcur1 := hp cur hcur
  have hpnb : p.b ≠ nb := by have := hcur.lt; omega
  have cx : w1.cell? ⟨p.b, p.o, none⟩ = some (lv c) := by
    rw [hcur1.cell]; simp [Array.getElem?_setIfInBounds]; omega
  have cy : w1.cell? ⟨p.b, p.o + 1, none⟩ = some y := by
    rw [hcur1.cell]; simp [Array.getElem?_setIfInBounds]; omega
  have even : ∀ q ∈ p :: L, q.o % 2 = 0 := fun q hq => (h.cells q hq).2.1
  refine ⟨?_, ?_, ?_⟩
  · intro q hq
    rw [List.mem_append] at hq
    rcases hq with hq | hq
    · match l, hq, hzs with
      | [], hq, _ => simp [newHoles] at hq
      | [k1], hq, hzs => simp [newHoles] at hq; subst hq; exact ⟨hbase, rfl, zs, hz, by simp at hzs ⊢; omega⟩
      | [k1, k2], hq, hzs =>
        simp [newHoles] at hq
        rcases hq with rfl | rfl
        · exact ⟨hbase, by simp, zs, hz, by simp at hzs ⊢; omega⟩
        · exact ⟨hbase, by simp, zs, hz, by simp at hzs ⊢; omega⟩
      | k1 :: k2 :: k3 :: r, hq, _ => simp [newHoles] at hq
    · obtain ⟨h1, h2, cq, h3, h4⟩ := h.cells q (by simp [hq])
      refine ⟨h1, h2, ?_⟩
      by_cases e : q.b = p.b
      · rw [e] at h3 ⊢
        exact ⟨_, hp cq h3, by simpa using h4⟩
      · exact ⟨cq, hold _ _ h3 e, h4⟩
  · have hap := (List.pairwise_cons.1 h.apart).2
    have hfar : ∀ q ∈ L, q.b ≠ nb := fun q hq => by obtain ⟨_, _, cq, h3, _⟩ := h.cells q (by simp [hq]); have := h3.lt; omega
    match l with
    | [] => simpa [newHoles] using hap
    | [k1] => simp [newHoles]; exact ⟨fun q hq e => absurd e.symm (hfar q hq), by simpa using hap⟩
    | [k1, k2] => simp [newHoles]; exact ⟨fun q hq e => absurd e.symm (hfar q hq), fun q hq e => absurd e.symm (hfar q hq), by simpa using hap⟩
    | k1 :: k2 :: k3 :: r => simpa [newHoles] using hap
  · intro w' ts hr hk
    have kx : w'.cell? ⟨p.b, p.o, none⟩ = some (lv c) := hk p.b p.o _ hp1 ⟨_, hcur1⟩ cx (not_in_of_apart h.apart even hpnb (.inl rfl))
    have ky : w'.cell? ⟨p.b, p.o + 1, none⟩ = some y := hk p.b (p.o + 1) _ hp1 ⟨_, hcur1⟩ cy (not_in_of_apart h.apart even hpnb (.inr rfl))
    have hkeep : Keeps base w w' (p :: L) := by
      intro b o v hB ⟨cb, hb⟩ hc hn
      have hbn : b ≠ nb := by have := hb.lt; omega
      have hn2 : ¬ InHoles (newHoles nb l ++ L) b o := by
        rintro ⟨q, hq, hqb, hqo⟩
        rw [List.mem_append] at hq
        rcases hq with hq | hq
        · have : q.b = nb := by
            match l, hq with
            | [], hq => simp [newHoles] at hq
            | [k1], hq => simp [newHoles] at hq; rw [hq]
            | [k1, k2], hq => simp [newHoles] at hq; rcases hq with rfl | rfl <;> rfl
            | k1 :: k2 :: k3 :: r, hq => simp [newHoles] at hq
          omega
        · exact hn ⟨q, by simp [hq], hqb, hqo⟩
      by_cases e : b = p.b
      · subst e
        refine hk p.b o v hB ⟨_, hp cb hb⟩ ?_ hn2
        rw [(hp cb hb).cell]
        rw [hb.cell] at hc
        have h1 : o ≠ p.o := fun e => hn ⟨p, by simp, rfl, .inl e⟩
        have h2 : o ≠ p.o + 1 := fun e => hn ⟨p, by simp, rfl, .inr e⟩
        rw [Array.getElem?_setIfInBounds, if_neg (by omega), Array.getElem?_setIfInBounds, if_neg (by omega)]
        exact hc
      · exact hk b o v hB ⟨cb, hold _ _ hb e⟩ (by rw [(hold _ _ hb e).cell, ← hb.cell]; exact hc) hn2
    obtain ⟨n, rfl⟩ := hy
    match l, ts, hr with
    | [], ts, hr => exact h.rep w' (.leaf c :: ts) ⟨⟨_, _, kx, ky, rfl, _, _, rfl⟩, hr⟩ hkeep
    | [k1], a :: ts, hr =>
      obtain ⟨⟨x1, y1, a1, a2, a3⟩, hr⟩ := hr
      exact h.rep w' (.un c a :: ts) ⟨⟨_, _, kx, ky, rfl, _, _, x1, y1, rfl, hbase, a1, a2, a3⟩, hr⟩ hkeep
    | [k1, k2], a :: d :: ts, hr =>
      obtain ⟨⟨x1, y1, a1, a2, a3⟩, ⟨x2, y2, b1, b2, b3⟩, hr⟩ := hr
      exact h.rep w' (.bin c a d :: ts) ⟨⟨_, _, kx, ky, rfl, _, _, x1, y1, x2, y2, rfl, hbase, a1, a2, b1, b2, a3, b3⟩, hr⟩ hkeep

/-- When nothing is open the root reads as the tree. -/
theorem Pend.done {w w' : World} {base : Nat} {F : List Tm → Tm} {rb : Nat} (h : Pend w base [] F rb) (hk : ∀ b o v, base ≤ b → w.cell? ⟨b, o, none⟩ = some v → w'.cell? ⟨b, o, none⟩ = some v) : RepAt w' base rb 0 (F []) :=
  h.rep w' [] trivial fun b o v hB _ hc _ => hk b o v hB hc

theorem kinds_newHoles (nb : Nat) (l : List Bool) (hl : l.length ≤ 2) : (newHoles nb l).map (·.kind) = l := by
  match l, hl with
  | [], _ => rfl
  | [k1], _ => rfl
  | [k1, k2], _ => rfl

/-- What has been read so far: whatever trees come to stand in the open places, their bytes behind those that have been read are the bytes of the whole tree. -/
structure Sofar (k : Bool) (pre : List UInt8) (ks : List Bool) (F : List Tm → Tm) : Prop where
  ok : ∀ ts, Oks false ks ts → Ok false k (F ts)
  ser : ∀ ts, Oks false ks ts → (F ts).ser = pre ++ sers ts

theorem Sofar.start (k : Bool) : Sofar k [] [k] (fun ts => ts.headD (.leaf 0)) where
  ok := fun ts h => by match ts, h with | [t], h => exact h.1
  ser := fun ts h => by match ts, h with | [t], h => simp [sers]

theorem oks_build {c : UInt8} {k : Bool} {l ks : List Bool} (hl : opk false k c = some l) : ∀ ts, Oks false (l ++ ks) ts → Oks false (k :: ks) (build c l ts) ∧ sers (build c l ts) = c :: sers ts := by
  intro ts h
  match l, opk_len hl, ts, h with
  | [], _, ts, h => exact ⟨⟨hl, h⟩, by simp [build, sers, Tm.ser]⟩
  | [k1], _, a :: ts, h => exact ⟨⟨⟨k1, hl, h.1⟩, h.2⟩, by simp [build, sers, Tm.ser]⟩
  | [k1, k2], _, a :: b :: ts, h => exact ⟨⟨⟨k1, k2, hl, h.1, h.2.1⟩, h.2.2⟩, by simp [build, sers, Tm.ser]⟩

theorem Sofar.step {k : Bool} {pre : List UInt8} {k0 : Bool} {ks : List Bool} {F : List Tm → Tm} (h : Sofar k pre (k0 :: ks) F) {c : UInt8} {l : List Bool} (hl : opk false k0 c = some l) : Sofar k (pre ++ [c]) (l ++ ks) (fun ts => F (build c l ts)) where
  ok := fun ts ht => h.ok _ (oks_build hl ts ht).1
  ser := fun ts ht => by rw [h.ser _ (oks_build hl ts ht).1, (oks_build hl ts ht).2]; simp
end Go.Proofs.Ytheclmdpiijakaa

namespace Go.Proofs.Ytheclmdpiijakaa
open Go.RowKit

/-- The cells of a row of trees, from an offset of a block on; the operands' cells lie in blocks from B on. -/
def RepF (w : World) (B : Nat) : Fo → Nat → Nat → Prop
  | .nil, _, _ => True
  | .nd c kids rest, b, o => (∃ x y, w.cell? ⟨b, o, none⟩ = some x ∧ w.cell? ⟨b, o + 1, none⟩ = some y ∧ x = lv c ∧ ∃ a n, y = .slice a kids.len n ∧ kids.len ≤ n ∧ (kids = .nil ∨ ∃ kb, a = some ⟨kb, 0, none⟩ ∧ B ≤ kb ∧ RepF w B kids kb 0)) ∧ RepF w B rest b (o + 2)

/-- The values x and y are the two cells of a term with this letter and these operands. -/
def RepN (w : World) (B : Nat) (c : UInt8) (kids : Fo) (x y : Value) : Prop := x = lv c ∧ ∃ a n, y = .slice a kids.len n ∧ kids.len ≤ n ∧ (kids = .nil ∨ ∃ kb, a = some ⟨kb, 0, none⟩ ∧ B ≤ kb ∧ RepF w B kids kb 0)

theorem RepF.cons {w : World} {B : Nat} {c : UInt8} {kids rest : Fo} {b o : Nat} : RepF w B (.nd c kids rest) b o ↔ (∃ x y, w.cell? ⟨b, o, none⟩ = some x ∧ w.cell? ⟨b, o + 1, none⟩ = some y ∧ RepN w B c kids x y) ∧ RepF w B rest b (o + 2) := Iff.rfl

theorem RepN.forms {w : World} {B : Nat} {c : UInt8} {kids : Fo} {x y : Value} (h : RepN w B c kids x y) : ∃ (a : Option Addr) (m : Nat), x = .int .u8 c.toNat ∧ y = .slice a kids.len m := by
  obtain ⟨h1, a, n, h2, _, _⟩ := h
  exact ⟨a, n, h1, h2⟩

theorem RepF.keep {w w' : World} {B B' : Nat} (hc : ∀ b o v, B ≤ b → w.cell? ⟨b, o, none⟩ = some v → w'.cell? ⟨b, o, none⟩ = some v) (hB : B' ≤ B) : ∀ {f : Fo} {b o : Nat}, B ≤ b → RepF w B f b o → RepF w' B' f b o := by
  intro f
  induction f with
  | nil => exact fun _ h => h
  | nd c kids rest ih1 ih2 =>
    rintro b o hb ⟨⟨x, y, h1, h2, h3, a, n, h4, hcap, h5⟩, h6⟩
    refine ⟨⟨x, y, hc _ _ _ hb h1, hc _ _ _ hb h2, h3, a, n, h4, hcap, ?_⟩, ih2 hb h6⟩
    rcases h5 with h5 | ⟨kb, h5, h7, h8⟩
    · exact .inl h5
    · exact .inr ⟨kb, h5, by omega, ih1 h7 h8⟩
theorem RepN.keep {w w' : World} {B B' : Nat} (hc : ∀ b o v, B ≤ b → w.cell? ⟨b, o, none⟩ = some v → w'.cell? ⟨b, o, none⟩ = some v) (hB : B' ≤ B) {c : UInt8} {kids : Fo} {x y : Value} (h : RepN w B c kids x y) : RepN w' B' c kids x y := by
  obtain ⟨h3, a, n, h4, hcap, h5⟩ := h
  refine ⟨h3, a, n, h4, hcap, ?_⟩
  rcases h5 with h5 | ⟨kb, h5, h7, h8⟩
  · exact .inl h5
  · exact .inr ⟨kb, h5, by omega, h8.keep hc hB h7⟩
theorem RepN.below {w w' : World} {B : Nat} (hb : Below w.heap.size w w') {c : UInt8} {kids : Fo} {x y : Value} (h : RepN w B c kids x y) : RepN w' B c kids x y :=
  h.keep (fun _ _ _ _ h => (hb.cell (p := ⟨_, _, none⟩) (cell_lt h)).trans h) (Nat.le_refl _)
theorem RepN.mono {w : World} {B B' : Nat} {c : UInt8} {kids : Fo} {x y : Value} (h : RepN w B c kids x y) (hB : B' ≤ B) : RepN w B' c kids x y := h.keep (fun _ _ _ _ h => h) hB

/-- A term of an expression or a test, in the words of 'Tm'. -/
theorem repT_of {w : World} {B : Nat} : ∀ (t : Tm) (r : Fo) (b o : Nat), B ≤ b → RepF w B (emb t r) b o → (∃ x y, w.cell? ⟨b, o, none⟩ = some x ∧ w.cell? ⟨b, o + 1, none⟩ = some y ∧ RepT w B t x y) ∧ RepF w B r b (o + 2) := by
  intro t
  induction t with
  | leaf c =>
    rintro r b o hB ⟨⟨x, y, h1, h2, h3, a, n, h4, _, _⟩, h6⟩
    exact ⟨⟨x, y, h1, h2, h3, a, n, h4⟩, h6⟩
  | un c a ih =>
    rintro r b o hB ⟨⟨x, y, h1, h2, h3, p, n, h4, _, h5⟩, h6⟩
    refine ⟨⟨x, y, h1, h2, h3, ?_⟩, h6⟩
    rcases h5 with h5 | ⟨kb, rfl, h7, h8⟩
    · cases a <;> cases h5
    · obtain ⟨⟨x1, y1, k1, k2, k3⟩, _⟩ := ih _ _ _ h7 h8
      have hl : (emb a .nil).len = 1 := by cases a <;> rfl
      exact ⟨kb, n, x1, y1, by rw [h4, hl], h7, k1, k2, k3⟩
  | bin c a d iha ihd =>
    rintro r b o hB ⟨⟨x, y, h1, h2, h3, p, n, h4, _, h5⟩, h6⟩
    refine ⟨⟨x, y, h1, h2, h3, ?_⟩, h6⟩
    rcases h5 with h5 | ⟨kb, rfl, h7, h8⟩
    · cases a <;> cases h5
    · obtain ⟨⟨x1, y1, k1, k2, k3⟩, h9⟩ := iha _ _ _ h7 h8
      obtain ⟨⟨x2, y2, l1, l2, l3⟩, _⟩ := ihd _ _ _ h7 h9
      have hl : (emb a (emb d .nil)).len = 2 := by cases a <;> cases d <;> rfl
      exact ⟨kb, n, x1, y1, x2, y2, by rw [h4, hl], h7, k1, k2, l1, l2, k3, l3⟩
theorem repT_ofN {w : World} {B : Nat} {t : Tm} {c : UInt8} {kids : Fo} {x y : Value} (e : Fo.nd c kids .nil = emb t .nil) (h : RepN w B c kids x y) : RepT w B t x y := by
  obtain ⟨h3, a, n, h4, _, h5⟩ := h
  cases t with
  | leaf c' => simp [emb] at e; obtain ⟨rfl, rfl⟩ := e; exact ⟨h3, a, n, h4⟩
  | un c' t1 =>
    simp [emb] at e; obtain ⟨rfl, rfl⟩ := e
    refine ⟨h3, ?_⟩
    rcases h5 with h5 | ⟨kb, rfl, h7, h8⟩
    · cases t1 <;> cases h5
    · obtain ⟨⟨x1, y1, k1, k2, k3⟩, _⟩ := repT_of _ _ _ _ h7 h8
      have hl : (emb t1 .nil).len = 1 := by cases t1 <;> rfl
      exact ⟨kb, n, x1, y1, by rw [h4, hl], h7, k1, k2, k3⟩
  | bin c' t1 t2 =>
    simp [emb] at e; obtain ⟨rfl, rfl⟩ := e
    refine ⟨h3, ?_⟩
    rcases h5 with h5 | ⟨kb, rfl, h7, h8⟩
    · cases t1 <;> cases h5
    · obtain ⟨⟨x1, y1, k1, k2, k3⟩, h9⟩ := repT_of _ _ _ _ h7 h8
      obtain ⟨⟨x2, y2, l1, l2, l3⟩, _⟩ := repT_of _ _ _ _ h7 h9
      have hl : (emb t1 (emb t2 .nil)).len = 2 := by cases t1 <;> cases t2 <;> rfl
      exact ⟨kb, n, x1, y1, x2, y2, by rw [h4, hl], h7, k1, k2, l1, l2, k3, l3⟩

/-- An open place: the kind that is wanted, the block, the offset. -/
structure GHole where
  kind : UInt8
  b : Nat
  o : Nat

def gstk : List GHole → List Value
  | [] => []
  | p :: L => gstk L ++ [lv p.kind, .pointer (some ⟨p.b, p.o, none⟩)]
theorem gstk_length (L : List GHole) : (gstk L).length = L.length * 2 := by
  induction L with
  | nil => rfl
  | cons p L ih => simp [gstk, ih]; omega
theorem gstk_top0 (p : GHole) (L : List GHole) : (gstk (p :: L))[L.length * 2]? = some (lv p.kind) := by
  rw [← gstk_length L]; simp [gstk]
theorem gstk_top1 (p : GHole) (L : List GHole) : (gstk (p :: L))[L.length * 2 + 1]? = some (.pointer (some ⟨p.b, p.o, none⟩)) := by
  rw [← gstk_length L]; simp [gstk]

def GIn (L : List GHole) (b o : Nat) : Prop := ∃ p ∈ L, p.b = b ∧ (o = p.o ∨ o = p.o + 1)
def GKeeps (base : Nat) (w w' : World) (L : List GHole) : Prop := ∀ b o v, base ≤ b → (∃ cur, TB w b cur) → w.cell? ⟨b, o, none⟩ = some v → ¬ GIn L b o → w'.cell? ⟨b, o, none⟩ = some v

/-- The trees stand in the open places. -/
def GRep (w : World) (B : Nat) : List GHole → Fo → Prop
  | [], f => f = .nil
  | p :: L, f => ∃ c kids rest x y, f = .nd c kids rest ∧ w.cell? ⟨p.b, p.o, none⟩ = some x ∧ w.cell? ⟨p.b, p.o + 1, none⟩ = some y ∧ RepN w B c kids x y ∧ GRep w B L rest

structure GPend (w : World) (base : Nat) (L : List GHole) (F : Fo → Fo) (rb : Nat) : Prop where
  cells : ∀ p ∈ L, base ≤ p.b ∧ p.o % 2 = 0 ∧ ∃ cur, TB w p.b cur ∧ p.o + 1 < cur.size
  apart : L.Pairwise fun p q => ¬ (p.b = q.b ∧ p.o = q.o)
  rep : ∀ w' f, GRep w' base L f → GKeeps base w w' L → RepF w' base (F f) rb 0

theorem GPend.start (w : World) (base rb : Nat) (k : UInt8) (cur : Array Value) (hb : base ≤ rb) (h : TB w rb cur) (hs : 1 < cur.size) : GPend w base [⟨k, rb, 0⟩] (fun f => f) rb where
  cells := by
    intro p hp
    simp at hp; subst hp
    exact ⟨hb, rfl, cur, h, hs⟩
  apart := by simp
  rep := by
    rintro w' f ⟨c, kids, rest, x, y, rfl, h1, h2, h3, h4⟩ _
    rw [show rest = .nil from h4]
    exact ⟨⟨x, y, h1, h2, h3⟩, trivial⟩

theorem GPend.keep {w w' : World} {base : Nat} {L : List GHole} {F : Fo → Fo} {rb : Nat} (h : GPend w base L F rb) (hk : ∀ b cur, TB w b cur → TB w' b cur) : GPend w' base L F rb where
  cells := fun p hp => by
    obtain ⟨h1, h2, cur, h3, h4⟩ := h.cells p hp
    exact ⟨h1, h2, cur, hk _ _ h3, h4⟩
  apart := h.apart
  rep := fun w2 ts hr hkeep => h.rep w2 ts hr fun b o v hB ⟨cur, hb⟩ hc hn =>
    hkeep b o v hB ⟨cur, hk _ _ hb⟩ (by rw [(hk _ _ hb).cell, ← hb.cell]; exact hc) hn

/-- What the top place becomes: a term with this letter and as many operands. -/
def gbuild (c : UInt8) (n : Nat) (f : Fo) : Fo := .nd c (f.take n) (f.drop n)
def gholes (nb : Nat) : Nat → List UInt8 → List GHole
  | _, [] => []
  | o, k :: l => ⟨k, nb, o⟩ :: gholes nb (o + 2) l
theorem gholes_len (nb o : Nat) (l : List UInt8) : (gholes nb o l).length = l.length := by
  induction l generalizing o with
  | nil => rfl
  | cons k l ih => simp [gholes, ih]
theorem gholes_kind (nb o : Nat) (l : List UInt8) : (gholes nb o l).map (·.kind) = l := by
  induction l generalizing o with
  | nil => rfl
  | cons k l ih => simp [gholes, ih]
theorem gholes_mem {nb o : Nat} {l : List UInt8} {q : GHole} (h : q ∈ gholes nb o l) : q.b = nb ∧ o ≤ q.o ∧ q.o % 2 = o % 2 ∧ q.o + 1 < o + l.length * 2 := by
  induction l generalizing o with
  | nil => simp [gholes] at h
  | cons k l ih =>
    simp only [gholes, List.mem_cons] at h
    rcases h with rfl | h
    · simp; omega
    · have := ih h
      simp only [List.length_cons]; omega
theorem gholes_apart (nb o : Nat) (l : List UInt8) : (gholes nb o l).Pairwise fun p q => ¬ (p.b = q.b ∧ p.o = q.o) := by
  induction l generalizing o with
  | nil => simp [gholes]
  | cons k l ih =>
    simp only [gholes, List.pairwise_cons]
    exact ⟨fun q hq e => by have := gholes_mem hq; have e2 : o = q.o := e.2; omega, ih _⟩
theorem grep_split {w : World} {B nb : Nat} {l : List UInt8} {L : List GHole} : ∀ {o : Nat} {f : Fo}, GRep w B (gholes nb o l ++ L) f → (f.take l.length).len = l.length ∧ RepF w B (f.take l.length) nb o ∧ GRep w B L (f.drop l.length) := by
  induction l with
  | nil => intro o f h; exact ⟨rfl, trivial, h⟩
  | cons k l ih =>
    intro o f h
    obtain ⟨c, kids, rest, x, y, rfl, h1, h2, h3, h4⟩ := h
    obtain ⟨a, b, c2⟩ := ih h4
    exact ⟨by simp [Fo.take, Fo.len, a], ⟨⟨x, y, h1, h2, h3⟩, b⟩, c2⟩

/-- One letter has been read: the top place is filled, its operands are open. -/
theorem GPend.step {w w1 : World} {base : Nat} {p : GHole} {L : List GHole} {F : Fo → Fo} {rb : Nat} (h : GPend w base (p :: L) F rb) (c : UInt8) (l : List UInt8) (nb : Nat) (zs : Array Value) (y : Value)
    (hold : ∀ b cur, TB w b cur → b ≠ p.b → TB w1 b cur) (hnb : w.heap.size ≤ nb) (hbase : base ≤ nb)
    (hp : ∀ cur, TB w p.b cur → TB w1 p.b ((cur.setIfInBounds p.o (lv c)).setIfInBounds (p.o + 1) y))
    (hz : TB w1 nb zs) (hzs : zs.size = l.length * 2) (hy : ∃ n, y = .slice (some ⟨nb, 0, none⟩) l.length n ∧ l.length ≤ n) :
    GPend w1 base (gholes nb 0 l ++ L) (fun f => F (gbuild c l.length f)) rb := by
  have hpc := h.cells p (by simp)
  obtain ⟨hp1, hp2, cur, hcur, hsz⟩ := hpc
  have hcur1 := hp cur hcur
  have hpnb : p.b ≠ nb := by have := hcur.lt; omega
  have cx : w1.cell? ⟨p.b, p.o, none⟩ = some (lv c) := by
    rw [hcur1.cell]; simp [Array.getElem?_setIfInBounds]; omega
  have cy : w1.cell? ⟨p.b, p.o + 1, none⟩ = some y := by
    rw [hcur1.cell]; simp [Array.getElem?_setIfInBounds]; omega
  have even : ∀ q ∈ p :: L, q.o % 2 = 0 := fun q hq => (h.cells q hq).2.1
  have hfar : ∀ q ∈ L, q.b ≠ nb := fun q hq => by obtain ⟨_, _, cq, h3, _⟩ := h.cells q (by simp [hq]); have := h3.lt; omega
  have notin : ∀ o, o = p.o ∨ o = p.o + 1 → ¬ GIn (gholes nb 0 l ++ L) p.b o := by
    rintro o ho ⟨q, hq, hb, ho'⟩
    rw [List.mem_append] at hq
    rcases hq with hq | hq
    · have := (gholes_mem hq).1; omega
    · have h1 := (List.pairwise_cons.1 h.apart).1 q hq
      have h2 := even q (by simp [hq])
      exact h1 ⟨hb.symm, by omega⟩
  refine ⟨?_, ?_, ?_⟩
  · intro q hq
    rw [List.mem_append] at hq
    rcases hq with hq | hq
    · obtain ⟨e1, e2, e3, e4⟩ := gholes_mem hq
      exact ⟨by omega, by omega, zs, by rw [e1]; exact hz, by omega⟩
    · obtain ⟨h1, h2, cq, h3, h4⟩ := h.cells q (by simp [hq])
      refine ⟨h1, h2, ?_⟩
      by_cases e : q.b = p.b
      · rw [e] at h3 ⊢
        exact ⟨_, hp cq h3, by simpa using h4⟩
      · exact ⟨cq, hold _ _ h3 e, h4⟩
  · rw [List.pairwise_append]
    refine ⟨gholes_apart _ _ _, (List.pairwise_cons.1 h.apart).2, fun q hq q2 hq2 e => ?_⟩
    exact hfar q2 hq2 (by have := (gholes_mem hq).1; omega)
  · intro w' f hr hk
    have kx : w'.cell? ⟨p.b, p.o, none⟩ = some (lv c) := hk p.b p.o _ hp1 ⟨_, hcur1⟩ cx (notin _ (.inl rfl))
    have ky : w'.cell? ⟨p.b, p.o + 1, none⟩ = some y := hk p.b (p.o + 1) _ hp1 ⟨_, hcur1⟩ cy (notin _ (.inr rfl))
    have hkeep : GKeeps base w w' (p :: L) := by
      intro b o v hB ⟨cb, hb⟩ hc hn
      have hbn : b ≠ nb := by have := hb.lt; omega
      have hn2 : ¬ GIn (gholes nb 0 l ++ L) b o := by
        rintro ⟨q, hq, hqb, hqo⟩
        rw [List.mem_append] at hq
        rcases hq with hq | hq
        · have := (gholes_mem hq).1; omega
        · exact hn ⟨q, by simp [hq], hqb, hqo⟩
      by_cases e : b = p.b
      · subst e
        refine hk p.b o v hB ⟨_, hp cb hb⟩ ?_ hn2
        rw [(hp cb hb).cell]
        rw [hb.cell] at hc
        have h1 : o ≠ p.o := fun e => hn ⟨p, by simp, rfl, .inl e⟩
        have h2 : o ≠ p.o + 1 := fun e => hn ⟨p, by simp, rfl, .inr e⟩
        rw [Array.getElem?_setIfInBounds, if_neg (by omega), Array.getElem?_setIfInBounds, if_neg (by omega)]
        exact hc
      · exact hk b o v hB ⟨cb, hold _ _ hb e⟩ (by rw [(hold _ _ hb e).cell, ← hb.cell]; exact hc) hn2
    obtain ⟨n, rfl, hyn⟩ := hy
    obtain ⟨a, b, c2⟩ := grep_split hr
    exact h.rep w' _ ⟨c, _, _, _, _, rfl, kx, ky, ⟨rfl, _, n, by rw [a], by rw [a]; exact hyn, .inr ⟨nb, rfl, hbase, b⟩⟩, c2⟩ hkeep

theorem GPend.done {w w' : World} {base : Nat} {F : Fo → Fo} {rb : Nat} (h : GPend w base [] F rb) (hk : ∀ b o v, base ≤ b → w.cell? ⟨b, o, none⟩ = some v → w'.cell? ⟨b, o, none⟩ = some v) : RepF w' base (F .nil) rb 0 :=
  h.rep w' .nil rfl fun b o v hB _ hc _ => hk b o v hB hc

/-- What has been read so far: whatever trees come to stand in the open places, their bytes behind those that have been read are the bytes of the whole tree. -/
structure GSofar (k : UInt8) (pre : List UInt8) (ks : List UInt8) (F : Fo → Fo) : Prop where
  ok : ∀ f, FOk false f ks → FOk false (F f) [k]
  ser : ∀ f, FOk false f ks → (F f).ser = pre ++ f.ser
theorem GSofar.start (k : UInt8) : GSofar k [] [k] (fun f => f) where
  ok := fun _ h => h
  ser := fun _ _ => rfl
theorem GSofar.step {k : UInt8} {pre : List UInt8} {k0 : UInt8} {ks : List UInt8} {F : Fo → Fo} (h : GSofar k pre (k0 :: ks) F) {c : UInt8} {l : List UInt8} (hl : gopk false k0 c = some l) : GSofar k (pre ++ [c]) (l ++ ks) (fun f => F (gbuild c l.length f)) where
  ok := fun f hf => h.ok _ ⟨_, _, l, rfl, hl, hf.split.1, hf.split.2⟩
  ser := fun f hf => by
    rw [h.ser (gbuild c l.length f) ⟨_, _, l, rfl, hl, hf.split.1, hf.split.2⟩]
    simp [gbuild, Fo.ser, Fo.take_drop]
end Go.Proofs.Ytheclmdpiijakaa

namespace Go.Proofs.Ytheclmdpiijakaa
open Go.RowKit

def gstr (l : List UInt8) : ByteArray := ⟨l.toArray⟩

theorem ne_of_gopk {k : UInt8} {r : Int} (h : ∀ c : UInt8, (c.toNat : Int) = r → gopk0 false k c = none) (d : UInt8) (hd : gopk0 false k d ≠ none) : (r == (d.toNat : Int)) = false := by
  rw [beq_eq_false_iff_ne]
  rintro rfl
  exact hd (h d rfl)

/-- The kinds. -/
def IsKind (k : UInt8) : Prop := NarK k ∨ wideK k = true
theorem wideK_cases {k : UInt8} (h : wideK k = true) : k = 69 ∨ k = 84 ∨ k = 86 ∨ k = 80 := by simpa [wideK, or_assoc] using h
theorem wideK_nark {k : UInt8} (h : wideK k = true) : NarK (k + 32) := by
  rcases wideK_cases h with rfl | rfl | rfl | rfl <;> simp [NarK]
theorem gopk0_kind {wide : Bool} {k c : UInt8} {l : List UInt8} (h : gopk0 wide k c = some l) : NarK k := by
  unfold gopk0 at h
  by_cases h1 : k = 101
  · exact .inl h1
  rw [if_neg h1] at h
  by_cases h2 : k = 116
  · exact .inr (.inl h2)
  rw [if_neg h2] at h
  by_cases h3 : k = 118
  · exact .inr (.inr (.inl h3))
  rw [if_neg h3] at h
  by_cases h4 : k = 112
  · exact .inr (.inr (.inr h4))
  rw [if_neg h4] at h
  cases h
theorem gopk_kind {wide : Bool} {k c : UInt8} {l : List UInt8} (h : gopk wide k c = some l) : IsKind k := by
  by_cases hw : wideK k = true
  · exact .inr hw
  · simp only [Bool.not_eq_true] at hw
    rw [gopk_of hw] at h
    exact .inl (gopk0_kind h)
theorem gopk_kinds {wide : Bool} {k c : UInt8} {l : List UInt8} (h : gopk wide k c = some l) : (∀ k2 ∈ l, IsKind k2) ∧ l.length ≤ 3 := by
  by_cases hw : wideK k = true
  · rw [gopk_wide hw] at h
    cases ho : gopk0 true (k + 32) c with
    | none => rw [ho] at h; cases h
    | some l0 =>
      rw [ho] at h
      simp at h
      subst h
      rcases gopk0_lists ho with rfl | rfl | rfl | rfl | rfl | rfl | rfl | rfl <;> simp [IsKind, wideK]
  · simp only [Bool.not_eq_true] at hw
    rw [gopk_of hw] at h
    rcases gopk0_lists h with rfl | rfl | rfl | rfl | rfl | rfl | rfl | rfl <;> simp [IsKind, NarK]
theorem gopk0_ascii {wide : Bool} {k c : UInt8} {l : List UInt8} (h : gopk0 wide k c = some l) : c.toNat < 128 := by
  rcases gopk0_kind h with rfl | rfl | rfl | rfl
  · have h2 := gopk_kc wide false c
    simp only [kc] at h2
    rw [gopk_of rfl] at h2
    cases ho : opk wide false c with
    | none => rw [ho] at h2; simp at h2; rw [h] at h2; cases h2
    | some l2 => exact opk_ascii ho
  · have h2 := gopk_kc wide true c
    simp only [kc] at h2
    rw [gopk_of (by rfl)] at h2
    cases ho : opk wide true c with
    | none => rw [ho] at h2; simp at h2; rw [h] at h2; cases h2
    | some l2 => exact opk_ascii ho
  · simp only [gopk0] at h
    simp at h
    obtain ⟨h, _⟩ := h
    simp [isVarB] at h
    rcases h with ((rfl | rfl) | rfl) | ⟨_, (rfl | rfl) | rfl⟩ <;> decide
  · rcases gopk_p (wide := wide) (by rw [gopk_of rfl]; exact h) with ⟨rfl, _⟩ | ⟨rfl, _⟩ | ⟨h, _⟩ | ⟨rfl, _⟩ | ⟨rfl, _⟩ | ⟨rfl, _⟩
    · decide
    · decide
    · rcases h with rfl | rfl <;> decide
    · decide
    · decide
    · decide
theorem gopk_ascii {wide : Bool} {k c : UInt8} {l : List UInt8} (h : gopk wide k c = some l) : c.toNat < 128 := by
  by_cases hw : wideK k = true
  · rw [gopk_wide hw] at h
    cases ho : gopk0 true (k + 32) c with
    | none => rw [ho] at h; cases h
    | some l0 => exact gopk0_ascii ho
  · simp only [Bool.not_eq_true] at hw
    rw [gopk_of hw] at h
    exact gopk0_ascii h

def upS (l : List UInt8) : ByteArray := gstr (l.map (· - 32))
theorem code_sub {k : UInt8} (h : wideK k = true) : ((k.toNat : Int) + 32 = ((k + 32).toNat : Int)) ∧ (k.toNat : Int) < 128 := by
  rcases wideK_cases h with rfl | rfl | rfl | rfl <;> decide
end Go.Proofs.Ytheclmdpiijakaa

namespace Go.Proofs.Ytheclmdpiijakaa
open Go.RowKit

/-- The rune of the first state for one of the second. -/
def nrr (r : Int) : Int := if 88 ≤ r ∧ r ≤ 90 then r + 32 else r
end Go.Proofs.Ytheclmdpiijakaa

namespace Go.Proofs.Ytheclmdpiijakaa
open Go.RowKit

/-- How many bytes a text of a kind may have. -/
def lim (k : UInt8) : Nat := if k = 80 then 1000 else 200
theorem lim_le (k : UInt8) : lim k ≤ 1000 := by unfold lim; split <;> omega
def MustPost (k : UInt8) (s : ByteArray) (w : World) (e : Ending) (w' : World) : Prop :=
  Below w.heap.size w w' ∧ ((∃ c kids x y, FOk false (.nd c kids .nil) [k] ∧ s.data.toList = (Fo.nd c kids .nil).ser ∧ s.size ≤ lim k ∧ e = .returned (.agg #[x, y]) ∧ RepN w' (w.heap.size + 1) c kids x y) ∨
    (¬ (GValid false k s.data.toList ∧ s.size ≤ lim k) ∧ ∃ v, e = .panicked [{ v := .iface 9 v, recovered := false }]))

theorem heap_at_new {w : World} {o : Obj} {k : Nat} (h : k = w.heap.size) : (w.alloc o).heap[k]? = some o := by subst h; exact heap_alloc_new w o
theorem heap_at_old {w : World} {o x : Obj} {k : Nat} (h : w.heap[k]? = some x) : (w.alloc o).heap[k]? = some x := (Below.heap_alloc w o k (Array.getElem?_eq_some_iff.1 h).1).trans h

theorem drop_cons (s : ByteArray) (pos : Nat) (h : pos < s.size) : s.data.toList.drop pos = s[pos] :: s.data.toList.drop (pos + 1) := by
  rw [List.drop_eq_getElem_cons (by simpa using h)]; rfl
theorem take_snoc (s : ByteArray) (k : Nat) (h : k < s.size) : s.data.toList.take (k + 1) = s.data.toList.take k ++ [s[k]] := by
  rw [List.take_succ_eq_append_getElem (by simpa using h)]; rfl

theorem post_bad {k : UInt8} {s : ByteArray} {w w' : World} {e : Ending} (hb : Below w.heap.size w w') (hm : gmach false [k] s.data.toList = false) (he : ∃ v, e = .panicked [{ v := .iface 9 v, recovered := false }]) : MustPost k s w e w' :=
  ⟨hb, .inr ⟨fun h => (by rw [gmach_iff.2 h.1] at hm; cases hm), he⟩⟩

structure Filled (W1 wq : World) (p : GHole) (x y : Value) (nz : Nat) (o1 o2 : Obj) : Prop where
  old : ∀ (b : Nat) (o : Obj), W1.heap[b]? = some o → b ≠ p.b → wq.heap[b]? = some o
  top : ∀ cur, TB W1 p.b cur → TB wq p.b ((cur.setIfInBounds p.o x).setIfInBounds (p.o + 1) y)
  n1 : wq.heap[W1.heap.size]? = some o1
  n2 : wq.heap[nz]? = some o2
  size : W1.heap.size + 1 ≤ nz
  bel : ∀ w B, Below B w W1 → B ≤ p.b → Below B w wq

theorem own_kept {w w' : World} {base : Nat} {e : TypeId} {size : Nat} {v : Value} {n : Nat} {xs : List Value} (h : w.ownsRow base e size v n xs) (hb : Below w.heap.size w w') : w'.ownsRow base e size v n xs := by
  obtain ⟨h1, h2⟩ := h
  refine ⟨h1, ?_⟩
  rcases h2 with h2 | ⟨g, cap, cur, a, b, c, d⟩
  · exact .inl h2
  · exact .inr ⟨g, cap, cur, a, b, (hb.block g (Array.getElem?_eq_some_iff.1 c).1).trans c, d⟩
theorem ckm {w w' : World} {b o : Nat} {v : Value} (hb : Below w.heap.size w w') (h : w.cell? ⟨b, o, none⟩ = some v) : w'.cell? ⟨b, o, none⟩ = some v := (hb.cell (p := ⟨b, o, none⟩) (cell_lt h)).trans h
theorem tb_kept {w w' : World} {b : Nat} {cur : Array Value} (h : TB w b cur) (hb : Below w.heap.size w w') : TB w' b cur := (hb.block b h.lt).trans h
theorem filled {W1 W2 : World} {p : GHole} {cur : Array Value} (hcur : TB W1 p.b cur) (o1 o2 : Obj) (hq : Below (W1.alloc o1).heap.size (W1.alloc o1) W2) (x y : Value) : Filled W1 (((W2.setCell ⟨p.b, p.o, none⟩ x).setCell ⟨p.b, p.o + 1, none⟩ y).alloc o2).drew p x y W2.heap.size o1 o2 where
  old := fun b o h hb => by
    have hlt : b < W1.heap.size := (Array.getElem?_eq_some_iff.1 h).1
    refine heap_at_old ?_
    rw [Below.heap_setCell _ _ _ _ hb, Below.heap_setCell _ _ _ _ hb]
    exact (hq.block b (by simp; omega)).trans (heap_at_old h)
  top := fun c hc => by
    have h2 : TB W2 p.b c := (hq.block p.b (by have := hc.lt; simp; omega)).trans (heap_at_old hc)
    refine heap_at_old ?_
    unfold TB at h2
    simp [World.setCell, Array.getElem?_modify, h2]
  n1 := by
    have hlt := hcur.lt
    refine heap_at_old ?_
    rw [Below.heap_setCell _ _ _ _ (by simp; omega), Below.heap_setCell _ _ _ _ (by simp; omega)]
    exact (hq.block W1.heap.size (by simp)).trans (heap_at_new rfl)
  n2 := heap_at_new (by simp [World.setCell])
  size := by have := hq.size; simpa using this
  bel := fun w B h hb => by
    have hlt := hcur.lt
    have h2 : Below B w W2 := (h.alloc (by omega) o1).trans (hq.mono (by simp; omega))
    exact (((h2.setCell (p := ⟨p.b, p.o, none⟩) hb _).setCell (p := ⟨p.b, p.o + 1, none⟩) hb _).alloc (by have := hq.size; simp [World.setCell] at this ⊢; omega) _).drew

theorem own_row {w : World} {base : Nat} {e : TypeId} {size g n cap m : Nat} {xs : List Value} (h : w.ownsRow base e size (.slice (some ⟨g, 0, none⟩) n cap) m xs) : ∃ cur, w.heap[g]? = some (.cells cur e (0, 0)) := by
  rcases h.2 with ⟨h0, _⟩ | ⟨g', cap', cur, hv, _, hh, _⟩
  · cases h0
  · cases hv; exact ⟨cur, hh⟩

theorem mk0 : ∀ w, (Instr.makeSlice 115 (.int .i64 0) (.int .i64 0)).run Try.prog w = .ok (.slice (some ⟨w.heap.size, 0, none⟩) 0 0) (w.alloc (.cells #[] 117)) := fun _ => by kernel_rfl
theorem mk1 : ∀ w, (Instr.makeSlice 115 (.int .i64 1) (.int .i64 1)).run Try.prog w = .ok (.slice (some ⟨w.heap.size, 0, none⟩) 1 1) (w.alloc (.cells #[.int .u8 0, .slice none 0 0] 117)) := fun _ => by kernel_rfl
theorem mk2 : ∀ w, (Instr.makeSlice 115 (.int .i64 2) (.int .i64 2)).run Try.prog w = .ok (.slice (some ⟨w.heap.size, 0, none⟩) 2 2) (w.alloc (.cells #[.int .u8 0, .slice none 0 0, .int .u8 0, .slice none 0 0] 117)) := fun _ => by kernel_rfl

theorem mk3 : ∀ w, (Instr.makeSlice 115 (.int .i64 3) (.int .i64 3)).run Try.prog w = .ok (.slice (some ⟨w.heap.size, 0, none⟩) 3 3) (w.alloc (.cells #[.int .u8 0, .slice none 0 0, .int .u8 0, .slice none 0 0, .int .u8 0, .slice none 0 0] 117)) := fun _ => by kernel_rfl
theorem mkn (n : Nat) (hn : n ≤ 3) : ∃ zs : Array Value, zs.size = n * 2 ∧ ∀ w, (Instr.makeSlice 115 (.int .i64 n) (.int .i64 n)).run Try.prog w = .ok (.slice (some ⟨w.heap.size, 0, none⟩) n n) (w.alloc (.cells zs 117)) := by
  match n, hn with
  | 0, _ => exact ⟨_, rfl, mk0⟩
  | 1, _ => exact ⟨_, rfl, mk1⟩
  | 2, _ => exact ⟨_, rfl, mk2⟩
  | 3, _ => exact ⟨_, rfl, mk3⟩

theorem gstr_size (l : List UInt8) : (gstr l).size = l.length := by simp [gstr, ByteArray.size]

theorem ownsRow_iterAt' {w : World} {base : Nat} {e : TypeId} {size : Nat} {v : Value} {n : Nat} {xs : List Value} (h : w.ownsRow base e size v n xs) {k : Nat} {s : ByteArray} {p0 : Nat} (hk : w.heap[k]? = some (.stringIter s p0)) (p : Nat) : (w.iterAt k s p).ownsRow base e size v n xs := by
  obtain ⟨h1, h2⟩ := h
  refine ⟨h1, ?_⟩
  rcases h2 with h2 | ⟨g, cap, cur, a, b, c, d⟩
  · exact .inl h2
  · exact .inr ⟨g, cap, cur, a, b, by rw [Lib.iterAt_other _ _ _ _ _ (by rintro rfl; rw [hk] at c; cases c)]; exact c, d⟩

/-- A rune at which no term of the kind begins. -/
theorem rune_bad {k : UInt8} {s : ByteArray} {pos : Nat} (hp : pos < s.size) (h : gopk false k s[pos] = none) : ∀ c : UInt8, (c.toNat : Int) = ((Utf8.decode s pos).1 : Int) → gopk false k c = none := by
  intro c hc
  by_cases ha : (s[pos]).toNat < 128
  · rw [decode_ascii s pos hp ha] at hc
    have : c = s[pos] := UInt8.toNat_inj.1 (by simp only [Int.natCast_inj] at hc; exact hc)
    rw [this]; exact h
  · have h2 := (decode_high s pos hp (by omega)).1
    cases ho : gopk false k c with
    | none => rfl
    | some l => have := gopk_ascii ho; omega

end Go.Proofs.Ytheclmdpiijakaa

namespace Go.Proofs.Ytheclmdpiijakaa
open Go.RowKit

theorem fok_kind {c : UInt8} {kids : Fo} {k : UInt8} (h : FOk false (.nd c kids .nil) [k]) : IsKind k := by
  obtain ⟨k', ks', l, e, h1, _⟩ := h
  cases e
  exact gopk_kind h1

theorem kc_int (k : Bool) : ((kc k).toNat : Int) = kcode k := by cases k <;> rfl
theorem valid_gvalid {k : Bool} {l : List UInt8} : GValid false (kc k) l ↔ Valid false k l := by
  constructor
  · rintro ⟨f, hf, rfl⟩
    obtain ⟨t, r, rfl, ht, hr⟩ := emb_inv hf
    rw [FOk.nil_inv hr]
    exact ⟨t, ht, by rw [emb_ser]; simp [Fo.ser]⟩
  · rintro ⟨t, ht, rfl⟩
    exact ⟨emb t .nil, emb_ok ht rfl, by rw [emb_ser]; simp [Fo.ser]⟩
theorem kc_kind (k : Bool) : IsKind (kc k) := by cases k <;> simp [kc, IsKind, NarK]
theorem kc_lim (k : Bool) : lim (kc k) = 200 := by cases k <;> rfl
def wcode (k : Bool) : Int := if k then 84 else 69
theorem kcw (k : Bool) : NarK (kc k) ∧ IsKind (kc k - 32) ∧ lim (kc k - 32) = 200 ∧ ((kc k - 32).toNat : Int) = wcode k := by cases k <;> simp [kc, IsKind, NarK, wideK, lim, wcode]
theorem emb_w {k : Bool} {t : Tm} (ht : Ok true k t) : FOk false (emb t .nil) [kc k - 32] := (fok_wide (emb t .nil) [kc k] (by simpa using (kcw k).1)).2 (emb_ok ht rfl)
theorem validw_gvalid {k : Bool} {l : List UInt8} : GValid false (kc k - 32) l ↔ Valid true k l := by
  rw [gvalid_wide (kcw k).1]
  constructor
  · rintro ⟨f, hf, rfl⟩
    obtain ⟨t, r, rfl, ht, hr⟩ := emb_inv hf
    rw [FOk.nil_inv hr]
    exact ⟨t, ht, by rw [emb_ser]; simp [Fo.ser]⟩
  · rintro ⟨t, ht, rfl⟩
    exact ⟨emb t .nil, emb_ok ht rfl, by rw [emb_ser]; simp [Fo.ser]⟩
end Go.Proofs.Ytheclmdpiijakaa

namespace Go.Proofs.Ytheclmdpiijakaa
open Go.RowKit

def fnd (l : List UInt8) (c : UInt8) : Int := match l.findIdx? (· == c) with | some i => i | none => -1

theorem fnd_hit {l : List UInt8} {c : UInt8} {i : Nat} (hi : i < l.length) (h : l[i] = c) (hb : ∀ j (_ : j < i), l[j]? ≠ some c) : fnd l c = i := by
  have : l.findIdx? (· == c) = some i := by
    rw [List.findIdx?_eq_some_iff_getElem]
    refine ⟨hi, by simp [h], fun j hj => ?_⟩
    have := hb j hj
    rw [List.getElem?_eq_getElem (by omega)] at this
    simpa using this
  unfold fnd; rw [this]
theorem fnd_miss {l : List UInt8} {c : UInt8} (h : ∀ j : Nat, l[j]? ≠ some c) : fnd l c = -1 := by
  have : l.findIdx? (· == c) = none := by
    rw [List.findIdx?_eq_none_iff]
    intro x hx
    obtain ⟨i, hi, rfl⟩ := List.getElem_of_mem hx
    have := h i
    rw [List.getElem?_eq_getElem hi] at this
    simpa using this
  unfold fnd; rw [this]

set_option maxHeartbeats 1000000 in
theorem find_any (s : ByteArray) (c : UInt8) (w : World) (hs : s.size ≤ maxLen) : Calls Try.prog 77 #[.string s, .int .u8 c.toNat] w fun e w' => e = .returned (.int .i64 (fnd s.data.toList c)) ∧ w = w' := by
  unfold maxLen at hs
  go_enter Try.func77, Try.ntmps77
  go_wp2
  go_loop [5] (fun i => ∃ k : Nat, k ≤ s.size ∧ i = .int .i64 k ∧ Hid (∀ j, j < k → s.data.toList[j]? ≠ some c)) (fun i => s.size - (intOf i).toNat)
  case atStart => exact ⟨0, Nat.zero_le _, rfl, fun j hj => by omega⟩
  case round =>
    obtain ⟨k, hk, rfl, HH⟩ := hrel
    by_cases hlt : k < s.size
    · have hd : Hid (s.data.toList[k]? = some s[k]) := List.getElem?_eq_getElem (by simpa using hlt)
      by_cases hc : s[k] = c
      · have hfin : Hid (fnd s.data.toList c = k) := fnd_hit (by simpa using hlt) hc HH.out
        have ht : ((s[k].toNat : Int) == (c.toNat : Int)) = true := by rw [hc]; simp
        clear hc
        go_wp2
        go_ret
        exact ⟨by rw [hfin.out]; rfl, rfl⟩
      · have ht : ((s[k].toNat : Int) == (c.toNat : Int)) = false := by
          rw [beq_eq_false_iff_ne]; intro e; exact hc (UInt8.toNat_inj.1 (by exact_mod_cast e))
        have H2 : Hid (∀ j, j < k + 1 → s.data.toList[j]? ≠ some c) := fun j hj => by
          by_cases e : j = k
          · subst e; rw [hd.out]; simpa using hc
          · exact HH.out j (by omega)
        clear hc
        go_wp2
        go_round
        case rel => exact ⟨k + 1, by omega, by go_num, H2⟩
        case measure => simp [intOf]; omega
    · have hfin : Hid (fnd s.data.toList c = -1) := fnd_miss fun j => by
        by_cases hj : j < k
        · exact HH.out j hj
        · rw [List.getElem?_eq_none (by simp; omega)]; simp
      go_wp2
      go_ret
      exact ⟨by rw [hfin.out]; rfl, rfl⟩

theorem names_one (w : World) : Calls Try.prog 76 #[.bool false] w fun e w' => e = .returned (.string ⟨#[120, 121, 122]⟩) ∧ w = w' := by
  go_enter Try.func76, Try.ntmps76
  go_wp2
  go_ret
  exact ⟨rfl, rfl⟩
theorem names_two (w : World) : Calls Try.prog 76 #[.bool true] w fun e w' => e = .returned (.string ⟨#[120, 121, 122, 88, 89, 90]⟩) ∧ w = w' := by
  go_enter Try.func76, Try.ntmps76
  go_wp2
  go_ret
  exact ⟨rfl, rfl⟩
end Go.Proofs.Ytheclmdpiijakaa

namespace Go.Proofs.Ytheclmdpiijakaa
open Go.RowKit Tm

def nm (wide : Bool) : ByteArray := if wide then ⟨#[120, 121, 122, 88, 89, 90]⟩ else ⟨#[120, 121, 122]⟩

theorem names_any (wide : Bool) (w : World) : Calls Try.prog 76 #[.bool wide] w fun e w' => e = .returned (.string (nm wide)) ∧ w' = w := by
  cases wide
  · exact (names_one w).mono fun _ _ ⟨h, h2⟩ => ⟨h, h2.symm⟩
  · exact (names_two w).mono fun _ _ ⟨h, h2⟩ => ⟨h, h2.symm⟩

theorem find_at {s : ByteArray} {c : UInt8} {r : Int} (h : fnd s.data.toList c = r) (w : World) (hs : s.size ≤ maxLen) : Calls Try.prog 77 #[.string s, .int .u8 c.toNat] w fun e w' => e = .returned (.int .i64 r) ∧ w' = w := by
  subst h
  exact (find_any s c w hs).mono fun _ _ ⟨h, h2⟩ => ⟨h, h2.symm⟩

theorem fnd_cons (d : UInt8) (l : List UInt8) (c : UInt8) : 0 ≤ fnd (d :: l) c ↔ (c == d) = true ∨ 0 ≤ fnd l c := by
  unfold fnd
  rw [List.findIdx?_cons, show (c == d) = (d == c) by rw [Bool.eq_iff_iff, beq_iff_eq, beq_iff_eq]; exact eq_comm]
  cases h : d == c
  · simp
    cases l.findIdx? (fun x => x == c) <;> simp
    omega
  · simp
theorem fnd_nil (c : UInt8) : fnd [] c = -1 := rfl
theorem fnd_neg (l : List UInt8) (c : UInt8) : 0 ≤ fnd l c ∨ fnd l c = -1 := by
  unfold fnd
  split
  · left; omega
  · right; rfl
theorem nm_var (wide : Bool) (c : UInt8) : 0 ≤ fnd (nm wide).data.toList c ↔ isVarB wide c = true := by
  cases wide
  · show 0 ≤ fnd [120, 121, 122] c ↔ _
    simp only [fnd_cons, fnd_nil, isVarB]; simp [or_assoc]
  · show 0 ≤ fnd [120, 121, 122, 88, 89, 90] c ↔ _
    simp only [fnd_cons, fnd_nil, isVarB]; simp [or_assoc]
theorem dig_fnd (c : UInt8) : 0 ≤ fnd [48, 49, 50] c ↔ isDigB c = true := by
  simp only [fnd_cons, fnd_nil, isDigB]; simp [or_assoc]
theorem op_fnd (c : UInt8) : 0 ≤ fnd [43, 45, 42] c ↔ isOpB c = true := by
  simp only [fnd_cons, fnd_nil, isOpB]; simp [or_assoc]
theorem fnd_yes {l : List UInt8} {c : UInt8} (h : 0 ≤ fnd l c) : ∃ n : Nat, fnd l c = n := ⟨(fnd l c).toNat, by omega⟩
theorem fnd_no {l : List UInt8} {c : UInt8} (h : ¬ 0 ≤ fnd l c) : fnd l c = -1 := (fnd_neg l c).resolve_left h

/-- It only reads: the world behind the call is the one before it, after some draws. -/
def Quiet (v : Value) (w : World) (e : Ending) (w' : World) : Prop := e = .returned v ∧ ∃ n, w' = w.drewN n

theorem drop_cons' (s : ByteArray) (pos : Nat) (h : pos < s.size) : s.data.toList.drop pos = s[pos] :: s.data.toList.drop (pos + 1) := by
  rw [List.drop_eq_getElem_cons (by simpa using h)]; rfl

set_option maxHeartbeats 1000000 in
theorem expr_neg (wide : Bool) (s : ByteArray) (a : Int) (w : World) (ha : a < 0) : Calls Try.prog 96 #[.string s, .int .i64 a, .bool wide] w (Quiet (.int .i64 (-1)) w) := by
  go_enter Try.func96, Try.ntmps96
  go_wp2_with fail
  go_ret
  exact ⟨rfl, 0, rfl⟩

set_option maxHeartbeats 1000000 in
theorem expr_past (wide : Bool) (s : ByteArray) (a : Nat) (w : World) (ha : s.size ≤ a) : Calls Try.prog 96 #[.string s, .int .i64 a, .bool wide] w (Quiet (.int .i64 (-1)) w) := by
  have h0 : (0 : Int) ≤ (a : Int) := by omega
  have h1 : ¬ (a : Int) < (s.size : Int) := by omega
  go_enter Try.func96, Try.ntmps96
  go_wp2_with fail
  go_ret
  exact ⟨rfl, 0, rfl⟩

theorem nm_le (wide : Bool) : (nm wide).size ≤ maxLen := by cases wide <;> simp [nm, maxLen, ByteArray.size]

set_option maxHeartbeats 1000000 in
theorem expr_leaf (wide : Bool) (s : ByteArray) (a : Nat) (w : World) (hs : s.size ≤ 1000000) (ha : a < s.size) (hc : (isVarB wide s[a] || isDigB s[a]) = true) : Calls Try.prog 96 #[.string s, .int .i64 a, .bool wide] w (Quiet (.int .i64 (a + 1)) w) := by
  have h0 : (0 : Int) ≤ (a : Int) := by omega
  have h1 : (a : Int) < (s.size : Int) := by omega
  have hnm := nm_le wide
  by_cases hv : isVarB wide s[a] = true
  · obtain ⟨n, hn⟩ := fnd_yes ((nm_var wide s[a]).2 hv)
    have hn0 : (0 : Int) ≤ (n : Int) := by omega
    have HN := Lib.hid hn
    clear hn hc hv
    go_enter Try.func96, Try.ntmps96
    go_wp2_with fail
    go_quiet ((first | (go_at_call 76; exact Calls.quiet_of_same (names_any _ _)) | (go_at_call 77; exact Calls.quiet_of_same (find_at HN.out _ hnm))))
    go_wp2_with fail
    go_ret
    exact ⟨rfl, nq, rfl⟩
  · have hd : isDigB s[a] = true := by simpa [hv] using hc
    have HM := Lib.hid (fnd_no (fun h => hv ((nm_var wide s[a]).1 h)))
    obtain ⟨n, hn⟩ := fnd_yes ((dig_fnd s[a]).2 hd)
    have hn0 : (0 : Int) ≤ (n : Int) := by omega
    have HN := Lib.hid hn
    clear hn hc hv hd
    go_enter Try.func96, Try.ntmps96
    go_wp2_with fail
    go_quiet ((first | (go_at_call 76; exact Calls.quiet_of_same (names_any _ _)) | (go_at_call 77; first | (with_reducible exact Calls.quiet_of_same (find_at HM.out _ hnm)) | (exact Calls.quiet_of_same (find_at (s := ⟨#[48, 49, 50]⟩) HN.out _ (by decide))))))
    go_wp2_with fail
    go_ret
    exact ⟨rfl, nq, rfl⟩

set_option maxHeartbeats 1000000 in
theorem expr_bad (wide : Bool) (s : ByteArray) (a : Nat) (w : World) (_hs : s.size ≤ 1000000) (ha : a < s.size) (hv : ¬ isVarB wide s[a] = true) (hd : ¬ isDigB s[a] = true) (ho : ¬ isOpB s[a] = true) : Calls Try.prog 96 #[.string s, .int .i64 a, .bool wide] w (Quiet (.int .i64 (-1)) w) := by
  have h0 : (0 : Int) ≤ (a : Int) := by omega
  have h1 : (a : Int) < (s.size : Int) := by omega
  have hnm := nm_le wide
  have HM := Lib.hid (fnd_no (fun h => hv ((nm_var wide s[a]).1 h)))
  have HN := Lib.hid (fnd_no (fun h => hd ((dig_fnd s[a]).1 h)))
  have HO := Lib.hid (fnd_no (fun h => ho ((op_fnd s[a]).1 h)))
  clear hv hd ho
  go_enter Try.func96, Try.ntmps96
  go_wp2_with fail
  go_quiet ((first | (go_at_call 76; exact Calls.quiet_of_same (names_any _ _)) | (go_at_call 77; first | (with_reducible exact Calls.quiet_of_same (find_at HM.out _ hnm)) | (exact Calls.quiet_of_same (find_at (s := ⟨#[48, 49, 50]⟩) HN.out _ (by decide))))))
  go_wp2_with fail
  refine (find_at (s := ⟨#[43, 45, 42]⟩) HO.out _ (by decide)).mono ?_
  rintro e w' ⟨rfl, rfl⟩
  go_wp2_with fail
  go_ret
  exact ⟨rfl, nq, rfl⟩

theorem Quiet.after {v : Value} {w : World} {n : Nat} {e : Ending} {w' : World} (h : Quiet v (w.drewN n) e w') : Quiet v w e w' := by
  obtain ⟨h1, m, rfl⟩ := h
  exact ⟨h1, n + m, by rw [World.drewN_drewN]⟩

set_option maxHeartbeats 1000000 in
theorem expr_op (wide : Bool) (s : ByteArray) (a : Nat) (w : World) (hs : s.size ≤ 1000000) (ha : a < s.size) (hv : ¬ isVarB wide s[a] = true) (hd : ¬ isDigB s[a] = true) (ho : isOpB s[a] = true) (r1 r2 : Int)
    (c1 : ∀ w, Calls Try.prog 96 #[.string s, .int .i64 (a + 1), .bool wide] w (Quiet (.int .i64 r1) w)) (c2 : ∀ w, Calls Try.prog 96 #[.string s, .int .i64 r1, .bool wide] w (Quiet (.int .i64 r2) w)) :
    Calls Try.prog 96 #[.string s, .int .i64 a, .bool wide] w (Quiet (.int .i64 r2) w) := by
  have h0 : (0 : Int) ≤ (a : Int) := by omega
  have h1 : (a : Int) < (s.size : Int) := by omega
  have hnm := nm_le wide
  have HM := Lib.hid (fnd_no (fun h => hv ((nm_var wide s[a]).1 h)))
  have HN := Lib.hid (fnd_no (fun h => hd ((dig_fnd s[a]).1 h)))
  obtain ⟨n, hn⟩ := fnd_yes ((op_fnd s[a]).2 ho)
  have hn0 : (0 : Int) ≤ (n : Int) := by omega
  have HO := Lib.hid hn
  have C1 := Lib.hid c1
  have C2 := Lib.hid c2
  clear hv hd ho hn c1 c2
  go_enter Try.func96, Try.ntmps96
  go_wp2_with fail
  go_quiet ((first | (go_at_call 76; exact Calls.quiet_of_same (names_any _ _)) | (go_at_call 77; first | (with_reducible exact Calls.quiet_of_same (find_at HM.out _ hnm)) | (exact Calls.quiet_of_same (find_at (s := ⟨#[48, 49, 50]⟩) HN.out _ (by decide))))))
  go_wp2_with fail
  refine (find_at (s := ⟨#[43, 45, 42]⟩) HO.out _ (by decide)).mono ?_
  rintro e w' ⟨rfl, rfl⟩
  go_wp2_with fail
  refine (C1.out _).mono ?_
  rintro e w' ⟨rfl, n1, rfl⟩
  go_wp2_with fail
  refine (C2.out _).mono ?_
  rintro e w' ⟨rfl, n2, rfl⟩
  go_wp2_with fail
  go_ret
  exact ⟨rfl, nq + n1 + n2, rfl⟩

theorem opk_e (wide : Bool) (c : UInt8) : opk wide false c = if isVarB wide c || isDigB c then some [] else if isOpB c then some [false, false] else none := rfl

theorem expr_at (wide : Bool) (s : ByteArray) (hs : s.size ≤ 1000000) : ∀ (m : Nat) (a r : Int) (w : World), (s.size : Int) - a ≤ m → PrefAt wide false s.data.toList a r → Calls Try.prog 96 #[.string s, .int .i64 a, .bool wide] w (Quiet (.int .i64 r) w) := by
  intro m
  induction m with
  | zero =>
    intro a r w hm hr
    obtain ⟨i, rfl⟩ := Int.eq_ofNat_of_zero_le (show 0 ≤ a by omega)
    obtain rfl := hr.uniq (PrefAt.past (show s.data.toList.length ≤ i by simp; omega))
    exact expr_past wide s i w (by omega)
  | succ m ih =>
    intro a r w hm hr
    by_cases ha : a < 0
    · obtain rfl := hr.uniq (PrefAt.neg ha)
      exact expr_neg wide s a w ha
    · obtain ⟨i, rfl⟩ := Int.eq_ofNat_of_zero_le (show 0 ≤ a by omega)
      by_cases hi : i < s.size
      · have hd := drop_cons' s i hi
        by_cases hl : (isVarB wide s[i] || isDigB s[i]) = true
        · obtain rfl := hr.uniq (PrefAt.leaf hd (by rw [opk_e, if_pos hl]))
          exact expr_leaf wide s i w hs hi hl
        · have hv : ¬ isVarB wide s[i] = true := fun h => hl (by rw [h]; rfl)
          have hdg : ¬ isDigB s[i] = true := fun h => hl (by rw [h, Bool.or_true])
          by_cases ho : isOpB s[i] = true
          · obtain ⟨r1, h1⟩ := PrefAt.exists wide false s.data.toList (i + 1)
            obtain ⟨r2, h2⟩ := PrefAt.exists wide false s.data.toList r1
            obtain rfl := hr.uniq (PrefAt.bin hd (by rw [opk_e, if_neg hl, if_pos ho]) h1 h2)
            refine expr_op wide s i w hs hi hv hdg ho r1 _ (fun w => ih _ _ w (by omega) h1) (fun w => ?_)
            rcases h1.lo with h | h
            · subst h
              obtain rfl := h2.uniq (PrefAt.neg (by omega))
              exact expr_neg wide s _ w (by omega)
            · exact ih _ _ w (by omega) h2
          · obtain rfl := hr.uniq (PrefAt.bad hd (by rw [opk_e, if_neg hl, if_neg ho]))
            exact expr_bad wide s i w hs hi hv hdg ho
      · obtain rfl := hr.uniq (PrefAt.past (show s.data.toList.length ≤ i by simp; omega))
        exact expr_past wide s i w (by omega)

theorem expr_any (wide : Bool) (s : ByteArray) (hs : s.size ≤ 1000000) (a r : Int) (w : World) (hr : PrefAt wide false s.data.toList a r) : Calls Try.prog 96 #[.string s, .int .i64 a, .bool wide] w (Quiet (.int .i64 r) w) := by
  exact expr_at wide s hs ((s.size : Int) - a).toNat a r w (by omega) hr
set_option maxHeartbeats 1000000 in
theorem test_neg (wide : Bool) (s : ByteArray) (a : Int) (w : World) (ha : a < 0) : Calls Try.prog 78 #[.string s, .int .i64 a, .bool wide] w (Quiet (.int .i64 (-1)) w) := by
  go_enter Try.func78, Try.ntmps78
  go_wp2_with fail
  go_ret
  exact ⟨rfl, 0, rfl⟩

set_option maxHeartbeats 1000000 in
theorem test_past (wide : Bool) (s : ByteArray) (a : Nat) (w : World) (ha : s.size ≤ a) : Calls Try.prog 78 #[.string s, .int .i64 a, .bool wide] w (Quiet (.int .i64 (-1)) w) := by
  have h0 : (0 : Int) ≤ (a : Int) := by omega
  have h1 : ¬ (a : Int) < (s.size : Int) := by omega
  go_enter Try.func78, Try.ntmps78
  go_wp2_with fail
  go_ret
  exact ⟨rfl, 0, rfl⟩

set_option maxHeartbeats 2000000 in
theorem test_leaf (wide : Bool) (s : ByteArray) (a : Nat) (w : World) (hs : s.size ≤ 1000000) (ha : a < s.size) (hc : s[a].toNat = 116 ∨ s[a].toNat = 102) : Calls Try.prog 78 #[.string s, .int .i64 a, .bool wide] w (Quiet (.int .i64 (a + 1)) w) := by
  have h0 : (0 : Int) ≤ (a : Int) := by omega
  have h1 : (a : Int) < (s.size : Int) := by omega
  rcases hc with hc | hc
  all_goals
    go_enter Try.func78, Try.ntmps78
    go_wp2_with fail
    go_ret
    exact ⟨rfl, 0, rfl⟩

set_option maxHeartbeats 2000000 in
theorem test_cmp (wide : Bool) (s : ByteArray) (a : Nat) (w : World) (hs : s.size ≤ 1000000) (ha : a < s.size) (hc : s[a].toNat = 61 ∨ s[a].toNat = 60) (r1 r2 : Int)
    (c1 : ∀ w, Calls Try.prog 96 #[.string s, .int .i64 (a + 1), .bool wide] w (Quiet (.int .i64 r1) w)) (c2 : ∀ w, Calls Try.prog 96 #[.string s, .int .i64 r1, .bool wide] w (Quiet (.int .i64 r2) w)) :
    Calls Try.prog 78 #[.string s, .int .i64 a, .bool wide] w (Quiet (.int .i64 r2) w) := by
  have h0 : (0 : Int) ≤ (a : Int) := by omega
  have h1 : (a : Int) < (s.size : Int) := by omega
  have C1 := Lib.hid c1
  have C2 := Lib.hid c2
  clear c1 c2
  rcases hc with hc | hc
  all_goals
    go_enter Try.func78, Try.ntmps78
    go_wp2_with fail
    refine (C1.out _).mono ?_
    rintro e w' ⟨rfl, n1, rfl⟩
    go_wp2_with fail
    refine (C2.out _).mono ?_
    rintro e w' ⟨rfl, n2, rfl⟩
    go_wp2_with fail
    go_ret
    exact ⟨rfl, n1 + n2, rfl⟩


set_option maxHeartbeats 2000000 in
theorem test_bin (wide : Bool) (s : ByteArray) (a : Nat) (w : World) (hs : s.size ≤ 1000000) (ha : a < s.size) (hc : s[a].toNat = 38 ∨ s[a].toNat = 124) (r1 r2 : Int)
    (c1 : ∀ w, Calls Try.prog 78 #[.string s, .int .i64 (a + 1), .bool wide] w (Quiet (.int .i64 r1) w)) (c2 : ∀ w, Calls Try.prog 78 #[.string s, .int .i64 r1, .bool wide] w (Quiet (.int .i64 r2) w)) :
    Calls Try.prog 78 #[.string s, .int .i64 a, .bool wide] w (Quiet (.int .i64 r2) w) := by
  have h0 : (0 : Int) ≤ (a : Int) := by omega
  have h1 : (a : Int) < (s.size : Int) := by omega
  have C1 := Lib.hid c1
  have C2 := Lib.hid c2
  clear c1 c2
  rcases hc with hc | hc
  all_goals
    go_enter Try.func78, Try.ntmps78
    go_wp2_with fail
    refine (C1.out _).mono ?_
    rintro e w' ⟨rfl, n1, rfl⟩
    go_wp2_with fail
    refine (C2.out _).mono ?_
    rintro e w' ⟨rfl, n2, rfl⟩
    go_wp2_with fail
    go_ret
    exact ⟨rfl, n1 + n2, rfl⟩


set_option maxHeartbeats 2000000 in
theorem test_not (wide : Bool) (s : ByteArray) (a : Nat) (w : World) (hs : s.size ≤ 1000000) (ha : a < s.size) (hc : s[a].toNat = 33) (r1 : Int)
    (c1 : ∀ w, Calls Try.prog 78 #[.string s, .int .i64 (a + 1), .bool wide] w (Quiet (.int .i64 r1) w)) : Calls Try.prog 78 #[.string s, .int .i64 a, .bool wide] w (Quiet (.int .i64 r1) w) := by
  have h0 : (0 : Int) ≤ (a : Int) := by omega
  have h1 : (a : Int) < (s.size : Int) := by omega
  have C1 := Lib.hid c1
  clear c1
  go_enter Try.func78, Try.ntmps78
  go_wp2_with fail
  refine (C1.out _).mono ?_
  rintro e w' ⟨rfl, n1, rfl⟩
  go_wp2_with fail
  go_ret
  exact ⟨rfl, n1, rfl⟩

theorem byte_ne {c : UInt8} {d : UInt8} (h : (c == d) = false) : ((c.toNat : Int) == (d.toNat : Int)) = false := by
  rw [beq_eq_false_iff_ne] at h ⊢
  intro e; exact h (UInt8.toNat_inj.1 (by exact_mod_cast e))

set_option maxHeartbeats 2000000 in
theorem test_bad (wide : Bool) (s : ByteArray) (a : Nat) (w : World) (_hs : s.size ≤ 1000000) (ha : a < s.size) (hc : opk wide true s[a] = none) : Calls Try.prog 78 #[.string s, .int .i64 a, .bool wide] w (Quiet (.int .i64 (-1)) w) := by
  have h0 : (0 : Int) ≤ (a : Int) := by omega
  have h1 : (a : Int) < (s.size : Int) := by omega
  have hn : (s[a] == 116) = false ∧ (s[a] == 102) = false ∧ (s[a] == 61) = false ∧ (s[a] == 60) = false ∧ (s[a] == 33) = false ∧ (s[a] == 38) = false ∧ (s[a] == 124) = false := by
    generalize s[a] = c at hc
    unfold opk at hc
    simp only [if_true] at hc
    by_cases h1 : (c == 116 || c == 102) = true
    · rw [if_pos h1] at hc; cases hc
    rw [if_neg h1] at hc
    by_cases h2 : (c == 61 || c == 60) = true
    · rw [if_pos h2] at hc; cases hc
    rw [if_neg h2] at hc
    by_cases h3 : (c == 33) = true
    · rw [if_pos h3] at hc; cases hc
    rw [if_neg h3] at hc
    by_cases h4 : (c == 38 || c == 124) = true
    · rw [if_pos h4] at hc; cases hc
    simp only [Bool.not_eq_true, Bool.or_eq_false_iff] at h1 h2 h3 h4
    exact ⟨h1.1, h1.2, h2.1, h2.2, h3, h4.1, h4.2⟩
  obtain ⟨n1, n2, n3, n4, n5, n6, n7⟩ := hn
  have m1 := byte_ne n1; have m2 := byte_ne n2; have m3 := byte_ne n3; have m4 := byte_ne n4; have m5 := byte_ne n5; have m6 := byte_ne n6; have m7 := byte_ne n7
  simp at m1 m2 m3 m4 m5 m6 m7
  clear n1 n2 n3 n4 n5 n6 n7 hc
  go_enter Try.func78, Try.ntmps78
  go_wp2_with fail
  go_ret
  exact ⟨rfl, 0, rfl⟩

theorem opk_t {wide : Bool} {c : UInt8} {l : List Bool} (h : opk wide true c = some l) :
    (l = [] ∧ (c.toNat = 116 ∨ c.toNat = 102)) ∨ (l = [false, false] ∧ (c.toNat = 61 ∨ c.toNat = 60)) ∨ (l = [true] ∧ c.toNat = 33) ∨ (l = [true, true] ∧ (c.toNat = 38 ∨ c.toNat = 124)) := by
  unfold opk at h
  simp only [if_true] at h
  by_cases h1 : (c == 116 || c == 102) = true
  · rw [if_pos h1] at h; cases h
    simp at h1; left; rcases h1 with rfl | rfl <;> simp
  rw [if_neg h1] at h
  by_cases h2 : (c == 61 || c == 60) = true
  · rw [if_pos h2] at h; cases h
    simp at h2; right; left; rcases h2 with rfl | rfl <;> simp
  rw [if_neg h2] at h
  by_cases h3 : (c == 33) = true
  · rw [if_pos h3] at h; cases h
    simp at h3; subst h3; simp
  rw [if_neg h3] at h
  by_cases h4 : (c == 38 || c == 124) = true
  · rw [if_pos h4] at h; cases h
    simp at h4; right; right; right; rcases h4 with rfl | rfl <;> simp
  rw [if_neg h4] at h; cases h

theorem test_at (wide : Bool) (s : ByteArray) (hs : s.size ≤ 1000000) : ∀ (m : Nat) (a r : Int) (w : World), (s.size : Int) - a ≤ m → PrefAt wide true s.data.toList a r → Calls Try.prog 78 #[.string s, .int .i64 a, .bool wide] w (Quiet (.int .i64 r) w) := by
  intro m
  induction m with
  | zero =>
    intro a r w hm hr
    obtain ⟨i, rfl⟩ := Int.eq_ofNat_of_zero_le (show 0 ≤ a by omega)
    obtain rfl := hr.uniq (PrefAt.past (show s.data.toList.length ≤ i by simp; omega))
    exact test_past wide s i w (by omega)
  | succ m ih =>
    intro a r w hm hr
    by_cases ha : a < 0
    · obtain rfl := hr.uniq (PrefAt.neg ha)
      exact test_neg wide s a w ha
    · obtain ⟨i, rfl⟩ := Int.eq_ofNat_of_zero_le (show 0 ≤ a by omega)
      by_cases hi : i < s.size
      · have hd := drop_cons' s i hi
        cases ho : opk wide true s[i] with
        | none =>
          obtain rfl := hr.uniq (PrefAt.bad hd ho)
          exact test_bad wide s i w hs hi ho
        | some l =>
          rcases opk_t ho with ⟨rfl, hc⟩ | ⟨rfl, hc⟩ | ⟨rfl, hc⟩ | ⟨rfl, hc⟩
          · obtain rfl := hr.uniq (PrefAt.leaf hd ho)
            exact test_leaf wide s i w hs hi hc
          · obtain ⟨r1, h1⟩ := PrefAt.exists wide false s.data.toList (i + 1)
            obtain ⟨r2, h2⟩ := PrefAt.exists wide false s.data.toList r1
            obtain rfl := hr.uniq (PrefAt.bin hd ho h1 h2)
            exact test_cmp wide s i w hs hi hc r1 _ (fun w => expr_any wide s hs _ _ w h1) (fun w => expr_any wide s hs _ _ w h2)
          · obtain ⟨r1, h1⟩ := PrefAt.exists wide true s.data.toList (i + 1)
            obtain rfl := hr.uniq (PrefAt.un hd ho h1)
            exact test_not wide s i w hs hi hc _ (fun w => ih _ _ w (by omega) h1)
          · obtain ⟨r1, h1⟩ := PrefAt.exists wide true s.data.toList (i + 1)
            obtain ⟨r2, h2⟩ := PrefAt.exists wide true s.data.toList r1
            obtain rfl := hr.uniq (PrefAt.bin hd ho h1 h2)
            refine test_bin wide s i w hs hi hc r1 _ (fun w => ih _ _ w (by omega) h1) (fun w => ?_)
            rcases h1.lo with h | h
            · subst h
              obtain rfl := h2.uniq (PrefAt.neg (by omega))
              exact test_neg wide s _ w (by omega)
            · exact ih _ _ w (by omega) h2
      · obtain rfl := hr.uniq (PrefAt.past (show s.data.toList.length ≤ i by simp; omega))
        exact test_past wide s i w (by omega)

theorem test_any (wide : Bool) (s : ByteArray) (hs : s.size ≤ 1000000) (a r : Int) (w : World) (hr : PrefAt wide true s.data.toList a r) : Calls Try.prog 78 #[.string s, .int .i64 a, .bool wide] w (Quiet (.int .i64 r) w) := by
  exact test_at wide s hs ((s.size : Int) - a).toNat a r w (by omega) hr
end Go.Proofs.Ytheclmdpiijakaa

namespace Go.Proofs.Ytheclmdpiijakaa
open Go.RowKit Tm

theorem below_of_drewN {B : Nat} {a w : World} (h : Below B a w) (n : Nat) : Below B a (w.drewN n) := h.trans ⟨rfl, rfl, rfl, Nat.le_refl _, fun _ _ => rfl⟩

end Go.Proofs.Ytheclmdpiijakaa

namespace Go.Proofs.Ytheclmdpiijakaa
open Go.RowKit Tm


end Go.Proofs.Ytheclmdpiijakaa

namespace Go.Proofs.Ytheclmdpiijakaa
open Go.RowKit Tm

/-- An operator's value, of two values. -/
def cmp3 (c : UInt8) (a b : Int) : Int := if c = 43 then (a + b) % 3 else if c = 45 then (a - b + 3) % 3 else a * b % 3
/-- The value of an expression where the variables x, y, z, X, Y, Z have the values of e. -/
def val (e : Nat → Int) : Tm → Int
  | .leaf c => if c = 120 then e 0 else if c = 121 then e 1 else if c = 122 then e 2 else if c = 88 then e 3 else if c = 89 then e 4 else if c = 90 then e 5 else c.toNat - 48
  | .un _ _ => 0
  | .bin c a b => cmp3 c (val e a) (val e b)
/-- The values of one state. -/
def one (x y z : Int) : Nat → Int
  | 0 => x
  | 1 => y
  | 2 => z
  | _ => 0

theorem cmp3_bd (c : UInt8) {a b : Int} (_ha : 0 ≤ a ∧ a ≤ 2) (_hb : 0 ≤ b ∧ b ≤ 2) : 0 ≤ cmp3 c a b ∧ cmp3 c a b ≤ 2 := by
  unfold cmp3
  split
  · omega
  · split
    · omega
    · exact ⟨Int.emod_nonneg _ (by omega), by have := Int.emod_lt_of_pos (a * b) (show (0 : Int) < 3 by omega); omega⟩

theorem ok_expr {wide : Bool} {t : Tm} (h : Ok wide false t) : (∃ c, t = .leaf c ∧ (isVarB wide c || isDigB c) = true) ∨ (∃ c a b, t = .bin c a b ∧ isOpB c = true ∧ Ok wide false a ∧ Ok wide false b) := by
  cases t with
  | leaf c =>
    left
    simp only [Ok, opk_e] at h
    split at h
    · rename_i hh; exact ⟨c, rfl, hh⟩
    · split at h <;> cases h
  | un c a =>
    obtain ⟨k1, h, _⟩ := h
    rw [opk_e] at h
    split at h
    · cases h
    · split at h <;> cases h
  | bin c a b =>
    right
    obtain ⟨k1, k2, h, ha, hb⟩ := h
    rw [opk_e] at h
    split at h
    · cases h
    · split at h
      · rename_i hh; cases h; exact ⟨c, a, b, rfl, hh, ha, hb⟩
      · cases h
theorem op_cases {c : UInt8} (h : isOpB c = true) : c = 43 ∨ c = 45 ∨ c = 42 := by
  simp [isOpB] at h; rcases h with (h | h) | h <;> simp [h]
theorem leaf_cases {c : UInt8} (h : (isVarB false c || isDigB c) = true) : c = 120 ∨ c = 121 ∨ c = 122 ∨ c = 48 ∨ c = 49 ∨ c = 50 := by
  simp [isVarB, isDigB] at h; rcases h with ((h | h) | h) | ((h | h) | h) <;> simp [h]

theorem val_bd {wide : Bool} {e : Nat → Int} (he : ∀ i, 0 ≤ e i ∧ e i ≤ 2) : ∀ {t : Tm}, Ok wide false t → 0 ≤ val e t ∧ val e t ≤ 2 := by
  intro t
  induction t with
  | leaf c =>
    intro h
    rcases ok_expr h with ⟨c', e1, hc⟩ | ⟨c', a, b, e1, _⟩
    · cases e1
      simp only [val]
      by_cases h1 : c = 120
      · rw [if_pos h1]; exact he 0
      rw [if_neg h1]
      by_cases h2 : c = 121
      · rw [if_pos h2]; exact he 1
      rw [if_neg h2]
      by_cases h3 : c = 122
      · rw [if_pos h3]; exact he 2
      rw [if_neg h3]
      by_cases h4 : c = 88
      · rw [if_pos h4]; exact he 3
      rw [if_neg h4]
      by_cases h5 : c = 89
      · rw [if_pos h5]; exact he 4
      rw [if_neg h5]
      by_cases h6 : c = 90
      · rw [if_pos h6]; exact he 5
      rw [if_neg h6]
      simp [isVarB, isDigB, h1, h2, h3, h4, h5, h6] at hc
      rcases hc with (rfl | rfl) | rfl <;> decide
    · cases e1
  | un c a _ => intro _; simp [val]
  | bin c a b iha ihb =>
    intro h
    rcases ok_expr h with ⟨c', e1, _⟩ | ⟨c', a', b', e1, _, h2, h3⟩
    · cases e1
    · cases e1
      exact cmp3_bd c (iha h2) (ihb h3)

theorem cell_keep {w w' : World} {b o : Nat} {v : Value} (hb : Below w.heap.size w w') (h : w.cell? ⟨b, o, none⟩ = some v) : w'.cell? ⟨b, o, none⟩ = some v := (hb.cell (p := ⟨b, o, none⟩) (cell_lt h)).trans h

set_option maxHeartbeats 1000000 in
theorem compute_any (c : UInt8) (a b : Int) (w : World) (hc : c = 43 ∨ c = 45 ∨ c = 42) (ha0 : 0 ≤ a) (ha : a ≤ 2) (hb0 : 0 ≤ b) (hb : b ≤ 2) :
    Calls Try.prog 114 #[.int .u8 c.toNat, .int .i64 a, .int .i64 b] w fun e w' => e = .returned (.int .i64 (cmp3 c a b)) ∧ w = w' := by
  rcases hc with rfl | rfl | rfl
  · go_enter Try.func114, Try.ntmps114
    go_wp2_with fail
    go_ret
    exact ⟨rfl, rfl⟩
  · go_enter Try.func114, Try.ntmps114
    go_wp2_with fail
    go_ret
    exact ⟨rfl, rfl⟩
  · have h1 : 0 ≤ a * b := Int.mul_nonneg ha0 hb0
    have h2 : a * b ≤ 4 := by
      have := Int.mul_le_mul ha hb hb0 (show (0 : Int) ≤ 2 by omega)
      omega
    go_enter Try.func114, Try.ntmps114
    go_wp2_with fail
    go_ret
    exact ⟨rfl, rfl⟩

theorem vleaf_cases {c : UInt8} (h : (isVarB true c || isDigB c) = true) : c = 120 ∨ c = 121 ∨ c = 122 ∨ c = 88 ∨ c = 89 ∨ c = 90 ∨ c = 48 ∨ c = 49 ∨ c = 50 := by
  simp [isVarB, isDigB] at h; rcases h with (((h | h) | h) | ((h | h) | h)) | ((h | h) | h) <;> simp [h]

set_option maxHeartbeats 1000000 in
theorem value_leaf (c : UInt8) (y : Value) (E : Nat → Int) (w : World) (hc : c = 120 ∨ c = 121 ∨ c = 122 ∨ c = 88 ∨ c = 89 ∨ c = 90 ∨ c = 48 ∨ c = 49 ∨ c = 50) (a : Option Addr) (n : Nat) (hy : y = .slice a 0 n) :
    Calls Try.prog 104 #[.agg #[.int .u8 c.toNat, y], .agg #[.int .i64 (E 0), .int .i64 (E 1), .int .i64 (E 2), .int .i64 (E 3), .int .i64 (E 4), .int .i64 (E 5)]] w fun e w' => e = .returned (.int .i64 (val (E) (.leaf c))) ∧ Below w.heap.size w w' := by
  subst hy
  rcases hc with rfl | rfl | rfl | rfl | rfl | rfl | rfl | rfl | rfl
  all_goals
    go_enter Try.func104, Try.ntmps104
    go_wp2_with fail
    go_ret
    exact ⟨rfl, ((Below.refl _ _).alloc (Nat.le_refl _) _).alloc (by simp) _⟩

set_option maxRecDepth 100000 in
set_option maxHeartbeats 2000000 in
theorem value_bin (c : UInt8) (va vb : Int) (E : Nat → Int) (w : World) (hc : c = 43 ∨ c = 45 ∨ c = 42) (b n : Nat) (x1 x2 : Int) (p1 p2 : Option Addr) (m1 m2 n1 n2 : Nat)
    (k0 : w.cell? ⟨b, 0, none⟩ = some (.int .u8 x1)) (k1 : w.cell? ⟨b, 1, none⟩ = some (.slice p1 m1 n1)) (k2 : w.cell? ⟨b, 2, none⟩ = some (.int .u8 x2)) (k3 : w.cell? ⟨b, 3, none⟩ = some (.slice p2 m2 n2))
    (ha0 : 0 ≤ va) (ha : va ≤ 2) (hb0 : 0 ≤ vb) (hb : vb ≤ 2)
    (c1 : ∀ w', Below w.heap.size w w' → Calls Try.prog 104 #[.agg #[.int .u8 x1, .slice p1 m1 n1], .agg #[.int .i64 (E 0), .int .i64 (E 1), .int .i64 (E 2), .int .i64 (E 3), .int .i64 (E 4), .int .i64 (E 5)]] w' fun e w2 => e = .returned (.int .i64 va) ∧ Below w'.heap.size w' w2)
    (c2 : ∀ w', Below w.heap.size w w' → Calls Try.prog 104 #[.agg #[.int .u8 x2, .slice p2 m2 n2], .agg #[.int .i64 (E 0), .int .i64 (E 1), .int .i64 (E 2), .int .i64 (E 3), .int .i64 (E 4), .int .i64 (E 5)]] w' fun e w2 => e = .returned (.int .i64 vb) ∧ Below w'.heap.size w' w2) :
    Calls Try.prog 104 #[.agg #[.int .u8 c.toNat, .slice (some ⟨b, 0, none⟩) 2 n], .agg #[.int .i64 (E 0), .int .i64 (E 1), .int .i64 (E 2), .int .i64 (E 3), .int .i64 (E 4), .int .i64 (E 5)]] w fun e w' => e = .returned (.int .i64 (cmp3 c va vb)) ∧ Below w.heap.size w w' := by
  have C1 := Lib.hid c1
  have C2 := Lib.hid c2
  have hlt := cell_lt k0
  clear c1 c2
  rcases hc with rfl | rfl | rfl
  · have K : Hid (∀ w, Calls Try.prog 114 #[.int .u8 43, .int .i64 va, .int .i64 vb] w fun e w' => e = .returned (.int .i64 (cmp3 43 va vb)) ∧ w = w') := fun w => compute_any 43 va vb w (by simp) ha0 ha hb0 hb
    go_enter Try.func104, Try.ntmps104
    go_wp2_with fail
    have t0 := (heap_at_old (heap_at_new (w := w) (o := .cells #[.int .u8 43, .slice (some ⟨b, 0, none⟩) 2 n] 117) rfl) : (World.alloc _ (.cells #[.int .i64 (E 0), .int .i64 (E 1), .int .i64 (E 2), .int .i64 (E 3), .int .i64 (E 4), .int .i64 (E 5)] 66)).heap[_]? = _)
    have t1 := (heap_at_new (w := w.alloc (.cells #[.int .u8 43, .slice (some ⟨b, 0, none⟩) 2 n] 117)) (o := .cells #[.int .i64 (E 0), .int .i64 (E 1), .int .i64 (E 2), .int .i64 (E 3), .int .i64 (E 4), .int .i64 (E 5)] 66) (k := w.heap.size + 1) (by simp))
    have hB := ((Below.refl w.heap.size w).alloc (Nat.le_refl _) (.cells #[.int .u8 43, .slice (some ⟨b, 0, none⟩) 2 n] 117)).alloc (by simp) (.cells #[.int .i64 (E 0), .int .i64 (E 1), .int .i64 (E 2), .int .i64 (E 3), .int .i64 (E 4), .int .i64 (E 5)] 66)
    generalize (w.alloc (.cells #[.int .u8 43, .slice (some ⟨b, 0, none⟩) 2 n] 117)).alloc (.cells #[.int .i64 (E 0), .int .i64 (E 1), .int .i64 (E 2), .int .i64 (E 3), .int .i64 (E 4), .int .i64 (E 5)] 66) = W0 at *
    have q0 : W0.cell? ⟨w.heap.size, 0, none⟩ = some (.int .u8 43) := by rw [cell_of_row W0 _ 0 _ _ (0, 0) t0]; rfl
    have q1 : W0.cell? ⟨w.heap.size, 1, none⟩ = some (.slice (some ⟨b, 0, none⟩) 2 n) := by rw [cell_of_row W0 _ 1 _ _ (0, 0) t0]; rfl
    have q2 : W0.cell? ⟨w.heap.size + 1, 0, none⟩ = some (.int .i64 (E 0)) := by rw [cell_of_row W0 _ 0 _ _ (0, 0) t1]; rfl
    have q3 : W0.cell? ⟨w.heap.size + 1, 1, none⟩ = some (.int .i64 (E 1)) := by rw [cell_of_row W0 _ 1 _ _ (0, 0) t1]; rfl
    have q4 : W0.cell? ⟨w.heap.size + 1, 2, none⟩ = some (.int .i64 (E 2)) := by rw [cell_of_row W0 _ 2 _ _ (0, 0) t1]; rfl
    have q5 : W0.cell? ⟨w.heap.size + 1, 3, none⟩ = some (.int .i64 (E 3)) := by rw [cell_of_row W0 _ 3 _ _ (0, 0) t1]; rfl
    have q6 : W0.cell? ⟨w.heap.size + 1, 4, none⟩ = some (.int .i64 (E 4)) := by rw [cell_of_row W0 _ 4 _ _ (0, 0) t1]; rfl
    have q7 : W0.cell? ⟨w.heap.size + 1, 5, none⟩ = some (.int .i64 (E 5)) := by rw [cell_of_row W0 _ 5 _ _ (0, 0) t1]; rfl
    have j0 := cell_keep hB k0
    have j1 := cell_keep hB k1
    have j2 := cell_keep hB k2
    have j3 := cell_keep hB k3
    have hB' := hB.drew
    clear k0 k1 k2 k3 t0 t1
    go_region_held3 (fun w' => Below w.heap.size w w' ∧ w'.cell? ⟨w.heap.size, 0, none⟩ = some (.int .u8 43) ∧ w'.cell? ⟨w.heap.size, 1, none⟩ = some (.slice (some ⟨b, 0, none⟩) 2 n) ∧
        w'.cell? ⟨w.heap.size + 1, 0, none⟩ = some (.int .i64 (E 0)) ∧ w'.cell? ⟨w.heap.size + 1, 1, none⟩ = some (.int .i64 (E 1)) ∧ w'.cell? ⟨w.heap.size + 1, 2, none⟩ = some (.int .i64 (E 2)) ∧ w'.cell? ⟨w.heap.size + 1, 3, none⟩ = some (.int .i64 (E 3)) ∧ w'.cell? ⟨w.heap.size + 1, 4, none⟩ = some (.int .i64 (E 4)) ∧ w'.cell? ⟨w.heap.size + 1, 5, none⟩ = some (.int .i64 (E 5)) ∧
        w'.cell? ⟨b, 0, none⟩ = some (.int .u8 x1) ∧ w'.cell? ⟨b, 1, none⟩ = some (.slice p1 m1 n1) ∧ w'.cell? ⟨b, 2, none⟩ = some (.int .u8 x2) ∧ w'.cell? ⟨b, 3, none⟩ = some (.slice p2 m2 n2))
      ((go_split_ands; refine ⟨?_, ?_, ?_, ?_, ?_, ?_, ?_, ?_, ?_, ?_, ?_, ?_, ?_⟩ <;> first | assumption | exact cell_keep hq (by assumption) | exact Below.trans (by assumption) (hq.mono (by have := Below.size (by assumption : Below w.heap.size w _); omega))))
      (first
        | (go_at_call 104; (first | (with_reducible refine (C1.out _ ?_).mono ?_) | (with_reducible refine (C2.out _ ?_).mono ?_)); (go_split_ands; assumption); rintro e w2 ⟨rfl, hq⟩)
        | (go_at_call 114; refine (K.out _).mono ?_; rintro e w2 ⟨rfl, rfl⟩))
    go_wp2_with fail
    go_split_ands
    go_ret
    exact ⟨rfl, by assumption⟩
  · have K : Hid (∀ w, Calls Try.prog 114 #[.int .u8 45, .int .i64 va, .int .i64 vb] w fun e w' => e = .returned (.int .i64 (cmp3 45 va vb)) ∧ w = w') := fun w => compute_any 45 va vb w (by simp) ha0 ha hb0 hb
    go_enter Try.func104, Try.ntmps104
    go_wp2_with fail
    have t0 := (heap_at_old (heap_at_new (w := w) (o := .cells #[.int .u8 45, .slice (some ⟨b, 0, none⟩) 2 n] 117) rfl) : (World.alloc _ (.cells #[.int .i64 (E 0), .int .i64 (E 1), .int .i64 (E 2), .int .i64 (E 3), .int .i64 (E 4), .int .i64 (E 5)] 66)).heap[_]? = _)
    have t1 := (heap_at_new (w := w.alloc (.cells #[.int .u8 45, .slice (some ⟨b, 0, none⟩) 2 n] 117)) (o := .cells #[.int .i64 (E 0), .int .i64 (E 1), .int .i64 (E 2), .int .i64 (E 3), .int .i64 (E 4), .int .i64 (E 5)] 66) (k := w.heap.size + 1) (by simp))
    have hB := ((Below.refl w.heap.size w).alloc (Nat.le_refl _) (.cells #[.int .u8 45, .slice (some ⟨b, 0, none⟩) 2 n] 117)).alloc (by simp) (.cells #[.int .i64 (E 0), .int .i64 (E 1), .int .i64 (E 2), .int .i64 (E 3), .int .i64 (E 4), .int .i64 (E 5)] 66)
    generalize (w.alloc (.cells #[.int .u8 45, .slice (some ⟨b, 0, none⟩) 2 n] 117)).alloc (.cells #[.int .i64 (E 0), .int .i64 (E 1), .int .i64 (E 2), .int .i64 (E 3), .int .i64 (E 4), .int .i64 (E 5)] 66) = W0 at *
    have q0 : W0.cell? ⟨w.heap.size, 0, none⟩ = some (.int .u8 45) := by rw [cell_of_row W0 _ 0 _ _ (0, 0) t0]; rfl
    have q1 : W0.cell? ⟨w.heap.size, 1, none⟩ = some (.slice (some ⟨b, 0, none⟩) 2 n) := by rw [cell_of_row W0 _ 1 _ _ (0, 0) t0]; rfl
    have q2 : W0.cell? ⟨w.heap.size + 1, 0, none⟩ = some (.int .i64 (E 0)) := by rw [cell_of_row W0 _ 0 _ _ (0, 0) t1]; rfl
    have q3 : W0.cell? ⟨w.heap.size + 1, 1, none⟩ = some (.int .i64 (E 1)) := by rw [cell_of_row W0 _ 1 _ _ (0, 0) t1]; rfl
    have q4 : W0.cell? ⟨w.heap.size + 1, 2, none⟩ = some (.int .i64 (E 2)) := by rw [cell_of_row W0 _ 2 _ _ (0, 0) t1]; rfl
    have q5 : W0.cell? ⟨w.heap.size + 1, 3, none⟩ = some (.int .i64 (E 3)) := by rw [cell_of_row W0 _ 3 _ _ (0, 0) t1]; rfl
    have q6 : W0.cell? ⟨w.heap.size + 1, 4, none⟩ = some (.int .i64 (E 4)) := by rw [cell_of_row W0 _ 4 _ _ (0, 0) t1]; rfl
    have q7 : W0.cell? ⟨w.heap.size + 1, 5, none⟩ = some (.int .i64 (E 5)) := by rw [cell_of_row W0 _ 5 _ _ (0, 0) t1]; rfl
    have j0 := cell_keep hB k0
    have j1 := cell_keep hB k1
    have j2 := cell_keep hB k2
    have j3 := cell_keep hB k3
    have hB' := hB.drew
    clear k0 k1 k2 k3 t0 t1
    go_region_held3 (fun w' => Below w.heap.size w w' ∧ w'.cell? ⟨w.heap.size, 0, none⟩ = some (.int .u8 45) ∧ w'.cell? ⟨w.heap.size, 1, none⟩ = some (.slice (some ⟨b, 0, none⟩) 2 n) ∧
        w'.cell? ⟨w.heap.size + 1, 0, none⟩ = some (.int .i64 (E 0)) ∧ w'.cell? ⟨w.heap.size + 1, 1, none⟩ = some (.int .i64 (E 1)) ∧ w'.cell? ⟨w.heap.size + 1, 2, none⟩ = some (.int .i64 (E 2)) ∧ w'.cell? ⟨w.heap.size + 1, 3, none⟩ = some (.int .i64 (E 3)) ∧ w'.cell? ⟨w.heap.size + 1, 4, none⟩ = some (.int .i64 (E 4)) ∧ w'.cell? ⟨w.heap.size + 1, 5, none⟩ = some (.int .i64 (E 5)) ∧
        w'.cell? ⟨b, 0, none⟩ = some (.int .u8 x1) ∧ w'.cell? ⟨b, 1, none⟩ = some (.slice p1 m1 n1) ∧ w'.cell? ⟨b, 2, none⟩ = some (.int .u8 x2) ∧ w'.cell? ⟨b, 3, none⟩ = some (.slice p2 m2 n2))
      ((go_split_ands; refine ⟨?_, ?_, ?_, ?_, ?_, ?_, ?_, ?_, ?_, ?_, ?_, ?_, ?_⟩ <;> first | assumption | exact cell_keep hq (by assumption) | exact Below.trans (by assumption) (hq.mono (by have := Below.size (by assumption : Below w.heap.size w _); omega))))
      (first
        | (go_at_call 104; (first | (with_reducible refine (C1.out _ ?_).mono ?_) | (with_reducible refine (C2.out _ ?_).mono ?_)); (go_split_ands; assumption); rintro e w2 ⟨rfl, hq⟩)
        | (go_at_call 114; refine (K.out _).mono ?_; rintro e w2 ⟨rfl, rfl⟩))
    go_wp2_with fail
    go_split_ands
    go_ret
    exact ⟨rfl, by assumption⟩
  · have K : Hid (∀ w, Calls Try.prog 114 #[.int .u8 42, .int .i64 va, .int .i64 vb] w fun e w' => e = .returned (.int .i64 (cmp3 42 va vb)) ∧ w = w') := fun w => compute_any 42 va vb w (by simp) ha0 ha hb0 hb
    go_enter Try.func104, Try.ntmps104
    go_wp2_with fail
    have t0 := (heap_at_old (heap_at_new (w := w) (o := .cells #[.int .u8 42, .slice (some ⟨b, 0, none⟩) 2 n] 117) rfl) : (World.alloc _ (.cells #[.int .i64 (E 0), .int .i64 (E 1), .int .i64 (E 2), .int .i64 (E 3), .int .i64 (E 4), .int .i64 (E 5)] 66)).heap[_]? = _)
    have t1 := (heap_at_new (w := w.alloc (.cells #[.int .u8 42, .slice (some ⟨b, 0, none⟩) 2 n] 117)) (o := .cells #[.int .i64 (E 0), .int .i64 (E 1), .int .i64 (E 2), .int .i64 (E 3), .int .i64 (E 4), .int .i64 (E 5)] 66) (k := w.heap.size + 1) (by simp))
    have hB := ((Below.refl w.heap.size w).alloc (Nat.le_refl _) (.cells #[.int .u8 42, .slice (some ⟨b, 0, none⟩) 2 n] 117)).alloc (by simp) (.cells #[.int .i64 (E 0), .int .i64 (E 1), .int .i64 (E 2), .int .i64 (E 3), .int .i64 (E 4), .int .i64 (E 5)] 66)
    generalize (w.alloc (.cells #[.int .u8 42, .slice (some ⟨b, 0, none⟩) 2 n] 117)).alloc (.cells #[.int .i64 (E 0), .int .i64 (E 1), .int .i64 (E 2), .int .i64 (E 3), .int .i64 (E 4), .int .i64 (E 5)] 66) = W0 at *
    have q0 : W0.cell? ⟨w.heap.size, 0, none⟩ = some (.int .u8 42) := by rw [cell_of_row W0 _ 0 _ _ (0, 0) t0]; rfl
    have q1 : W0.cell? ⟨w.heap.size, 1, none⟩ = some (.slice (some ⟨b, 0, none⟩) 2 n) := by rw [cell_of_row W0 _ 1 _ _ (0, 0) t0]; rfl
    have q2 : W0.cell? ⟨w.heap.size + 1, 0, none⟩ = some (.int .i64 (E 0)) := by rw [cell_of_row W0 _ 0 _ _ (0, 0) t1]; rfl
    have q3 : W0.cell? ⟨w.heap.size + 1, 1, none⟩ = some (.int .i64 (E 1)) := by rw [cell_of_row W0 _ 1 _ _ (0, 0) t1]; rfl
    have q4 : W0.cell? ⟨w.heap.size + 1, 2, none⟩ = some (.int .i64 (E 2)) := by rw [cell_of_row W0 _ 2 _ _ (0, 0) t1]; rfl
    have q5 : W0.cell? ⟨w.heap.size + 1, 3, none⟩ = some (.int .i64 (E 3)) := by rw [cell_of_row W0 _ 3 _ _ (0, 0) t1]; rfl
    have q6 : W0.cell? ⟨w.heap.size + 1, 4, none⟩ = some (.int .i64 (E 4)) := by rw [cell_of_row W0 _ 4 _ _ (0, 0) t1]; rfl
    have q7 : W0.cell? ⟨w.heap.size + 1, 5, none⟩ = some (.int .i64 (E 5)) := by rw [cell_of_row W0 _ 5 _ _ (0, 0) t1]; rfl
    have j0 := cell_keep hB k0
    have j1 := cell_keep hB k1
    have j2 := cell_keep hB k2
    have j3 := cell_keep hB k3
    have hB' := hB.drew
    clear k0 k1 k2 k3 t0 t1
    go_region_held3 (fun w' => Below w.heap.size w w' ∧ w'.cell? ⟨w.heap.size, 0, none⟩ = some (.int .u8 42) ∧ w'.cell? ⟨w.heap.size, 1, none⟩ = some (.slice (some ⟨b, 0, none⟩) 2 n) ∧
        w'.cell? ⟨w.heap.size + 1, 0, none⟩ = some (.int .i64 (E 0)) ∧ w'.cell? ⟨w.heap.size + 1, 1, none⟩ = some (.int .i64 (E 1)) ∧ w'.cell? ⟨w.heap.size + 1, 2, none⟩ = some (.int .i64 (E 2)) ∧ w'.cell? ⟨w.heap.size + 1, 3, none⟩ = some (.int .i64 (E 3)) ∧ w'.cell? ⟨w.heap.size + 1, 4, none⟩ = some (.int .i64 (E 4)) ∧ w'.cell? ⟨w.heap.size + 1, 5, none⟩ = some (.int .i64 (E 5)) ∧
        w'.cell? ⟨b, 0, none⟩ = some (.int .u8 x1) ∧ w'.cell? ⟨b, 1, none⟩ = some (.slice p1 m1 n1) ∧ w'.cell? ⟨b, 2, none⟩ = some (.int .u8 x2) ∧ w'.cell? ⟨b, 3, none⟩ = some (.slice p2 m2 n2))
      ((go_split_ands; refine ⟨?_, ?_, ?_, ?_, ?_, ?_, ?_, ?_, ?_, ?_, ?_, ?_, ?_⟩ <;> first | assumption | exact cell_keep hq (by assumption) | exact Below.trans (by assumption) (hq.mono (by have := Below.size (by assumption : Below w.heap.size w _); omega))))
      (first
        | (go_at_call 104; (first | (with_reducible refine (C1.out _ ?_).mono ?_) | (with_reducible refine (C2.out _ ?_).mono ?_)); (go_split_ands; assumption); rintro e w2 ⟨rfl, hq⟩)
        | (go_at_call 114; refine (K.out _).mono ?_; rintro e w2 ⟨rfl, rfl⟩))
    go_wp2_with fail
    go_split_ands
    go_ret
    exact ⟨rfl, by assumption⟩

/-- (impl.term).value, at every tree that is an expression: its value. What was there stays. -/
theorem value_any (E : Nat → Int) (he : ∀ i, 0 ≤ E i ∧ E i ≤ 2) : ∀ (t : Tm) (B : Nat) (x y : Value) (w : World), Ok true false t → RepT w B t x y →
    Calls Try.prog 104 #[.agg #[x, y], .agg #[.int .i64 (E 0), .int .i64 (E 1), .int .i64 (E 2), .int .i64 (E 3), .int .i64 (E 4), .int .i64 (E 5)]] w fun e w' => e = .returned (.int .i64 (val (E) t)) ∧ Below w.heap.size w w' := by
  intro t
  induction t with
  | leaf c =>
    intro B x y w ht hr
    obtain ⟨rfl, a, n, rfl⟩ := hr
    rcases ok_expr ht with ⟨c', e1, hc⟩ | ⟨_, _, _, e1, _⟩
    · cases e1
      exact value_leaf c _ E w (vleaf_cases hc) a n rfl
    · cases e1
  | un c a _ =>
    intro B x y w ht hr
    rcases ok_expr ht with ⟨_, e1, _⟩ | ⟨_, _, _, e1, _⟩ <;> cases e1
  | bin c a d iha ihd =>
    intro B x y w ht hr
    rcases ok_expr ht with ⟨_, e1, _⟩ | ⟨c', a', d', e1, hc, oa, od⟩
    · cases e1
    · cases e1
      obtain ⟨rfl, b, n, x1, y1, x2, y2, rfl, _, k0, k1, k2, k3, r1, r2⟩ := hr
      obtain ⟨z1, p1, m1, n1, rfl, rfl⟩ := r1.forms
      obtain ⟨z2, p2, m2, n2, rfl, rfl⟩ := r2.forms
      have h1 := val_bd he oa
      have h2 := val_bd he od
      exact value_bin c _ _ E w (op_cases hc) b n z1 z2 p1 p2 m1 m2 n1 n2 k0 k1 k2 k3 h1.1 h1.2 h2.1 h2.2 (fun w' h => iha B _ _ w' oa (r1.below h)) (fun w' h => ihd B _ _ w' od (r2.below h))
end Go.Proofs.Ytheclmdpiijakaa

namespace Go.Proofs.Ytheclmdpiijakaa
open Go.RowKit Tm

/-- Whether a test is true where the variables have the values of e. -/
def tru (e : Nat → Int) : Tm → Bool
  | .leaf c => c == 116
  | .un _ a => !tru e a
  | .bin c a b => if c = 61 then val e a == val e b else if c = 60 then decide (val e a < val e b) else if c = 38 then tru e a && tru e b else tru e a || tru e b

theorem ok_test {wide : Bool} {t : Tm} (h : Ok wide true t) : (∃ c, t = .leaf c ∧ (c = 116 ∨ c = 102)) ∨ (∃ a, t = .un 33 a ∧ Ok wide true a) ∨
    (∃ c a b, t = .bin c a b ∧ (c = 61 ∨ c = 60) ∧ Ok wide false a ∧ Ok wide false b) ∨ (∃ c a b, t = .bin c a b ∧ (c = 38 ∨ c = 124) ∧ Ok wide true a ∧ Ok wide true b) := by
  have toU : ∀ {c : UInt8} {n : Nat}, c.toNat = n → n < 256 → c = UInt8.ofNat n := fun h hn => u8_of_nat h hn
  cases t with
  | leaf c =>
    rcases opk_t h with ⟨_, h2⟩ | ⟨h1, _⟩ | ⟨h1, _⟩ | ⟨h1, _⟩
    · exact .inl ⟨c, rfl, h2.elim (fun h => .inl (toU h (by decide))) (fun h => .inr (toU h (by decide)))⟩
    · cases h1
    · cases h1
    · cases h1
  | un c a =>
    obtain ⟨k1, h, ha⟩ := h
    rcases opk_t h with ⟨h1, _⟩ | ⟨h1, _⟩ | ⟨h1, h2⟩ | ⟨h1, _⟩
    · cases h1
    · cases h1
    · cases h1
      obtain rfl := toU h2 (by decide)
      exact .inr (.inl ⟨a, rfl, ha⟩)
    · cases h1
  | bin c a b =>
    obtain ⟨k1, k2, h, ha, hb⟩ := h
    rcases opk_t h with ⟨h1, _⟩ | ⟨h1, h2⟩ | ⟨h1, _⟩ | ⟨h1, h2⟩
    · cases h1
    · cases h1
      exact .inr (.inr (.inl ⟨c, a, b, rfl, h2.elim (fun h => .inl (toU h (by decide))) (fun h => .inr (toU h (by decide))), ha, hb⟩))
    · cases h1
    · cases h1
      exact .inr (.inr (.inr ⟨c, a, b, rfl, h2.elim (fun h => .inl (toU h (by decide))) (fun h => .inr (toU h (by decide))), ha, hb⟩))

end Go.Proofs.Ytheclmdpiijakaa

namespace Go.Proofs.Ytheclmdpiijakaa
open Go.RowKit Tm

def envV (e : Nat → Int) : Value := .agg #[.int .i64 (e 0), .int .i64 (e 1), .int .i64 (e 2), .int .i64 (e 3), .int .i64 (e 4), .int .i64 (e 5)]

theorem byte_at {s : ByteArray} {a : Nat} {c : UInt8} {r : List UInt8} (h : s.data.toList.drop a = c :: r) : ∃ h : a < s.size, s[a] = c := by
  have hl : a < s.size := by
    have := congrArg List.length h
    simp at this
    have h2 : s.size = s.data.size := rfl
    omega
  refine ⟨hl, ?_⟩
  rw [drop_cons' s a hl] at h
  exact (List.cons.inj h).1

theorem wleaf_cases {c : UInt8} (h : (isVarB true c || isDigB c) = true) : c = 120 ∨ c = 121 ∨ c = 122 ∨ c = 88 ∨ c = 89 ∨ c = 90 ∨ c = 48 ∨ c = 49 ∨ c = 50 := by
  simp [isVarB, isDigB] at h; rcases h with (((h | h) | h) | ((h | h) | h)) | ((h | h) | h) <;> simp [h]

theorem six_find (c : UInt8) (r : Int) (w : World) (h : fnd [120, 121, 122, 88, 89, 90] c = r) : Calls Try.prog 77 #[.string ⟨#[120, 121, 122, 88, 89, 90]⟩, .int .u8 c.toNat] w fun e w' => e = .returned (.int .i64 r) ∧ w' = w :=
  find_at (s := ⟨#[120, 121, 122, 88, 89, 90]⟩) h w (by simp [maxLen, ByteArray.size])

set_option maxHeartbeats 2000000 in
theorem spv_leaf (e : Nat → Int) (s : ByteArray) (a : Nat) (w : World) (hs : s.size ≤ 1000000) (ha : a < s.size) (hc : s[a] = 120 ∨ s[a] = 121 ∨ s[a] = 122 ∨ s[a] = 88 ∨ s[a] = 89 ∨ s[a] = 90 ∨ s[a] = 48 ∨ s[a] = 49 ∨ s[a] = 50) :
    Calls Try.prog 97 #[.string s, .int .i64 a, envV e] w fun e' w' => e' = .returned (.tuple #[.int .i64 (val e (.leaf s[a])), .int .i64 (a + 1)]) ∧ Below w.heap.size w w' := by
  have h0 : (0 : Int) ≤ (a : Int) := by omega
  have h1 : (a : Int) < (s.size : Int) := by omega
  unfold envV
  rcases hc with hc | hc | hc | hc | hc | hc | hc | hc | hc
  · have hcn : s[a].toNat = 120 := by rw [hc]; rfl
    have K : Hid (∀ w, Calls Try.prog 77 #[.string ⟨#[120, 121, 122, 88, 89, 90]⟩, .int .u8 120] w fun e w' => e = .returned (.int .i64 0) ∧ w' = w) := fun w => six_find 120 0 w rfl
    have V : Hid (val e (.leaf s[a]) = e 0) := by rw [hc]; rfl
    clear hc
    go_enter Try.func97, Try.ntmps97
    go_wp2_with fail
    refine (K.out _).mono ?_
    rintro e' w' ⟨rfl, rfl⟩
    go_wp2_with fail
    go_ret2
    exact ⟨by rw [V.out]; rfl, (Below.refl _ _).alloc (Nat.le_refl _) _⟩
  · have hcn : s[a].toNat = 121 := by rw [hc]; rfl
    have K : Hid (∀ w, Calls Try.prog 77 #[.string ⟨#[120, 121, 122, 88, 89, 90]⟩, .int .u8 121] w fun e w' => e = .returned (.int .i64 1) ∧ w' = w) := fun w => six_find 121 1 w rfl
    have V : Hid (val e (.leaf s[a]) = e 1) := by rw [hc]; rfl
    clear hc
    go_enter Try.func97, Try.ntmps97
    go_wp2_with fail
    refine (K.out _).mono ?_
    rintro e' w' ⟨rfl, rfl⟩
    go_wp2_with fail
    go_ret2
    exact ⟨by rw [V.out]; rfl, (Below.refl _ _).alloc (Nat.le_refl _) _⟩
  · have hcn : s[a].toNat = 122 := by rw [hc]; rfl
    have K : Hid (∀ w, Calls Try.prog 77 #[.string ⟨#[120, 121, 122, 88, 89, 90]⟩, .int .u8 122] w fun e w' => e = .returned (.int .i64 2) ∧ w' = w) := fun w => six_find 122 2 w rfl
    have V : Hid (val e (.leaf s[a]) = e 2) := by rw [hc]; rfl
    clear hc
    go_enter Try.func97, Try.ntmps97
    go_wp2_with fail
    refine (K.out _).mono ?_
    rintro e' w' ⟨rfl, rfl⟩
    go_wp2_with fail
    go_ret2
    exact ⟨by rw [V.out]; rfl, (Below.refl _ _).alloc (Nat.le_refl _) _⟩
  · have hcn : s[a].toNat = 88 := by rw [hc]; rfl
    have K : Hid (∀ w, Calls Try.prog 77 #[.string ⟨#[120, 121, 122, 88, 89, 90]⟩, .int .u8 88] w fun e w' => e = .returned (.int .i64 3) ∧ w' = w) := fun w => six_find 88 3 w rfl
    have V : Hid (val e (.leaf s[a]) = e 3) := by rw [hc]; rfl
    clear hc
    go_enter Try.func97, Try.ntmps97
    go_wp2_with fail
    refine (K.out _).mono ?_
    rintro e' w' ⟨rfl, rfl⟩
    go_wp2_with fail
    go_ret2
    exact ⟨by rw [V.out]; rfl, (Below.refl _ _).alloc (Nat.le_refl _) _⟩
  · have hcn : s[a].toNat = 89 := by rw [hc]; rfl
    have K : Hid (∀ w, Calls Try.prog 77 #[.string ⟨#[120, 121, 122, 88, 89, 90]⟩, .int .u8 89] w fun e w' => e = .returned (.int .i64 4) ∧ w' = w) := fun w => six_find 89 4 w rfl
    have V : Hid (val e (.leaf s[a]) = e 4) := by rw [hc]; rfl
    clear hc
    go_enter Try.func97, Try.ntmps97
    go_wp2_with fail
    refine (K.out _).mono ?_
    rintro e' w' ⟨rfl, rfl⟩
    go_wp2_with fail
    go_ret2
    exact ⟨by rw [V.out]; rfl, (Below.refl _ _).alloc (Nat.le_refl _) _⟩
  · have hcn : s[a].toNat = 90 := by rw [hc]; rfl
    have K : Hid (∀ w, Calls Try.prog 77 #[.string ⟨#[120, 121, 122, 88, 89, 90]⟩, .int .u8 90] w fun e w' => e = .returned (.int .i64 5) ∧ w' = w) := fun w => six_find 90 5 w rfl
    have V : Hid (val e (.leaf s[a]) = e 5) := by rw [hc]; rfl
    clear hc
    go_enter Try.func97, Try.ntmps97
    go_wp2_with fail
    refine (K.out _).mono ?_
    rintro e' w' ⟨rfl, rfl⟩
    go_wp2_with fail
    go_ret2
    exact ⟨by rw [V.out]; rfl, (Below.refl _ _).alloc (Nat.le_refl _) _⟩
  · have hcn : s[a].toNat = 48 := by rw [hc]; rfl
    have K : Hid (∀ w, Calls Try.prog 77 #[.string ⟨#[120, 121, 122, 88, 89, 90]⟩, .int .u8 48] w fun e w' => e = .returned (.int .i64 (-1)) ∧ w' = w) := fun w => six_find 48 (-1) w rfl
    have V : Hid (val e (.leaf s[a]) = 0) := by rw [hc]; rfl
    clear hc
    go_enter Try.func97, Try.ntmps97
    go_wp2_with fail
    refine (K.out _).mono ?_
    rintro e' w' ⟨rfl, rfl⟩
    go_wp2_with fail
    go_ret2
    exact ⟨by rw [V.out]; rfl, (Below.refl _ _).alloc (Nat.le_refl _) _⟩
  · have hcn : s[a].toNat = 49 := by rw [hc]; rfl
    have K : Hid (∀ w, Calls Try.prog 77 #[.string ⟨#[120, 121, 122, 88, 89, 90]⟩, .int .u8 49] w fun e w' => e = .returned (.int .i64 (-1)) ∧ w' = w) := fun w => six_find 49 (-1) w rfl
    have V : Hid (val e (.leaf s[a]) = 1) := by rw [hc]; rfl
    clear hc
    go_enter Try.func97, Try.ntmps97
    go_wp2_with fail
    refine (K.out _).mono ?_
    rintro e' w' ⟨rfl, rfl⟩
    go_wp2_with fail
    go_ret2
    exact ⟨by rw [V.out]; rfl, (Below.refl _ _).alloc (Nat.le_refl _) _⟩
  · have hcn : s[a].toNat = 50 := by rw [hc]; rfl
    have K : Hid (∀ w, Calls Try.prog 77 #[.string ⟨#[120, 121, 122, 88, 89, 90]⟩, .int .u8 50] w fun e w' => e = .returned (.int .i64 (-1)) ∧ w' = w) := fun w => six_find 50 (-1) w rfl
    have V : Hid (val e (.leaf s[a]) = 2) := by rw [hc]; rfl
    clear hc
    go_enter Try.func97, Try.ntmps97
    go_wp2_with fail
    refine (K.out _).mono ?_
    rintro e' w' ⟨rfl, rfl⟩
    go_wp2_with fail
    go_ret2
    exact ⟨by rw [V.out]; rfl, (Below.refl _ _).alloc (Nat.le_refl _) _⟩

theorem Box6.new (w : World) (e : Nat → Int) : ∀ j, j < 6 → (w.alloc (.cells #[.int .i64 (e 0), .int .i64 (e 1), .int .i64 (e 2), .int .i64 (e 3), .int .i64 (e 4), .int .i64 (e 5)] 111)).cell? ⟨w.heap.size, j, none⟩ = some (.int .i64 (e j)) := by
  intro j hj
  match j, hj with
  | 0, _ => simp [go_sem]
  | 1, _ => simp [go_sem]
  | 2, _ => simp [go_sem]
  | 3, _ => simp [go_sem]
  | 4, _ => simp [go_sem]
  | 5, _ => simp [go_sem]

set_option maxRecDepth 100000 in
set_option maxHeartbeats 4000000 in
theorem spv_bin (e : Nat → Int) (s : ByteArray) (a n1 n2 : Nat) (va vb : Int) (w : World) (hs : s.size ≤ 1000000) (ha : a < s.size) (hc : s[a] = 43 ∨ s[a] = 45 ∨ s[a] = 42) (_hn1 : n1 ≤ s.size) (_hn2 : n2 ≤ s.size)
    (ha0 : 0 ≤ va) (hva : va ≤ 2) (hb0 : 0 ≤ vb) (hvb : vb ≤ 2)
    (c1 : ∀ w, Calls Try.prog 97 #[.string s, .int .i64 (a + 1), envV e] w fun e' w' => e' = .returned (.tuple #[.int .i64 va, .int .i64 n1]) ∧ Below w.heap.size w w')
    (c2 : ∀ w, Calls Try.prog 97 #[.string s, .int .i64 n1, envV e] w fun e' w' => e' = .returned (.tuple #[.int .i64 vb, .int .i64 n2]) ∧ Below w.heap.size w w') :
    Calls Try.prog 97 #[.string s, .int .i64 a, envV e] w fun e' w' => e' = .returned (.tuple #[.int .i64 (cmp3 s[a] va vb), .int .i64 n2]) ∧ Below w.heap.size w w' := by
  have h0 : (0 : Int) ≤ (a : Int) := by omega
  have h1 : (a : Int) < (s.size : Int) := by omega
  have h2 : 0 ≤ va * vb := Int.mul_nonneg ha0 hb0
  have h3 : va * vb ≤ 4 := by
    have := Int.mul_le_mul hva hvb hb0 (show (0 : Int) ≤ 2 by omega)
    omega
  have C1 := Lib.hid c1
  have C2 := Lib.hid c2
  clear c1 c2
  unfold envV at *
  rcases hc with hc | hc | hc
  · have hcn : s[a].toNat = 43 := by rw [hc]; rfl
    have K : Hid (∀ w, Calls Try.prog 77 #[.string ⟨#[120, 121, 122, 88, 89, 90]⟩, .int .u8 43] w fun e w' => e = .returned (.int .i64 (-1)) ∧ w' = w) := fun w => six_find 43 (-1) w rfl
    have V : Hid (cmp3 s[a] va vb = cmp3 43 va vb) := by rw [hc]; rfl
    clear hc
    go_enter Try.func97, Try.ntmps97
    go_wp2_with fail
    refine (K.out _).mono ?_
    rintro e' w' ⟨rfl, rfl⟩
    go_wp2_with fail
    have bx := Box6.new w e
    have hB := (Below.refl w.heap.size w).alloc (Nat.le_refl _) (.cells #[.int .i64 (e 0), .int .i64 (e 1), .int .i64 (e 2), .int .i64 (e 3), .int .i64 (e 4), .int .i64 (e 5)] 111)
    generalize w.alloc (.cells #[.int .i64 (e 0), .int .i64 (e 1), .int .i64 (e 2), .int .i64 (e 3), .int .i64 (e 4), .int .i64 (e 5)] 111) = w0 at *
    refine (C1.out _).mono ?_
    rintro e' w1 ⟨rfl, hq⟩
    have q0 := cell_keep hq (bx 0 (by omega)); have q1 := cell_keep hq (bx 1 (by omega)); have q2 := cell_keep hq (bx 2 (by omega))
    have q3 := cell_keep hq (bx 3 (by omega)); have q4 := cell_keep hq (bx 4 (by omega)); have q5 := cell_keep hq (bx 5 (by omega))
    have HB := Lib.hid (hB.trans (hq.mono hB.size))
    clear hq hB bx
    go_wp2_with fail
    refine (C2.out _).mono ?_
    rintro e' w2 ⟨rfl, hq⟩
    have HB2 := Lib.hid (HB.out.trans (hq.mono HB.out.size))
    clear hq q0 q1 q2 q3 q4 q5
    go_wp2_with fail
    go_ret2
    exact ⟨by rw [V.out]; rfl, HB2.out⟩
  · have hcn : s[a].toNat = 45 := by rw [hc]; rfl
    have K : Hid (∀ w, Calls Try.prog 77 #[.string ⟨#[120, 121, 122, 88, 89, 90]⟩, .int .u8 45] w fun e w' => e = .returned (.int .i64 (-1)) ∧ w' = w) := fun w => six_find 45 (-1) w rfl
    have V : Hid (cmp3 s[a] va vb = cmp3 45 va vb) := by rw [hc]; rfl
    clear hc
    go_enter Try.func97, Try.ntmps97
    go_wp2_with fail
    refine (K.out _).mono ?_
    rintro e' w' ⟨rfl, rfl⟩
    go_wp2_with fail
    have bx := Box6.new w e
    have hB := (Below.refl w.heap.size w).alloc (Nat.le_refl _) (.cells #[.int .i64 (e 0), .int .i64 (e 1), .int .i64 (e 2), .int .i64 (e 3), .int .i64 (e 4), .int .i64 (e 5)] 111)
    generalize w.alloc (.cells #[.int .i64 (e 0), .int .i64 (e 1), .int .i64 (e 2), .int .i64 (e 3), .int .i64 (e 4), .int .i64 (e 5)] 111) = w0 at *
    refine (C1.out _).mono ?_
    rintro e' w1 ⟨rfl, hq⟩
    have q0 := cell_keep hq (bx 0 (by omega)); have q1 := cell_keep hq (bx 1 (by omega)); have q2 := cell_keep hq (bx 2 (by omega))
    have q3 := cell_keep hq (bx 3 (by omega)); have q4 := cell_keep hq (bx 4 (by omega)); have q5 := cell_keep hq (bx 5 (by omega))
    have HB := Lib.hid (hB.trans (hq.mono hB.size))
    clear hq hB bx
    go_wp2_with fail
    refine (C2.out _).mono ?_
    rintro e' w2 ⟨rfl, hq⟩
    have HB2 := Lib.hid (HB.out.trans (hq.mono HB.out.size))
    clear hq q0 q1 q2 q3 q4 q5
    go_wp2_with fail
    go_ret2
    exact ⟨by rw [V.out]; rfl, HB2.out⟩
  · have hcn : s[a].toNat = 42 := by rw [hc]; rfl
    have K : Hid (∀ w, Calls Try.prog 77 #[.string ⟨#[120, 121, 122, 88, 89, 90]⟩, .int .u8 42] w fun e w' => e = .returned (.int .i64 (-1)) ∧ w' = w) := fun w => six_find 42 (-1) w rfl
    have V : Hid (cmp3 s[a] va vb = cmp3 42 va vb) := by rw [hc]; rfl
    clear hc
    go_enter Try.func97, Try.ntmps97
    go_wp2_with fail
    refine (K.out _).mono ?_
    rintro e' w' ⟨rfl, rfl⟩
    go_wp2_with fail
    have bx := Box6.new w e
    have hB := (Below.refl w.heap.size w).alloc (Nat.le_refl _) (.cells #[.int .i64 (e 0), .int .i64 (e 1), .int .i64 (e 2), .int .i64 (e 3), .int .i64 (e 4), .int .i64 (e 5)] 111)
    generalize w.alloc (.cells #[.int .i64 (e 0), .int .i64 (e 1), .int .i64 (e 2), .int .i64 (e 3), .int .i64 (e 4), .int .i64 (e 5)] 111) = w0 at *
    refine (C1.out _).mono ?_
    rintro e' w1 ⟨rfl, hq⟩
    have q0 := cell_keep hq (bx 0 (by omega)); have q1 := cell_keep hq (bx 1 (by omega)); have q2 := cell_keep hq (bx 2 (by omega))
    have q3 := cell_keep hq (bx 3 (by omega)); have q4 := cell_keep hq (bx 4 (by omega)); have q5 := cell_keep hq (bx 5 (by omega))
    have HB := Lib.hid (hB.trans (hq.mono hB.size))
    clear hq hB bx
    go_wp2_with fail
    refine (C2.out _).mono ?_
    rintro e' w2 ⟨rfl, hq⟩
    have HB2 := Lib.hid (HB.out.trans (hq.mono HB.out.size))
    clear hq q0 q1 q2 q3 q4 q5
    go_wp2_with fail
    go_ret2
    exact ⟨by rw [V.out]; rfl, HB2.out⟩

theorem ok_wide {k : Bool} : ∀ {t : Tm}, Ok false k t → Ok true k t := by
  have ho : ∀ (k : Bool) (c : UInt8) (l : List Bool), opk false k c = some l → opk true k c = some l := by
    intro k c l h
    cases k
    · rw [opk_e] at h ⊢
      by_cases h1 : (isVarB false c || isDigB c) = true
      · rw [if_pos h1] at h; rw [if_pos]
        · exact h
        · simp [isVarB] at h1 ⊢; rcases h1 with h1 | h1
          · left; left; exact h1
          · right; exact h1
      · rw [if_neg h1] at h
        by_cases h2 : isOpB c = true
        · rw [if_pos h2] at h
          rw [if_neg, if_pos h2]
          · exact h
          · rcases op_cases h2 with rfl | rfl | rfl <;> decide
        · rw [if_neg h2] at h; cases h
    · exact h
  intro t
  induction t generalizing k with
  | leaf c => exact fun h => ho _ _ _ h
  | un c a ih => rintro ⟨k1, h, h1⟩; exact ⟨k1, ho _ _ _ h, ih h1⟩
  | bin c a b iha ihb => rintro ⟨k1, k2, h, h1, h2⟩; exact ⟨k1, k2, ho _ _ _ h, iha h1, ihb h2⟩

/-- spec.l1Value at an index where an expression begins: its value, and where it ends. -/
theorem spv_any (e : Nat → Int) (he : ∀ i, 0 ≤ e i ∧ e i ≤ 2) (s : ByteArray) (hs : s.size ≤ 1000000) : ∀ (t : Tm) (a : Nat) (r : List UInt8) (w : World), Ok true false t → s.data.toList.drop a = t.ser ++ r →
    Calls Try.prog 97 #[.string s, .int .i64 a, envV e] w fun e' w' => e' = .returned (.tuple #[.int .i64 (val e t), .int .i64 ((a + t.ser.length : Nat) : Int)]) ∧ Below w.heap.size w w' := by
  intro t
  induction t with
  | leaf c =>
    intro a r w ht hd
    rcases ok_expr ht with ⟨c', e1, hc⟩ | ⟨_, _, _, e1, _⟩
    · cases e1
      obtain ⟨hl, rfl⟩ := byte_at hd
      exact spv_leaf e s a w hs hl (wleaf_cases hc)
    · cases e1
  | un c a _ =>
    intro b r w ht hd
    rcases ok_expr ht with ⟨_, e1, _⟩ | ⟨_, _, _, e1, _⟩ <;> cases e1
  | bin c x y ihx ihy =>
    intro a r w ht hd
    rcases ok_expr ht with ⟨_, e1, _⟩ | ⟨c', x', y', e1, hc, ox, oy⟩
    · cases e1
    · cases e1
      have hd0 : s.data.toList.drop a = c :: (x.ser ++ (y.ser ++ r)) := by rw [hd]; simp [ser]
      obtain ⟨hl, rfl⟩ := byte_at hd0
      have hd1 : s.data.toList.drop (a + 1) = x.ser ++ (y.ser ++ r) := drop_next hd0
      have hd2 : s.data.toList.drop (a + 1 + x.ser.length) = y.ser ++ r := by rw [← List.drop_drop, hd1, List.drop_left' rfl]
      have hlen := congrArg List.length hd
      simp [ser] at hlen
      have hsz : s.size = s.data.size := rfl
      have h1 := val_bd he ox
      have h2 := val_bd he oy
      have e2 : a + (Tm.bin s[a] x y).ser.length = a + 1 + x.ser.length + y.ser.length := by simp [ser]; omega
      rw [e2]
      exact spv_bin e s a (a + 1 + x.ser.length) (a + 1 + x.ser.length + y.ser.length) (val e x) (val e y) w hs hl (op_cases hc) (by omega) (by omega) h1.1 h1.2 h2.1 h2.2
        (fun w => ihx (a + 1) _ w ox hd1) (fun w => ihy _ _ w oy hd2)
end Go.Proofs.Ytheclmdpiijakaa

namespace Go.Proofs.Ytheclmdpiijakaa
open Go.RowKit Tm

theorem st3_bd {x y z : Int} (h : st3 x y z = true) : (0 ≤ x ∧ x ≤ 2) ∧ (0 ≤ y ∧ y ≤ 2) ∧ (0 ≤ z ∧ z ≤ 2) := by
  unfold st3 at h
  simp only [Bool.and_eq_true] at h
  have a := val3_bd h.1.1; have b := val3_bd h.1.2; have c := val3_bd h.2
  omega
theorem one_bd {x y z : Int} (h : st3 x y z = true) : ∀ i, 0 ≤ one x y z i ∧ one x y z i ≤ 2 := by
  have hb := st3_bd h
  intro i
  unfold one
  split
  · exact hb.1
  · exact hb.2.1
  · exact hb.2.2
  · exact ⟨Int.le_refl _, by decide⟩

set_option maxHeartbeats 1000000 in
theorem specOne (x y z : Int) (w : World) : Calls Try.prog 108 #[.agg #[.int .i64 x, .int .i64 y, .int .i64 z]] w fun e w' => e = .returned (envV (one x y z)) ∧ Below w.heap.size w w' := by
  go_enter Try.func108, Try.ntmps108
  go_wp2_with fail
  exact bodyPost_ret (v := envV (one x y z)) (by simp [results, Try.results108, go_sem, envV, one]) rfl ⟨rfl, ((Below.refl _ _).alloc (Nat.le_refl _) _).alloc (by simp) _⟩

end Go.Proofs.Ytheclmdpiijakaa

namespace Go.Proofs.Ytheclmdpiijakaa
open Go.RowKit Tm

set_option maxHeartbeats 2000000 in
theorem sph_leaf (e : Nat → Int) (s : ByteArray) (a : Nat) (w : World) (hs : s.size ≤ 1000000) (ha : a < s.size) (hc : s[a] = 116 ∨ s[a] = 102) :
    Calls Try.prog 79 #[.string s, .int .i64 a, envV e] w fun e' w' => e' = .returned (.tuple #[.bool (s[a] == 116), .int .i64 (a + 1)]) ∧ Below w.heap.size w w' := by
  have h0 : (0 : Int) ≤ (a : Int) := by omega
  have h1 : (a : Int) < (s.size : Int) := by omega
  unfold envV
  rcases hc with hc | hc
  · have hcn : s[a].toNat = 116 := by rw [hc]; rfl
    have V : Hid ((s[a] == 116) = true) := by rw [hc]; rfl
    clear hc
    go_enter Try.func79, Try.ntmps79
    go_wp2_with fail
    go_ret2
    exact ⟨by rw [V.out]; rfl, (Below.refl _ _).alloc (Nat.le_refl _) _⟩
  · have hcn : s[a].toNat = 102 := by rw [hc]; rfl
    have V : Hid ((s[a] == 116) = false) := by rw [hc]; rfl
    clear hc
    go_enter Try.func79, Try.ntmps79
    go_wp2_with fail
    go_ret2
    exact ⟨by rw [V.out]; rfl, (Below.refl _ _).alloc (Nat.le_refl _) _⟩

set_option maxRecDepth 100000 in
set_option maxHeartbeats 4000000 in
theorem sph_cmp (e : Nat → Int) (s : ByteArray) (a n1 n2 : Nat) (va vb : Int) (w : World) (hs : s.size ≤ 1000000) (ha : a < s.size) (r : Bool) (hr : (if s[a] = 61 then va == vb else decide (va < vb)) = r) (hc : s[a] = 61 ∨ s[a] = 60)
    (c1 : ∀ w, Calls Try.prog 97 #[.string s, .int .i64 (a + 1), envV e] w fun e' w' => e' = .returned (.tuple #[.int .i64 va, .int .i64 n1]) ∧ Below w.heap.size w w')
    (c2 : ∀ w, Calls Try.prog 97 #[.string s, .int .i64 n1, envV e] w fun e' w' => e' = .returned (.tuple #[.int .i64 vb, .int .i64 n2]) ∧ Below w.heap.size w w') :
    Calls Try.prog 79 #[.string s, .int .i64 a, envV e] w fun e' w' => e' = .returned (.tuple #[.bool r, .int .i64 n2]) ∧ Below w.heap.size w w' := by
  have h0 : (0 : Int) ≤ (a : Int) := by omega
  have h1 : (a : Int) < (s.size : Int) := by omega
  have C1 := Lib.hid c1
  have C2 := Lib.hid c2
  have HR := Lib.hid hr
  clear c1 c2 hr
  unfold envV at *
  rcases hc with hc | hc
  · have hcn : s[a].toNat = 61 := by rw [hc]; rfl
    have hcc : Hid (s[a] = 61) := hc
    clear hc
    have V : Hid ((va == vb) = r) := by rw [← HR.out, hcc.out]; rfl
    cases ht : (va == vb)
    all_goals
      have T := Lib.hid ht
      skip
      go_enter Try.func79, Try.ntmps79
      go_wp2_with fail
      have bx := Box6.new w e
      have hB := (Below.refl w.heap.size w).alloc (Nat.le_refl _) (.cells #[.int .i64 (e 0), .int .i64 (e 1), .int .i64 (e 2), .int .i64 (e 3), .int .i64 (e 4), .int .i64 (e 5)] 111)
      generalize w.alloc (.cells #[.int .i64 (e 0), .int .i64 (e 1), .int .i64 (e 2), .int .i64 (e 3), .int .i64 (e 4), .int .i64 (e 5)] 111) = w0 at *
      refine (C1.out _).mono ?_
      rintro e' w1 ⟨rfl, hq⟩
      have q0 := cell_keep hq (bx 0 (by omega)); have q1 := cell_keep hq (bx 1 (by omega)); have q2 := cell_keep hq (bx 2 (by omega))
      have q3 := cell_keep hq (bx 3 (by omega)); have q4 := cell_keep hq (bx 4 (by omega)); have q5 := cell_keep hq (bx 5 (by omega))
      have HB := Lib.hid (hB.trans (hq.mono hB.size))
      clear hq hB bx
      go_wp2_with fail
      refine (C2.out _).mono ?_
      rintro e' w2 ⟨rfl, hq⟩
      have HB2 := Lib.hid (HB.out.trans (hq.mono HB.out.size))
      clear hq q0 q1 q2 q3 q4 q5
      go_wp2_with fail
      go_ret2
      exact ⟨by first | (rw [← V.out, T.out]; rfl) | (rw [← V.out]; rfl), HB2.out⟩
  · have hcn : s[a].toNat = 60 := by rw [hc]; rfl
    have hcc : Hid (s[a] = 60) := hc
    clear hc
    have V : Hid ((decide (va < vb)) = r) := by rw [← HR.out, hcc.out]; rfl
    cases ht : (decide (va < vb))
    all_goals
      have T := Lib.hid ht
      simp only [decide_eq_false_iff_not, decide_eq_true_eq] at ht
      go_enter Try.func79, Try.ntmps79
      go_wp2_with fail
      have bx := Box6.new w e
      have hB := (Below.refl w.heap.size w).alloc (Nat.le_refl _) (.cells #[.int .i64 (e 0), .int .i64 (e 1), .int .i64 (e 2), .int .i64 (e 3), .int .i64 (e 4), .int .i64 (e 5)] 111)
      generalize w.alloc (.cells #[.int .i64 (e 0), .int .i64 (e 1), .int .i64 (e 2), .int .i64 (e 3), .int .i64 (e 4), .int .i64 (e 5)] 111) = w0 at *
      refine (C1.out _).mono ?_
      rintro e' w1 ⟨rfl, hq⟩
      have q0 := cell_keep hq (bx 0 (by omega)); have q1 := cell_keep hq (bx 1 (by omega)); have q2 := cell_keep hq (bx 2 (by omega))
      have q3 := cell_keep hq (bx 3 (by omega)); have q4 := cell_keep hq (bx 4 (by omega)); have q5 := cell_keep hq (bx 5 (by omega))
      have HB := Lib.hid (hB.trans (hq.mono hB.size))
      clear hq hB bx
      go_wp2_with fail
      refine (C2.out _).mono ?_
      rintro e' w2 ⟨rfl, hq⟩
      have HB2 := Lib.hid (HB.out.trans (hq.mono HB.out.size))
      clear hq q0 q1 q2 q3 q4 q5
      go_wp2_with fail
      go_ret2
      exact ⟨by first | (rw [← V.out, T.out]; rfl) | (rw [← V.out]; rfl), HB2.out⟩

set_option maxRecDepth 100000 in
set_option maxHeartbeats 4000000 in
theorem sph_bin (e : Nat → Int) (s : ByteArray) (a n1 n2 : Nat) (va vb : Bool) (w : World) (hs : s.size ≤ 1000000) (ha : a < s.size) (r : Bool) (hr : (if s[a] = 38 then va && vb else va || vb) = r) (hc : s[a] = 38 ∨ s[a] = 124)
    (c1 : ∀ w, Calls Try.prog 79 #[.string s, .int .i64 (a + 1), envV e] w fun e' w' => e' = .returned (.tuple #[.bool va, .int .i64 n1]) ∧ Below w.heap.size w w')
    (c2 : ∀ w, Calls Try.prog 79 #[.string s, .int .i64 n1, envV e] w fun e' w' => e' = .returned (.tuple #[.bool vb, .int .i64 n2]) ∧ Below w.heap.size w w') :
    Calls Try.prog 79 #[.string s, .int .i64 a, envV e] w fun e' w' => e' = .returned (.tuple #[.bool r, .int .i64 n2]) ∧ Below w.heap.size w w' := by
  have h0 : (0 : Int) ≤ (a : Int) := by omega
  have h1 : (a : Int) < (s.size : Int) := by omega
  have C1 := Lib.hid c1
  have C2 := Lib.hid c2
  have HR := Lib.hid hr
  clear c1 c2 hr
  unfold envV at *
  rcases hc with hc | hc
  · have hcn : s[a].toNat = 38 := by rw [hc]; rfl
    have hcc : Hid (s[a] = 38) := hc
    clear hc
    have V : Hid ((va && vb) = r) := by rw [← HR.out, hcc.out]; rfl
    cases va <;> cases vb
    all_goals
      go_enter Try.func79, Try.ntmps79
      go_wp2_with fail
      have bx := Box6.new w e
      have hB := (Below.refl w.heap.size w).alloc (Nat.le_refl _) (.cells #[.int .i64 (e 0), .int .i64 (e 1), .int .i64 (e 2), .int .i64 (e 3), .int .i64 (e 4), .int .i64 (e 5)] 111)
      generalize w.alloc (.cells #[.int .i64 (e 0), .int .i64 (e 1), .int .i64 (e 2), .int .i64 (e 3), .int .i64 (e 4), .int .i64 (e 5)] 111) = w0 at *
      refine (C1.out _).mono ?_
      rintro e' w1 ⟨rfl, hq⟩
      have q0 := cell_keep hq (bx 0 (by omega)); have q1 := cell_keep hq (bx 1 (by omega)); have q2 := cell_keep hq (bx 2 (by omega))
      have q3 := cell_keep hq (bx 3 (by omega)); have q4 := cell_keep hq (bx 4 (by omega)); have q5 := cell_keep hq (bx 5 (by omega))
      have HB := Lib.hid (hB.trans (hq.mono hB.size))
      clear hq hB bx
      go_wp2_with fail
      refine (C2.out _).mono ?_
      rintro e' w2 ⟨rfl, hq⟩
      have HB2 := Lib.hid (HB.out.trans (hq.mono HB.out.size))
      clear hq q0 q1 q2 q3 q4 q5
      go_wp2_with fail
      go_ret2
      exact ⟨by rw [← V.out]; rfl, HB2.out⟩
  · have hcn : s[a].toNat = 124 := by rw [hc]; rfl
    have hcc : Hid (s[a] = 124) := hc
    clear hc
    have V : Hid ((va || vb) = r) := by rw [← HR.out, hcc.out]; rfl
    cases va <;> cases vb
    all_goals
      go_enter Try.func79, Try.ntmps79
      go_wp2_with fail
      have bx := Box6.new w e
      have hB := (Below.refl w.heap.size w).alloc (Nat.le_refl _) (.cells #[.int .i64 (e 0), .int .i64 (e 1), .int .i64 (e 2), .int .i64 (e 3), .int .i64 (e 4), .int .i64 (e 5)] 111)
      generalize w.alloc (.cells #[.int .i64 (e 0), .int .i64 (e 1), .int .i64 (e 2), .int .i64 (e 3), .int .i64 (e 4), .int .i64 (e 5)] 111) = w0 at *
      refine (C1.out _).mono ?_
      rintro e' w1 ⟨rfl, hq⟩
      have q0 := cell_keep hq (bx 0 (by omega)); have q1 := cell_keep hq (bx 1 (by omega)); have q2 := cell_keep hq (bx 2 (by omega))
      have q3 := cell_keep hq (bx 3 (by omega)); have q4 := cell_keep hq (bx 4 (by omega)); have q5 := cell_keep hq (bx 5 (by omega))
      have HB := Lib.hid (hB.trans (hq.mono hB.size))
      clear hq hB bx
      go_wp2_with fail
      refine (C2.out _).mono ?_
      rintro e' w2 ⟨rfl, hq⟩
      have HB2 := Lib.hid (HB.out.trans (hq.mono HB.out.size))
      clear hq q0 q1 q2 q3 q4 q5
      go_wp2_with fail
      go_ret2
      exact ⟨by rw [← V.out]; rfl, HB2.out⟩

set_option maxRecDepth 100000 in
set_option maxHeartbeats 4000000 in
theorem sph_not (e : Nat → Int) (s : ByteArray) (a n1 : Nat) (va : Bool) (w : World) (hs : s.size ≤ 1000000) (ha : a < s.size) (hc : s[a] = 33)
    (c1 : ∀ w, Calls Try.prog 79 #[.string s, .int .i64 (a + 1), envV e] w fun e' w' => e' = .returned (.tuple #[.bool va, .int .i64 n1]) ∧ Below w.heap.size w w') :
    Calls Try.prog 79 #[.string s, .int .i64 a, envV e] w fun e' w' => e' = .returned (.tuple #[.bool (!va), .int .i64 n1]) ∧ Below w.heap.size w w' := by
  have h0 : (0 : Int) ≤ (a : Int) := by omega
  have h1 : (a : Int) < (s.size : Int) := by omega
  have C1 := Lib.hid c1
  clear c1
  unfold envV at *
  · have hcn : s[a].toNat = 33 := by rw [hc]; rfl
    clear hc
    go_enter Try.func79, Try.ntmps79
    go_wp2_with fail
    have bx := Box6.new w e
    have hB := (Below.refl w.heap.size w).alloc (Nat.le_refl _) (.cells #[.int .i64 (e 0), .int .i64 (e 1), .int .i64 (e 2), .int .i64 (e 3), .int .i64 (e 4), .int .i64 (e 5)] 111)
    generalize w.alloc (.cells #[.int .i64 (e 0), .int .i64 (e 1), .int .i64 (e 2), .int .i64 (e 3), .int .i64 (e 4), .int .i64 (e 5)] 111) = w0 at *
    refine (C1.out _).mono ?_
    rintro e' w1 ⟨rfl, hq⟩
    have HB := Lib.hid (hB.trans (hq.mono hB.size))
    clear hq hB bx
    go_wp2_with fail
    go_ret2
    exact ⟨rfl, HB.out⟩

/-- spec.l1Holds at an index where a test begins: its truth, and where it ends. -/
theorem sph_any (e : Nat → Int) (he : ∀ i, 0 ≤ e i ∧ e i ≤ 2) (s : ByteArray) (hs : s.size ≤ 1000000) : ∀ (t : Tm) (a : Nat) (r : List UInt8) (w : World), Ok true true t → s.data.toList.drop a = t.ser ++ r →
    Calls Try.prog 79 #[.string s, .int .i64 a, envV e] w fun e' w' => e' = .returned (.tuple #[.bool (tru e t), .int .i64 ((a + t.ser.length : Nat) : Int)]) ∧ Below w.heap.size w w' := by
  intro t
  induction t with
  | leaf c =>
    intro a r w ht hd
    rcases ok_test ht with ⟨c', e1, hc⟩ | ⟨_, e1, _⟩ | ⟨_, _, _, e1, _⟩ | ⟨_, _, _, e1, _⟩
    · cases e1
      obtain ⟨hl, rfl⟩ := byte_at hd
      exact sph_leaf e s a w hs hl hc
    · cases e1
    · cases e1
    · cases e1
  | un c x ihx =>
    intro a r w ht hd
    rcases ok_test ht with ⟨c', e1, hc⟩ | ⟨_, e1, oa⟩ | ⟨_, _, _, e1, _⟩ | ⟨_, _, _, e1, _⟩
    · cases e1
    · cases e1
      have hd0 : s.data.toList.drop a = 33 :: (x.ser ++ r) := by rw [hd]; simp [ser]
      obtain ⟨hl, hc⟩ := byte_at hd0
      have hd1 : s.data.toList.drop (a + 1) = x.ser ++ r := drop_next hd0
      have e2 : a + (Tm.un 33 x).ser.length = a + 1 + x.ser.length := by simp [ser]; omega
      rw [e2]
      exact sph_not e s a (a + 1 + x.ser.length) _ w hs hl hc (fun w => ihx (a + 1) _ w oa hd1)
    · cases e1
    · cases e1
  | bin c x y ihx ihy =>
    intro a r w ht hd
    have hd0 : s.data.toList.drop a = c :: (x.ser ++ (y.ser ++ r)) := by rw [hd]; simp [ser]
    obtain ⟨hl, rfl⟩ := byte_at hd0
    have hd1 : s.data.toList.drop (a + 1) = x.ser ++ (y.ser ++ r) := drop_next hd0
    have hd2 : s.data.toList.drop (a + 1 + x.ser.length) = y.ser ++ r := by rw [← List.drop_drop, hd1, List.drop_left' rfl]
    have e2 : a + (Tm.bin s[a] x y).ser.length = a + 1 + x.ser.length + y.ser.length := by simp [ser]; omega
    rw [e2]
    rcases ok_test ht with ⟨c', e1, hc⟩ | ⟨_, e1, oa⟩ | ⟨c', x', y', e1, hc, ox, oy⟩ | ⟨c', x', y', e1, hc, ox, oy⟩
    · cases e1
    · cases e1
    · injection e1 with e3 e4 e5
      subst e4 e5
      rw [← e3] at hc
      have e6 : tru e (.bin s[a] x y) = if s[a] = 61 then val e x == val e y else decide (val e x < val e y) := by
        rcases hc with h | h <;> rw [h] <;> rfl
      rw [e6]
      exact sph_cmp e s a (a + 1 + x.ser.length) (a + 1 + x.ser.length + y.ser.length) (val e x) (val e y) w hs hl _ rfl hc (fun w => spv_any e he s hs x (a + 1) _ w ox hd1) (fun w => spv_any e he s hs y _ _ w oy hd2)
    · injection e1 with e3 e4 e5
      subst e4 e5
      rw [← e3] at hc
      have e6 : tru e (.bin s[a] x y) = if s[a] = 38 then tru e x && tru e y else tru e x || tru e y := by
        rcases hc with h | h <;> rw [h] <;> rfl
      rw [e6]
      exact sph_bin e s a (a + 1 + x.ser.length) (a + 1 + x.ser.length + y.ser.length) (tru e x) (tru e y) w hs hl _ rfl hc (fun w => ihx (a + 1) _ w ox hd1) (fun w => ihy _ _ w oy hd2)
end Go.Proofs.Ytheclmdpiijakaa

namespace Go.Proofs.Ytheclmdpiijakaa
open Go.RowKit Tm

/-- The values of the variables in the state with a number. -/
def env (i : Nat) : Nat → Int := one (ax i) (ay i) (az i)
def tst (t : Tm) (i : Nat) : Bool := tru (env i) t

end Go.Proofs.Ytheclmdpiijakaa
