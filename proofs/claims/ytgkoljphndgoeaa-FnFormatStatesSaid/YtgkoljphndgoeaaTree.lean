/-
  A tree of terms in memory: a term is two cells, a letter and a slice of the operands' cells. While a text is read some terms are still open: 'Pend' says that whatever trees come to stand in the open places, the root then reads as the whole tree.
-/
import Derived.Test.YtgkoljphndgoeaaBase
import Derived.Test.YtgkoljphndgoeaaKinds
import Derived.Lib.OthersKept
namespace Go.Proofs.Ytgkoljphndgoeaa
open Go.RowKit Tm

def lv (c : UInt8) : Value := .int .u8 c.toNat

/-- The values x and y are the two cells of a term that reads as the tree; the cells of its operands lie in blocks from B on. -/
def RepT (w : World) (B : Nat) : Tm → Value → Value → Prop
  | .leaf c, x, y => x = lv c ∧ ∃ a n, y = .slice a 0 n
  | .un c a, x, y => x = lv c ∧ ∃ b n x1 y1, y = .slice (some ⟨b, 0, none⟩) 1 n ∧ B ≤ b ∧ w.cell? ⟨b, 0, none⟩ = some x1 ∧ w.cell? ⟨b, 1, none⟩ = some y1 ∧ RepT w B a x1 y1
  | .bin c a d, x, y => x = lv c ∧ ∃ b n x1 y1 x2 y2, y = .slice (some ⟨b, 0, none⟩) 2 n ∧ B ≤ b ∧ w.cell? ⟨b, 0, none⟩ = some x1 ∧ w.cell? ⟨b, 1, none⟩ = some y1 ∧
      w.cell? ⟨b, 2, none⟩ = some x2 ∧ w.cell? ⟨b, 3, none⟩ = some y2 ∧ RepT w B a x1 y1 ∧ RepT w B d x2 y2

def RepAt (w : World) (B b o : Nat) (t : Tm) : Prop := ∃ x y, w.cell? ⟨b, o, none⟩ = some x ∧ w.cell? ⟨b, o + 1, none⟩ = some y ∧ RepT w B t x y

theorem RepT.head {w : World} {B : Nat} {t : Tm} {x y : Value} (h : RepT w B t x y) : x = lv t.head := by cases t <;> exact h.1

theorem RepT.forms {w : World} {B : Nat} {t : Tm} {x y : Value} (h : RepT w B t x y) : ∃ (c : Int) (a : Option Addr) (n m : Nat), x = .int .u8 c ∧ y = .slice a n m := by
  cases t with
  | leaf c => obtain ⟨rfl, a, n, rfl⟩ := h; exact ⟨_, _, _, _, rfl, rfl⟩
  | un c a => obtain ⟨rfl, b, n, x1, y1, rfl, _⟩ := h; exact ⟨_, _, _, _, rfl, rfl⟩
  | bin c a d => obtain ⟨rfl, b, n, x1, y1, x2, y2, rfl, _⟩ := h; exact ⟨_, _, _, _, rfl, rfl⟩

theorem cell_lt {w : World} {b o : Nat} {v : Value} (h : w.cell? ⟨b, o, none⟩ = some v) : b < w.heap.size := World.block_lt_of_cell? w ⟨b, o, none⟩ h

theorem RepT.keep {w w' : World} {B B' : Nat} (hc : ∀ b o v, B ≤ b → w.cell? ⟨b, o, none⟩ = some v → w'.cell? ⟨b, o, none⟩ = some v) (hB : B' ≤ B) : ∀ {t : Tm} {x y : Value}, RepT w B t x y → RepT w' B' t x y := by
  intro t
  induction t with
  | leaf c => exact fun h => h
  | un c a ih =>
    rintro x y ⟨h0, b, n, x1, y1, h1, hb, h2, h3, h4⟩
    exact ⟨h0, b, n, x1, y1, h1, by omega, hc _ _ _ hb h2, hc _ _ _ hb h3, ih h4⟩
  | bin c a d iha ihd =>
    rintro x y ⟨h0, b, n, x1, y1, x2, y2, h1, hb, h2, h3, h4, h5, h6, h7⟩
    exact ⟨h0, b, n, x1, y1, x2, y2, h1, by omega, hc _ _ _ hb h2, hc _ _ _ hb h3, hc _ _ _ hb h4, hc _ _ _ hb h5, iha h6, ihd h7⟩
theorem RepT.below {w w' : World} {B : Nat} (hb : Below w.heap.size w w') {t : Tm} {x y : Value} (h : RepT w B t x y) : RepT w' B t x y :=
  h.keep (fun _ _ _ _ h => (hb.cell (p := ⟨_, _, none⟩) (cell_lt h)).trans h) (Nat.le_refl _)
theorem RepT.mono {w : World} {B B' : Nat} {t : Tm} {x y : Value} (h : RepT w B t x y) (hB : B' ≤ B) : RepT w B' t x y := h.keep (fun _ _ _ _ h => h) hB

/-- An open place: the kind that is wanted, the block, the offset. -/
structure Hole where
  kind : Bool
  b : Nat
  o : Nat

def kv (k : Bool) : Value := .int .u8 (kcode k)
def stk : List Hole → List Value
  | [] => []
  | p :: L => stk L ++ [kv p.kind, .pointer (some ⟨p.b, p.o, none⟩)]
theorem stk_length (L : List Hole) : (stk L).length = L.length * 2 := by
  induction L with
  | nil => rfl
  | cons p L ih => simp [stk, ih]; omega
theorem stk_top0 (p : Hole) (L : List Hole) : (stk (p :: L))[L.length * 2]? = some (kv p.kind) := by
  rw [← stk_length L]; simp [stk]
theorem stk_top1 (p : Hole) (L : List Hole) : (stk (p :: L))[L.length * 2 + 1]? = some (.pointer (some ⟨p.b, p.o, none⟩)) := by
  rw [← stk_length L]; simp [stk]

def InHoles (L : List Hole) (b o : Nat) : Prop := ∃ p ∈ L, p.b = b ∧ (o = p.o ∨ o = p.o + 1)
def RepL (w : World) (B : Nat) : List Hole → List Tm → Prop
  | [], [] => True
  | p :: L, t :: ts => RepAt w B p.b p.o t ∧ RepL w B L ts
  | _, _ => False

/-- What the top place becomes: a term with this letter and, in block nb, as many operands as kinds. -/
def build (c : UInt8) : List Bool → List Tm → List Tm
  | [], ts => .leaf c :: ts
  | [_], a :: ts => .un c a :: ts
  | [_, _], a :: b :: ts => .bin c a b :: ts
  | _, _ => []
def newHoles (nb : Nat) : List Bool → List Hole
  | [] => []
  | [k1] => [⟨k1, nb, 0⟩]
  | [k1, k2] => [⟨k1, nb, 0⟩, ⟨k2, nb, 2⟩]
  | _ => []

theorem not_in_of_apart {p : Hole} {L : List Hole} {nbk : List Bool} {nb : Nat} (hap : (p :: L).Pairwise fun p q => ¬ (p.b = q.b ∧ p.o = q.o)) (he : ∀ q ∈ p :: L, q.o % 2 = 0) (hne : p.b ≠ nb) {o : Nat} (ho : o = p.o ∨ o = p.o + 1) : ¬ InHoles (newHoles nb nbk ++ L) p.b o := by
  rintro ⟨q, hq, hb, ho'⟩
  rw [List.mem_append] at hq
  rcases hq with hq | hq
  · have : q.b = nb := by
      match nbk, hq with
      | [], hq => simp [newHoles] at hq
      | [k1], hq => simp [newHoles] at hq; rw [hq]
      | [k1, k2], hq => simp [newHoles] at hq; rcases hq with rfl | rfl <;> rfl
      | k1 :: k2 :: k3 :: r, hq => simp [newHoles] at hq
    omega
  · have h1 := (List.pairwise_cons.1 hap).1 q hq
    have h2 := he q (by simp [hq])
    have h3 := he p (by simp)
    exact h1 ⟨hb.symm, by omega⟩

theorem kinds_newHoles (nb : Nat) (l : List Bool) (hl : l.length ≤ 2) : (newHoles nb l).map (·.kind) = l := by
  match l, hl with
  | [], _ => rfl
  | [k1], _ => rfl
  | [k1, k2], _ => rfl

/-- What has been read so far: whatever trees come to stand in the open places, their bytes behind those that have been read are the bytes of the whole tree. -/
structure Sofar (k : Bool) (pre : List UInt8) (ks : List Bool) (F : List Tm → Tm) : Prop where
  ok : ∀ ts, Oks false ks ts → Ok false k (F ts)
  ser : ∀ ts, Oks false ks ts → (F ts).ser = pre ++ sers ts

theorem Sofar.start (k : Bool) : Sofar k [] [k] (fun ts => ts.headD (.leaf 0)) where
  ok := fun ts h => by match ts, h with | [t], h => exact h.1
  ser := fun ts h => by match ts, h with | [t], h => simp [sers]

theorem oks_build {c : UInt8} {k : Bool} {l ks : List Bool} (hl : opk false k c = some l) : ∀ ts, Oks false (l ++ ks) ts → Oks false (k :: ks) (build c l ts) ∧ sers (build c l ts) = c :: sers ts := by
  intro ts h
  match l, opk_len hl, ts, h with
  | [], _, ts, h => exact ⟨⟨hl, h⟩, by simp [build, sers, Tm.ser]⟩
  | [k1], _, a :: ts, h => exact ⟨⟨⟨k1, hl, h.1⟩, h.2⟩, by simp [build, sers, Tm.ser]⟩
  | [k1, k2], _, a :: b :: ts, h => exact ⟨⟨⟨k1, k2, hl, h.1, h.2.1⟩, h.2.2⟩, by simp [build, sers, Tm.ser]⟩

theorem Sofar.step {k : Bool} {pre : List UInt8} {k0 : Bool} {ks : List Bool} {F : List Tm → Tm} (h : Sofar k pre (k0 :: ks) F) {c : UInt8} {l : List Bool} (hl : opk false k0 c = some l) : Sofar k (pre ++ [c]) (l ++ ks) (fun ts => F (build c l ts)) where
  ok := fun ts ht => h.ok _ (oks_build hl ts ht).1
  ser := fun ts ht => by rw [h.ser _ (oks_build hl ts ht).1, (oks_build hl ts ht).2]; simp
end Go.Proofs.Ytgkoljphndgoeaa
