/-
  A map keyed by points: what a look-up finds and what a store leaves; what a call leaves as it was that writes two blocks.
-/
import Derived.Test.YtheclmdpiijakaaTopB
import Derived.Test.YtheclmdpiijakaaSem
import Derived.ProofKit
import Derived.ChangeMaps5
namespace Go.Proofs.Ytheclmdpiijakaa
open Go.RowKit Go.ChangeMaps

/-! ### All blocks but two -/
structure Kp2 (a b : Nat) (w w' : World) : Prop where
  os : w'.os = w.os
  tape : w'.tape = w.tape
  output : w'.output = w.output
  size : w.heap.size ≤ w'.heap.size
  block : ∀ k, k < w.heap.size → k ≠ a → k ≠ b → w'.heap[k]? = w.heap[k]?
theorem Kp2.refl (a b : Nat) (w : World) : Kp2 a b w w := ⟨rfl, rfl, rfl, Nat.le_refl _, fun _ _ _ _ => rfl⟩
theorem Kp2.trans {a b : Nat} {w w1 w2 : World} (h : Kp2 a b w w1) (k : Kp2 a b w1 w2) : Kp2 a b w w2 :=
  ⟨k.os.trans h.os, k.tape.trans h.tape, k.output.trans h.output, Nat.le_trans h.size k.size, fun i hi h1 h2 => (k.block i (Nat.lt_of_lt_of_le hi h.size) h1 h2).trans (h.block i hi h1 h2)⟩
theorem Kp2.of {a b : Nat} {w w' : World} (h : Below w.heap.size w w') : Kp2 a b w w' := ⟨h.os, h.tape, h.output, h.size, fun k hk _ _ => h.block k hk⟩
theorem Kp2.next {a b : Nat} {w w1 w2 : World} (h : Kp2 a b w w1) (hb : Below w1.heap.size w1 w2) : Kp2 a b w w2 := h.trans (Kp2.of hb)
theorem Kp2.put {a b : Nat} {w w1 : World} (h : Kp2 a b w w1) (o : Obj) : Kp2 a b w (w1.alloc o) := h.next ((Below.refl _ _).alloc (Nat.le_refl _) o)
theorem Kp2.drewN {a b : Nat} {w w1 : World} (h : Kp2 a b w w1) (n : Nat) : Kp2 a b w (w1.drewN n) := h.next (bdrewN (Below.refl _ _) n)
theorem Kp2.setA {a b : Nat} {w w1 : World} (h : Kp2 a b w w1) (i : Nat) (v : Value) : Kp2 a b w (w1.setCell ⟨a, i, none⟩ v) :=
  h.trans ⟨rfl, rfl, rfl, by simp [World.setCell], fun k _ hne _ => Below.heap_setCell _ _ _ _ hne⟩
theorem Kp2.setNew {a b : Nat} {w w1 : World} (h : Kp2 a b w w1) {q : Addr} (hq : w.heap.size ≤ q.block) (v : Value) : Kp2 a b w (w1.setCell q v) :=
  ⟨h.os, h.tape, h.output, by have := h.size; simpa [World.setCell] using this, fun k hk h1 h2 => by rw [Below.heap_setCell _ _ _ _ (by omega)]; exact h.block k hk h1 h2⟩
theorem Kp2.setB {a b : Nat} {w w1 : World} (h : Kp2 a b w w1) (o : Obj) : Kp2 a b w (setBlock w1 b o) :=
  h.trans ⟨rfl, rfl, rfl, by simp [setBlock], fun k _ _ hne => by simp only [setBlock]; rw [Array.getElem?_setIfInBounds_ne (fun e => hne e.symm)]⟩
theorem Kp2.grown {a b : Nat} {w w1 w2 : World} {row : Option Nat} (h : Kp2 a b w w1) (hg : w1.grownBy w2 row) (hr : ∀ k, row = some k → w.heap.size ≤ k) : Kp2 a b w w2 :=
  ⟨hg.os.trans h.os, hg.tape.trans h.tape, hg.output.trans h.output, Nat.le_trans h.size hg.size, fun k hk h1 h2 => (hg.block k (Nat.lt_of_lt_of_le hk h.size) (fun e => by have := hr k e.symm; omega)).trans (h.block k hk h1 h2)⟩
theorem Kp2.below {a b B : Nat} {w w' : World} (h : Kp2 a b w w') (ha : B ≤ a) (hb : B ≤ b) (hB : B ≤ w.heap.size) : Below B w w' := ⟨h.os, h.tape, h.output, h.size, fun k hk => h.block k (by omega) (by omega) (by omega)⟩
theorem Blk.kp2 {a b : Nat} {w w' : World} {k : Nat} {cs : Array Value} {t : TypeId} (h : Blk w k cs t) (hk : Kp2 a b w w') (h1 : k ≠ a) (h2 : k ≠ b) : Blk w' k cs t := (hk.block k h.lt h1 h2).trans h
theorem Blk.setB {w : World} {b k : Nat} {cs : Array Value} {t : TypeId} (h : Blk w b cs t) (hne : b ≠ k) (o : Obj) : Blk (setBlock w k o) b cs t := by
  unfold Blk setBlock at *
  simp only
  rw [Array.getElem?_setIfInBounds_ne (fun e => hne e.symm)]; exact h

/-! ### The map -/
def ptV (p : Pt) : Value := .agg #[.int .i64 p.1, .int .i64 p.2]
def look : List (Pt × Bool) → Pt → Option Bool
  | [], _ => none
  | x :: L, p => if x.1 = p then some x.2 else look L p
def putL : List (Pt × Bool) → Pt → Bool → List (Pt × Bool)
  | [], p, v => [(p, v)]
  | x :: L, p, v => if x.1 = p then (p, v) :: L else x :: putL L p v
theorem look_put (L : List (Pt × Bool)) (p q : Pt) (v : Bool) : look (putL L p v) q = if p = q then some v else look L q := by
  induction L with
  | nil => simp [putL, look]
  | cons x L ih =>
    unfold putL
    by_cases h : x.1 = p
    · rw [if_pos h]
      simp only [look]
      by_cases h2 : p = q
      · simp [h2]
      · rw [if_neg h2, if_neg h2, h, if_neg h2]
    · rw [if_neg h]
      simp only [look, ih]
      by_cases h2 : x.1 = q
      · rw [if_pos h2, if_neg (fun e => h (by rw [h2, e])), if_pos h2]
      · rw [if_neg h2, if_neg h2]
def MapAt (w : World) (b : Nat) (m : Pt → Option Bool) : Prop := ∃ es clock L, w.heap[b]? = some (.map es clock) ∧ es.toList.map (fun e => (e.key, e.val)) = L.map (fun x => (ptV x.1, Value.bool x.2)) ∧ ∀ p, look L p = m p
theorem MapAt.lt {w : World} {b : Nat} {m : Pt → Option Bool} (h : MapAt w b m) : b < w.heap.size := by obtain ⟨es, c, L, h, _⟩ := h; exact (Array.getElem?_eq_some_iff.1 h).1
theorem MapAt.of {w w' : World} {b : Nat} {m : Pt → Option Bool} (h : MapAt w b m) (hb : w'.heap[b]? = w.heap[b]?) : MapAt w' b m := by obtain ⟨es, c, L, h, h2⟩ := h; exact ⟨es, c, L, hb.trans h, h2⟩
theorem MapAt.kept {w w' : World} {b : Nat} {m : Pt → Option Bool} (h : MapAt w b m) (hb : Below w.heap.size w w') : MapAt w' b m := h.of (hb.block b h.lt)
theorem MapAt.setCell {w : World} {b : Nat} {m : Pt → Option Bool} (h : MapAt w b m) {a : Addr} (ha : b ≠ a.block) (v : Value) : MapAt (w.setCell a v) b m := h.of (Below.heap_setCell _ _ _ _ ha)
theorem MapAt.grown {w w' : World} {b : Nat} {m : Pt → Option Bool} {row : Option Nat} (h : MapAt w b m) (hg : w.grownBy w' row) (hr : row ≠ some b) : MapAt w' b m := h.of (hg.block b h.lt (fun e => hr e.symm))
theorem MapAt.congr {w : World} {b : Nat} {m m' : Pt → Option Bool} (h : MapAt w b m) (e : ∀ p, m p = m' p) : MapAt w b m' := by obtain ⟨es, c, L, h, h2, h3⟩ := h; exact ⟨es, c, L, h, h2, fun p => (h3 p).trans (e p)⟩
theorem ptV_inj {p q : Pt} (h : ptV p = ptV q) : p = q := by
  unfold ptV at h
  injection h with h
  injection h with h
  simp at h
  exact Prod.ext (by omega) (by omega)
theorem MapAt.uniq {w : World} {b : Nat} {m m' : Pt → Option Bool} (h : MapAt w b m) (h' : MapAt w b m') : m = m' := by
  obtain ⟨es, c, L, h1, h2, h3⟩ := h
  obtain ⟨es', c', L', h1', h2', h3'⟩ := h'
  rw [h1] at h1'
  injection h1' with h1'
  injection h1' with h1' _
  subst h1'
  have : L = L' := by
    have e := h2.symm.trans h2'
    clear h2 h2' h1 h3 h3'
    induction L generalizing L' with
    | nil => cases L' with
      | nil => rfl
      | cons y L' => simp at e
    | cons x L ih => cases L' with
      | nil => simp at e
      | cons y L' =>
        simp only [List.map_cons, List.cons.injEq, Prod.mk.injEq] at e
        obtain ⟨⟨e1, e2⟩, e3⟩ := e
        rw [ih _ e3, Prod.ext (ptV_inj e1) (by injection e2)]
  subst this
  funext p
  exact (h3 p).symm.trans (h3' p)

/-- The keys of a map in a world. -/
noncomputable def mapIn (w : World) (b : Nat) : Pt → Option Bool := by
  classical exact if h : ∃ m, MapAt w b m then Classical.choose h else fun _ => none
theorem MapAt.inn {w : World} {b : Nat} {m : Pt → Option Bool} (h : MapAt w b m) : mapIn w b = m := by
  unfold mapIn
  rw [dif_pos ⟨m, h⟩]
  exact (Classical.choose_spec (⟨m, h⟩ : ∃ m, MapAt w b m)).uniq h

def enp (e : MapEntry) : Value × Value := (e.key, e.val)
def enl (x : Pt × Bool) : Value × Value := (ptV x.1, Value.bool x.2)
theorem zeroB (w : World) : (zeroValue 4).run Try.prog w = .ok (.bool false) w := by kernel_rfl
theorem stays_pt (p : Pt) (w : World) : (Instr.keyThatStays (ptV p) (ptV p)).run Try.prog w = .ok (ptV p) w := by
  have : Instr.sameBits 10000 (ptV p) (ptV p) = true := by
    show Instr.sameBits (9998 + 2) (ptV p) (ptV p) = true
    unfold ptV
    simp [Instr.sameBits]
  simp [Instr.keyThatStays, this]
end Go.Proofs.Ytheclmdpiijakaa
