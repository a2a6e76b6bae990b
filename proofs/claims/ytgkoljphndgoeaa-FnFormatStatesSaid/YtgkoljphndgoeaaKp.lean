/-
  What a call with a reader of drawn bytes leaves as it was: all but the reader's own block.
-/
import Derived.Test.YtgkoljphndgoeaaBlk
namespace Go.Proofs.Ytgkoljphndgoeaa
open Go.RowKit

/-- All blocks but block a are as they were. -/
structure Kp (a : Nat) (w w' : World) : Prop where
  os : w'.os = w.os
  tape : w'.tape = w.tape
  output : w'.output = w.output
  size : w.heap.size ≤ w'.heap.size
  block : ∀ k, k < w.heap.size → k ≠ a → w'.heap[k]? = w.heap[k]?
theorem Kp.refl (a : Nat) (w : World) : Kp a w w := ⟨rfl, rfl, rfl, Nat.le_refl _, fun _ _ _ => rfl⟩
theorem Kp.trans {a : Nat} {w w1 w2 : World} (h : Kp a w w1) (k : Kp a w1 w2) : Kp a w w2 :=
  ⟨k.os.trans h.os, k.tape.trans h.tape, k.output.trans h.output, Nat.le_trans h.size k.size, fun i hi hne => (k.block i (Nat.lt_of_lt_of_le hi h.size) hne).trans (h.block i hi hne)⟩
theorem Kp.of {a : Nat} {w w' : World} (h : Below w.heap.size w w') : Kp a w w' := ⟨h.os, h.tape, h.output, h.size, fun k hk _ => h.block k hk⟩
theorem Kp.below {a B : Nat} {w w' : World} (h : Kp a w w') (hB : B ≤ a) (hB2 : B ≤ w.heap.size) : Below B w w' := ⟨h.os, h.tape, h.output, h.size, fun k hk => h.block k (by omega) (by omega)⟩
theorem Kp.set {a : Nat} {w w' : World} (h : Kp a w w') (i : Nat) (v : Value) : Kp a w (w'.setCell ⟨a, i, none⟩ v) :=
  h.trans ⟨rfl, rfl, rfl, by simp [World.setCell], fun k _ hne => Below.heap_setCell _ _ _ _ hne⟩
theorem Kp.next {a : Nat} {w w1 w2 : World} (h : Kp a w w1) (hb : Below w1.heap.size w1 w2) : Kp a w w2 := h.trans (Kp.of hb)
theorem Kp.put {a : Nat} {w w1 : World} (h : Kp a w w1) (o : Obj) : Kp a w (w1.alloc o) := h.next ((Below.refl _ _).alloc (Nat.le_refl _) o)
theorem Kp.drewN {a : Nat} {w w1 : World} (h : Kp a w w1) (n : Nat) : Kp a w (w1.drewN n) := h.next (bdrewN (Below.refl _ _) n)
theorem Blk.kp {a : Nat} {w w' : World} {b : Nat} {cs : Array Value} {t : TypeId} (h : Blk w b cs t) (hk : Kp a w w') (hne : b ≠ a) : Blk w' b cs t := (hk.block b h.lt hne).trans h
theorem kcell {a : Nat} {w w' : World} (hk : Kp a w w') {b o : Nat} {v : Value} (h : w.cell? ⟨b, o, none⟩ = some v) (hne : b ≠ a) : w'.cell? ⟨b, o, none⟩ = some v :=
  (World.cell?_of_block (w := w) (hk.block b (World.block_lt_of_cell? w ⟨b, o, none⟩ h) hne)).trans h

/-- The reader at block a has been asked p times; its bytes lie in another block. -/
def Rd (a p : Nat) (w : World) : Prop := ∃ sp n m, w.cell? ⟨a, 0, none⟩ = some (.slice sp n m) ∧ w.cell? ⟨a, 1, none⟩ = some (.int .i64 p) ∧ w.frozen? ⟨a, 0, none⟩ = false ∧ w.frozen? ⟨a, 1, none⟩ = false ∧ n ≤ 2000 ∧
  (n = 0 ∨ ∃ b o, sp = some ⟨b, o, none⟩ ∧ b < a ∧ ∀ i, i < n → ∃ c : UInt8, w.cell? ⟨b, o + i, none⟩ = some (.int .u8 c.toNat))
theorem Rd.kept {a p : Nat} {w w' : World} (h : Rd a p w) (hb : Below w.heap.size w w') : Rd a p w' := by
  obtain ⟨sp, n, m, q0, q1, f0, f1, hl, hc⟩ := h
  have hlt := World.block_lt_of_cell? w ⟨a, 0, none⟩ q0
  refine ⟨sp, n, m, ckeep hb q0, ckeep hb q1, (hb.frozen (p := ⟨a, 0, none⟩) hlt).trans f0, (hb.frozen (p := ⟨a, 1, none⟩) hlt).trans f1, hl, ?_⟩
  rcases hc with h0 | ⟨b, o, e, hba, hc⟩
  · exact .inl h0
  · exact .inr ⟨b, o, e, hba, fun i hi => by obtain ⟨c, hc⟩ := hc i hi; exact ⟨c, ckeep hb hc⟩⟩
theorem Rd.keepB {a p B : Nat} {w w' : World} (h : Rd a p w) (hb : Below B w w') (hB : a < B) : Rd a p w' := by
  obtain ⟨sp, n, m, q0, q1, f0, f1, hl, hc⟩ := h
  refine ⟨sp, n, m, (hb.cell (p := ⟨a, 0, none⟩) hB).trans q0, (hb.cell (p := ⟨a, 1, none⟩) hB).trans q1, (hb.frozen (p := ⟨a, 0, none⟩) hB).trans f0, (hb.frozen (p := ⟨a, 1, none⟩) hB).trans f1, hl, ?_⟩
  rcases hc with h0 | ⟨b, o, e, hba, hc⟩
  · exact .inl h0
  · exact .inr ⟨b, o, e, hba, fun i hi => by
      obtain ⟨c, hc⟩ := hc i hi
      exact ⟨c, (hb.cell (p := ⟨b, o + i, none⟩) (Nat.lt_trans hba hB)).trans hc⟩⟩
theorem Kp.setNew {a : Nat} {w w1 : World} (h : Kp a w w1) {q : Addr} (hq : w.heap.size ≤ q.block) (v : Value) : Kp a w (w1.setCell q v) :=
  ⟨h.os, h.tape, h.output, by have := h.size; simpa [World.setCell] using this, fun k hk hne => by rw [Below.heap_setCell _ _ _ _ (by omega)]; exact h.block k hk hne⟩
theorem Rd.lt {a p : Nat} {w : World} (h : Rd a p w) : a < w.heap.size := by
  obtain ⟨sp, n, m, q0, _⟩ := h
  exact World.block_lt_of_cell? w ⟨a, 0, none⟩ q0
theorem Rd.put {a p : Nat} {w : World} (h : Rd a p w) : Rd a (p + 1) (w.setCell ⟨a, 1, none⟩ (.int .i64 ((p : Int) + 1))) := by
  obtain ⟨sp, n, m, q0, q1, f0, f1, hl, hb⟩ := h
  refine ⟨sp, n, m, by simp [go_sem, q0], by simp [go_sem, q1], by simp [go_sem, f0], by simp [go_sem, f1], hl, ?_⟩
  rcases hb with rfl | ⟨b, o, rfl, hba, hc⟩
  · exact .inl rfl
  · refine .inr ⟨b, o, rfl, hba, fun i hi => ?_⟩
    obtain ⟨c, hc⟩ := hc i hi
    have hne : ¬ a = b := by omega
    exact ⟨c, by simp [go_sem, hc]⟩
end Go.Proofs.Ytgkoljphndgoeaa
