/-
  Statements in memory: the value of a statement is an interface that holds the struct of its kind; terms within it lie in memory. impl.statementOf and impl.twoPartsOf make it out of the term that was read.
-/
import Derived.Test.YtheclmdpiijakaaTxt
import Derived.Test.YtheclmdpiijakaaPgW
namespace Go.Proofs.Ytheclmdpiijakaa
open Go.RowKit

theorem len_emb (t : Tm) (r : Fo) : (emb t r).len = r.len + 1 := by cases t <;> rfl

/-- The frame behind the box of the argument. -/
theorem boxed (w : World) (c : Int) (a : Option Addr) (m n : Nat) : ∃ W0, w.alloc (.cells #[.int .u8 c, .slice a m n] 117) = W0 ∧ Below w.heap.size w W0 ∧ Below w.heap.size w W0.drew ∧ w.heap.size < W0.heap.size ∧
    W0.cell? ⟨w.heap.size, 0, none⟩ = some (.int .u8 c) ∧ W0.cell? ⟨w.heap.size, 1, none⟩ = some (.slice a m n) := by
  have t0 := Blk.new w #[.int .u8 c, .slice a m n] 117
  have hB := (Below.refl w.heap.size w).alloc (Nat.le_refl _) (.cells #[.int .u8 c, .slice a m n] 117)
  exact ⟨_, rfl, hB, hB.drew, t0.lt, t0.cell 0, t0.cell 1⟩

/-- A statement's term in a row of terms. -/
theorem pg_cells {w : World} {B : Nat} {p : Pg} {r : Fo} {b o : Nat} (h : RepF w B (p.fo r) b o) : (∃ (a : Option Addr) (m : Nat), w.cell? ⟨b, o, none⟩ = some (.int .u8 p.letter.toNat) ∧ w.cell? ⟨b, o + 1, none⟩ = some (.slice a p.kids.len m) ∧ RepN w B p.letter p.kids (.int .u8 p.letter.toNat) (.slice a p.kids.len m)) ∧ RepF w B r b (o + 2) := by
  rw [Pg.fo_eq] at h
  obtain ⟨⟨x, y, h1, h2, h3⟩, h4⟩ := h
  obtain ⟨a, m, rfl, rfl⟩ := RepN.forms (show RepN w B p.letter p.kids x y from h3)
  exact ⟨⟨a, m, h1, h2, h3⟩, h4⟩

end Go.Proofs.Ytheclmdpiijakaa
