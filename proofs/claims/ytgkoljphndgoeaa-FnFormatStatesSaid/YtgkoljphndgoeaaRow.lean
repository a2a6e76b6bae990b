/-
  A row of one-celled elements in a block of its own: what it reads, that it stays while other blocks are made.
-/
import Derived.Test.YtgkoljphndgoeaaBlk
import Derived.Laws.OwnMore
import Derived.Deep.AppendLies
import Derived.Deep.Onto
namespace Go.Proofs.Ytgkoljphndgoeaa
open Go.RowKit

def IntPost (n : Int) (w : World) (e : Ending) (w' : World) : Prop := e = .returned (.int .i64 n) ∧ Below w.heap.size w w'
def Row (w : World) (B : Nat) (T : TypeId) (v : Value) (xs : List Value) : Prop := w.ownsRow B T 1 v xs.length xs
theorem Row.kept {w w' : World} {B : Nat} {T : TypeId} {v : Value} {xs : List Value} (h : Row w B T v xs) (hb : Below w.heap.size w w') : Row w' B T v xs := by
  obtain ⟨h1, h2⟩ := h
  refine ⟨h1, ?_⟩
  rcases h2 with h2 | ⟨g, cap, cur, a, b, c, d⟩
  · exact .inl h2
  · exact .inr ⟨g, cap, cur, a, b, (hb.block g (Array.getElem?_eq_some_iff.1 c).1).trans c, d⟩
theorem Row.mono {w : World} {B B' : Nat} {T : TypeId} {v : Value} {xs : List Value} (h : Row w B T v xs) (hb : B' ≤ B) : Row w B' T v xs := World.ownsRow.mono h hb
theorem Row.nil (w : World) (B : Nat) (T : TypeId) : Row w B T (.slice none 0 0) [] := ⟨rfl, .inl ⟨rfl, rfl⟩⟩
theorem Row.new (w : World) (T : TypeId) (xs : List Value) (hx : xs.length ≤ 1000) : Row (w.alloc (.cells xs.toArray T)) w.heap.size T (.slice (some ⟨w.heap.size, 0, none⟩) xs.length xs.length) xs := by
  refine ⟨by simp, .inr ⟨w.heap.size, xs.length, xs.toArray, rfl, Nat.le_refl _, Blk.new w xs.toArray T, Nat.le_refl _, by unfold maxLen; omega, by simp, by simp⟩⟩
/-- The forms of a row's slice, and its cells. -/
theorem Row.cases {w : World} {B : Nat} {T : TypeId} {v : Value} {xs : List Value} (h : Row w B T v xs) : (v = .slice none 0 0 ∧ xs = []) ∨ ∃ g cap, v = .slice (some ⟨g, 0, none⟩) xs.length cap ∧ B ≤ g ∧ xs.length ≤ cap ∧ ∀ (j : Nat) (u : Value), xs[j]? = some u → w.cell? ⟨g, j, none⟩ = some u := by
  have h' := h
  obtain ⟨h1, h2⟩ := h
  rcases h2 with ⟨h2, h3⟩ | ⟨g, cap, cur, rfl, b, c, d, _⟩
  · exact .inl ⟨h2, List.eq_nil_of_length_eq_zero h3⟩
  · refine .inr ⟨g, cap, rfl, b, d, fun j u hu => ?_⟩
    have hj : j < xs.length := (List.getElem?_eq_some_iff.1 hu).1
    rw [World.ownsRow.cellAt (show World.ownsRow _ _ _ _ _ _ _ from h') j (by omega)]
    exact hu
theorem Row.one {w : World} {B : Nat} {T : TypeId} {v a : Value} (h : Row w B T v [a]) : ∃ g cap, v = .slice (some ⟨g, 0, none⟩) 1 cap ∧ w.cell? ⟨g, 0, none⟩ = some a := by
  rcases h.cases with ⟨_, h2⟩ | ⟨g, cap, h1, _, _, h3⟩
  · cases h2
  · exact ⟨g, cap, h1, h3 0 a rfl⟩
theorem Row.two {w : World} {B : Nat} {T : TypeId} {v a b : Value} (h : Row w B T v [a, b]) : ∃ g cap, v = .slice (some ⟨g, 0, none⟩) 2 cap ∧ w.cell? ⟨g, 0, none⟩ = some a ∧ w.cell? ⟨g, 1, none⟩ = some b := by
  rcases h.cases with ⟨_, h2⟩ | ⟨g, cap, h1, _, _, h3⟩
  · cases h2
  · exact ⟨g, cap, h1, h3 0 a rfl, h3 1 b rfl⟩
theorem Row.zero {w : World} {B : Nat} {T : TypeId} {v : Value} (h : Row w B T v []) : ∃ a cap, v = .slice a 0 cap := by
  rcases h.cases with ⟨h2, _⟩ | ⟨g, cap, h1, _⟩
  · exact ⟨_, _, h2⟩
  · exact ⟨_, _, h1⟩
theorem Row.one' {w : World} {B : Nat} {T : TypeId} {v a : Value} (h : Row w B T v [a]) : ∃ g cap, v = .slice (some ⟨g, 0, none⟩) 1 cap ∧ B ≤ g ∧ w.cell? ⟨g, 0, none⟩ = some a := by
  rcases h.cases with ⟨_, h2⟩ | ⟨g, cap, h1, hb, _, h3⟩
  · cases h2
  · exact ⟨g, cap, h1, hb, h3 0 a rfl⟩
theorem Row.two' {w : World} {B : Nat} {T : TypeId} {v a b : Value} (h : Row w B T v [a, b]) : ∃ g cap, v = .slice (some ⟨g, 0, none⟩) 2 cap ∧ B ≤ g ∧ w.cell? ⟨g, 0, none⟩ = some a ∧ w.cell? ⟨g, 1, none⟩ = some b := by
  rcases h.cases with ⟨_, h2⟩ | ⟨g, cap, h1, hb, _, h3⟩
  · cases h2
  · exact ⟨g, cap, h1, hb, h3 0 a rfl, h3 1 b rfl⟩
/-- A row that is not empty, as a list of cells that may be appended. -/
theorem Row.news {w : World} {B : Nat} {T : TypeId} {v : Value} {xs : List Value} (h : Row w B T v xs) (hx : 0 < xs.length) : ∃ g cap, v = .slice (some ⟨g, 0, none⟩) xs.length cap ∧ B ≤ g ∧ g < w.heap.size ∧ ∀ (j : Nat) (u : Value), xs[j]? = some u → w.cell? ((⟨g, 0, none⟩ : Addr).add j) = some u := by
  rcases h.cases with ⟨_, h2⟩ | ⟨g, cap, h1, hb, _, h3⟩
  · rw [h2] at hx; simp at hx
  · refine ⟨g, cap, h1, hb, ?_, World.ownsRow.cells h (by rw [h1]; rfl)⟩
    have := World.ownsRow.lt h g (by rw [h1]; rfl)
    exact this.2
/-- Behind an append. -/
theorem Row.after {w w2 w3 : World} {T : TypeId} {v : Value} {xs ys : List Value} {g3 cap3 : Nat} (hB : Below w.heap.size w w2) (hrow : Row w2 w.heap.size T v xs)
    (hown : w3.ownsRow w.heap.size T 1 (.slice (some ⟨g3, 0, none⟩) (xs.length + ys.length) cap3) (xs.length + ys.length) (xs ++ ys)) (hgrow : w2.grownBy w3 v.ownBlock) :
    Row w3 w.heap.size T (.slice (some ⟨g3, 0, none⟩) (xs.length + ys.length) cap3) (xs ++ ys) ∧ Below w.heap.size w w3 := by
  refine ⟨?_, hB.grown hgrow hB.size (fun k hk => (World.ownsRow.lt hrow k hk).1)⟩
  unfold Row
  rw [List.length_append]
  exact hown
end Go.Proofs.Ytgkoljphndgoeaa
