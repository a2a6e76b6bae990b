/-
  A flow in memory: its stops, what they do, the numbers of the stops behind them; the points that may come next.
-/
import Derived.Test.YtheclmdpiijakaaTopT
import Derived.Test.YtheclmdpiijakaaTopY
import Derived.Test.YtheclmdpiijakaaTas
import Derived.Test.YtheclmdpiijakaaRdP
import Derived.Test.YtheclmdpiijakaaMapL
import Derived.Test.YtheclmdpiijakaaGra
import Derived.Test.YtheclmdpiijakaaRow
import Derived.RowKit3
namespace Go.Proofs.Ytheclmdpiijakaa
open Go.RowKit

def mdl : Mdl := ⟨asg, tst⟩

/-! ### Rows of points -/
def ptC (l : List Pt) : List Value := l.flatMap fun p => [.int .i64 p.1, .int .i64 p.2]
theorem ptC_len (l : List Pt) : (ptC l).length = l.length * 2 := by
  induction l with
  | nil => rfl
  | cons x l ih => unfold ptC at *; simp [ih]; omega
theorem ptC_app (l l' : List Pt) : ptC (l ++ l') = ptC l ++ ptC l' := by simp [ptC]
theorem ptC_get : ∀ {l : List Pt} {k : Nat} {p : Pt}, l[k]? = some p → (ptC l)[k * 2]? = some (.int .i64 p.1) ∧ (ptC l)[k * 2 + 1]? = some (.int .i64 p.2) := by
  intro l
  induction l with
  | nil => intro k p h; simp at h
  | cons x l ih =>
    intro k p h
    cases k with
    | zero => simp at h; subst h; exact ⟨rfl, rfl⟩
    | succ k =>
      have h' := ih (by simpa using h)
      rw [show ptC (x :: l) = [.int .i64 x.1, .int .i64 x.2] ++ ptC l from rfl, show (k + 1) * 2 = 2 + k * 2 by omega]
      refine ⟨?_, ?_⟩ <;> rw [List.getElem?_append_right (by show 2 ≤ _; omega)]
      · rw [show 2 + k * 2 - [Value.int .i64 (x.1 : Int), .int .i64 x.2].length = k * 2 by simp]; exact h'.1
      · rw [show 2 + k * 2 + 1 - [Value.int .i64 (x.1 : Int), .int .i64 x.2].length = k * 2 + 1 by show 2 + k * 2 + 1 - 2 = _; omega]; exact h'.2
def NxS (w : World) (v : Value) (l : List Nat) : Prop := ∃ a cap, v = .slice a l.length cap ∧ l.length ≤ cap ∧ (l = [] ∨ ∃ b o, a = some ⟨b, o, none⟩ ∧ ∀ j n, l[j]? = some n → w.cell? ⟨b, o + j, none⟩ = some (.int .i64 (n : Nat)))
theorem NxS.kept {w w' : World} {v : Value} {l : List Nat} (h : NxS w v l) (hb : Below w.heap.size w w') : NxS w' v l := by
  obtain ⟨a, cap, h1, h2, h3⟩ := h
  refine ⟨a, cap, h1, h2, ?_⟩
  rcases h3 with h3 | ⟨b, o, h3, h4⟩
  · exact .inl h3
  · exact .inr ⟨b, o, h3, fun j n hj => ckeep hb (h4 j n hj)⟩

end Go.Proofs.Ytheclmdpiijakaa
