/-
  EvalExpr, of the program and of the model: the value and true where the text is an expression and the state is valid; zero and false elsewhere.
-/
import Derived.Test.YtinillnccfgooaaDoorSpv
namespace Go.Proofs.YtinillnccfgooaaDoor
open Go.RowKit Tm

theorem st3_bd {x y z : Int} (h : st3 x y z = true) : (0 ≤ x ∧ x ≤ 2) ∧ (0 ≤ y ∧ y ≤ 2) ∧ (0 ≤ z ∧ z ≤ 2) := by
  unfold st3 at h
  simp only [Bool.and_eq_true] at h
  have a := val3_bd h.1.1; have b := val3_bd h.1.2; have c := val3_bd h.2
  omega
theorem one_bd {x y z : Int} (h : st3 x y z = true) : ∀ i, 0 ≤ one x y z i ∧ one x y z i ≤ 2 := by
  have hb := st3_bd h
  intro i
  unfold one
  split
  · exact hb.1
  · exact hb.2.1
  · exact hb.2.2
  · exact ⟨Int.le_refl _, by decide⟩

end Go.Proofs.YtinillnccfgooaaDoor
