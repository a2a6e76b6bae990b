/-
  EvalExpr, of the program and of the model: the value and true where the text is an expression and the state is valid; zero and false elsewhere.
-/
import Derived.Test.YtgkoljphndgoeaaSpv
namespace Go.Proofs.Ytgkoljphndgoeaa
open Go.RowKit Tm

theorem st3_bd {x y z : Int} (h : st3 x y z = true) : (0 ≤ x ∧ x ≤ 2) ∧ (0 ≤ y ∧ y ≤ 2) ∧ (0 ≤ z ∧ z ≤ 2) := by
  unfold st3 at h
  simp only [Bool.and_eq_true] at h
  have a := val3_bd h.1.1; have b := val3_bd h.1.2; have c := val3_bd h.2
  omega
theorem one_bd {x y z : Int} (h : st3 x y z = true) : ∀ i, 0 ≤ one x y z i ∧ one x y z i ≤ 2 := by
  have hb := st3_bd h
  intro i
  unfold one
  split
  · exact hb.1
  · exact hb.2.1
  · exact hb.2.2
  · exact ⟨Int.le_refl _, by decide⟩

set_option maxHeartbeats 1000000 in
theorem specOne (x y z : Int) (w : World) : Calls Try.prog 46 #[.agg #[.int .i64 x, .int .i64 y, .int .i64 z]] w fun e w' => e = .returned (envV (one x y z)) ∧ Below w.heap.size w w' := by
  go_enter Try.func46, Try.ntmps46
  go_wp2_with fail
  exact bodyPost_ret (v := envV (one x y z)) (by simp [results, Try.results46, go_sem, envV, one]) rfl ⟨rfl, ((Below.refl _ _).alloc (Nat.le_refl _) _).alloc (by simp) _⟩

end Go.Proofs.Ytgkoljphndgoeaa
