/-
  EvalWide, of the program and of the model: the truth of two states, where the text is a wide test and both states are valid; false and false elsewhere.
-/
import Derived.Test.YtheclmdpiijakaaGreatDoorTopH
import Derived.Test.YtheclmdpiijakaaGreatDoorWv
namespace Go.Proofs.YtheclmdpiijakaaGreatDoor
open Go.RowKit Tm

/-- The values of the variables of two states. -/
def two3 (x y z X Y Z : Int) : Nat → Int
  | 0 => x
  | 1 => y
  | 2 => z
  | 3 => X
  | 4 => Y
  | 5 => Z
  | _ => 0
theorem two3_bd {x y z X Y Z : Int} (h : st3 x y z = true) (k : st3 X Y Z = true) : ∀ i, 0 ≤ two3 x y z X Y Z i ∧ two3 x y z X Y Z i ≤ 2 := by
  have a := st3_bd h; have b := st3_bd k
  intro i
  unfold two3
  split
  · exact a.1
  · exact a.2.1
  · exact a.2.2
  · exact b.1
  · exact b.2.1
  · exact b.2.2
  · exact ⟨Int.le_refl _, by decide⟩

theorem drewN_below (w : World) (n : Nat) : Below w.heap.size w (w.drewN n) := below_of_drewN (Below.refl _ _) n
set_option maxHeartbeats 2000000 in
theorem specEnvW (x y z X Y Z : Int) (w : World) : Calls Tryz.prog 115 #[.agg #[.int .i64 x, .int .i64 y, .int .i64 z], .agg #[.int .i64 X, .int .i64 Y, .int .i64 Z]] w fun e w' => e = .returned (envV (two3 x y z X Y Z)) ∧ Below w.heap.size w w' := by
  go_enter Tryz.func115, Tryz.ntmps115
  go_wp2_with fail
  exact bodyPost_ret (v := envV (two3 x y z X Y Z)) (by simp [results, Tryz.results115, go_sem, envV, two3]) rfl ⟨rfl, (((Below.refl _ _).alloc (Nat.le_refl _) _).alloc (by simp) _).alloc (by simp; omega) _⟩

end Go.Proofs.YtheclmdpiijakaaGreatDoor
