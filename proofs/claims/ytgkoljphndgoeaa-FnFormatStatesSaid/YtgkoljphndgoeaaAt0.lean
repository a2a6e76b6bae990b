/-
  The state with a number, of the program and of the model.
-/
import Derived.Test.YtgkoljphndgoeaaIx0
namespace Go.Proofs.Ytgkoljphndgoeaa
open Go.RowKit

set_option maxHeartbeats 1000000 in
theorem implAt_yes (i : Int) (w : World) (h0 : 0 ≤ i) (h1 : i < 27) : Calls Try.prog 17 #[.int .i64 i] w fun e w' => e = .returned (.tuple #[.agg #[.int .i64 (ax i), .int .i64 (ay i), .int .i64 (az i)], .bool true]) ∧ Below w.heap.size w w' := by
  go_enter Try.func17, Try.ntmps17
  go_wp2_with fail
  exact bodyPost_ret (v := .tuple #[.agg #[.int .i64 (ax i), .int .i64 (ay i), .int .i64 (az i)], .bool true]) (by simp [results, Try.results17, go_sem, ax, ay, az]) rfl ⟨rfl, (Below.refl _ _).alloc (Nat.le_refl _) _⟩

set_option maxHeartbeats 1000000 in
theorem implAt_no (i : Int) (w : World) (h : ¬ (0 ≤ i ∧ i < 27)) : Calls Try.prog 17 #[.int .i64 i] w fun e w' => e = .returned (.tuple #[.agg #[.int .i64 0, .int .i64 0, .int .i64 0], .bool false]) ∧ Below w.heap.size w w' := by
  by_cases h0 : 0 ≤ i
  · have h1 : ¬ i < 27 := fun h1 => h ⟨h0, h1⟩
    clear h
    go_enter Try.func17, Try.ntmps17
    go_wp2_with fail
    exact bodyPost_ret (v := .tuple #[.agg #[.int .i64 0, .int .i64 0, .int .i64 0], .bool false]) (by simp [results, Try.results17, go_sem]) rfl ⟨rfl, (Below.refl _ _).alloc (Nat.le_refl _) _⟩
  · clear h
    go_enter Try.func17, Try.ntmps17
    go_wp2_with fail
    exact bodyPost_ret (v := .tuple #[.agg #[.int .i64 0, .int .i64 0, .int .i64 0], .bool false]) (by simp [results, Try.results17, go_sem]) rfl ⟨rfl, (Below.refl _ _).alloc (Nat.le_refl _) _⟩

set_option maxHeartbeats 1000000 in
theorem specAt0 (i : Int) (w : World) (h0 : 0 ≤ i) (h1 : i < 27) : Calls Try.prog 15 #[.int .i64 i] w fun e w' => e = .returned (.agg #[.int .i64 (ax i), .int .i64 (ay i), .int .i64 (az i)]) ∧ Below w.heap.size w w' := by
  go_enter Try.func15, Try.ntmps15
  go_wp2_with fail
  exact bodyPost_ret (v := .agg #[.int .i64 (ax i), .int .i64 (ay i), .int .i64 (az i)]) (by simp [results, Try.results15, go_sem, ax, ay, az]) rfl ⟨rfl, (Below.refl _ _).alloc (Nat.le_refl _) _⟩
end Go.Proofs.Ytgkoljphndgoeaa
