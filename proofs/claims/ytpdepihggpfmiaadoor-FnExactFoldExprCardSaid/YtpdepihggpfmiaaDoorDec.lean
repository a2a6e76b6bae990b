/-
  spec.l14Dec at the numbers 0, 1 and 2: one digit.
-/
import Derived.Test.YtpdepihggpfmiaaDoorBytes
namespace Go.Proofs.YtpdepihggpfmiaaDoor
open Go.RowKit

theorem conv_0 (W : World) : (convert 79 9 (.slice (some ⟨W.heap.size, 0, none⟩) 1 1)).run Tryd.prog (W.alloc (.cells #[.int .u8 48] 5)) = .ok (.string ⟨#[48]⟩) (W.alloc (.cells #[.int .u8 48] 5)) := by
  rw [run_convert_bytes_string _ _ _ 5 _ _ _ Tryd.underlying79 Tryd.underlying5 Tryd.underlying9]
  exact run_bytesToString _ _ 1 1 [48] (by simp [go_sem])

set_option maxHeartbeats 2000000 in
theorem dec_0 (w : World) : Calls Tryd.prog 66 #[.int .i64 0] w fun e w' => e = .returned (.string (bs [48])) ∧ Below w.heap.size w w' := by
  have hcv := conv_0 w
  go_enter Tryd.func66, Tryd.ntmps66
  go_wp2_with fail
  refine wp_loop_rounds 1 ?_
  rw [rounds_succ]
  go_wp2_with fail
  go_ret
  exact ⟨rfl, (Below.refl _ _).alloc (Nat.le_refl _) _⟩

theorem conv_1 (W : World) : (convert 79 9 (.slice (some ⟨W.heap.size, 0, none⟩) 1 1)).run Tryd.prog (W.alloc (.cells #[.int .u8 49] 5)) = .ok (.string ⟨#[49]⟩) (W.alloc (.cells #[.int .u8 49] 5)) := by
  rw [run_convert_bytes_string _ _ _ 5 _ _ _ Tryd.underlying79 Tryd.underlying5 Tryd.underlying9]
  exact run_bytesToString _ _ 1 1 [49] (by simp [go_sem])

set_option maxHeartbeats 2000000 in
theorem dec_1 (w : World) : Calls Tryd.prog 66 #[.int .i64 1] w fun e w' => e = .returned (.string (bs [49])) ∧ Below w.heap.size w w' := by
  have hcv := conv_1 w
  go_enter Tryd.func66, Tryd.ntmps66
  go_wp2_with fail
  refine wp_loop_rounds 1 ?_
  rw [rounds_succ]
  go_wp2_with fail
  go_ret
  exact ⟨rfl, (Below.refl _ _).alloc (Nat.le_refl _) _⟩

theorem conv_2 (W : World) : (convert 79 9 (.slice (some ⟨W.heap.size, 0, none⟩) 1 1)).run Tryd.prog (W.alloc (.cells #[.int .u8 50] 5)) = .ok (.string ⟨#[50]⟩) (W.alloc (.cells #[.int .u8 50] 5)) := by
  rw [run_convert_bytes_string _ _ _ 5 _ _ _ Tryd.underlying79 Tryd.underlying5 Tryd.underlying9]
  exact run_bytesToString _ _ 1 1 [50] (by simp [go_sem])

set_option maxHeartbeats 2000000 in
theorem dec_2 (w : World) : Calls Tryd.prog 66 #[.int .i64 2] w fun e w' => e = .returned (.string (bs [50])) ∧ Below w.heap.size w w' := by
  have hcv := conv_2 w
  go_enter Tryd.func66, Tryd.ntmps66
  go_wp2_with fail
  refine wp_loop_rounds 1 ?_
  rw [rounds_succ]
  go_wp2_with fail
  go_ret
  exact ⟨rfl, (Below.refl _ _).alloc (Nat.le_refl _) _⟩

end Go.Proofs.YtpdepihggpfmiaaDoor
