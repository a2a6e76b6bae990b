/-
  impl.(pair).with: a pair in which a variable has another value.
-/
import Derived.Test.YtpdepihggpfmiaaIx0
import Derived.Test.YtpdepihggpfmiaaBlk
import Derived.Test.YtpdepihggpfmiaaBytes
import Derived.Deep.RegionHeld3
import Derived.Deep.MidRow
namespace Go.Proofs.Ytpdepihggpfmiaa
open Go.RowKit

set_option maxRecDepth 100000 in
set_option maxHeartbeats 4000000 in
theorem pair_with_0 (n a0 a1 a2 b0 b1 b2 : Int) (w : World) : Calls Try.prog 17 #[.agg #[.int .i64 a0, .int .i64 a1, .int .i64 a2, .int .i64 b0, .int .i64 b1, .int .i64 b2], .string (bs [120]), .int .i64 n] w fun e w' => e = .returned (.agg #[.int .i64 n, .int .i64 a1, .int .i64 a2, .int .i64 b0, .int .i64 b1, .int .i64 b2]) ∧ Below w.heap.size w w' := by
  have e0 : ((bs [120]).toList == [120]) = true := by decide +kernel
  go_enter Try.func17, Try.ntmps17
  go_wp2_with fail
  have k0 := Blk.new (w.alloc (.cells #[.int .i64 n, .int .i64 a1, .int .i64 a2, .int .i64 b0, .int .i64 b1, .int .i64 b2] 41)) #[.int .i64 n, .int .i64 a1, .int .i64 a2, .int .i64 b0, .int .i64 b1, .int .i64 b2] 41
  rw [show (w.alloc (.cells #[.int .i64 n, .int .i64 a1, .int .i64 a2, .int .i64 b0, .int .i64 b1, .int .i64 b2] 41)).heap.size = w.heap.size + 1 by simp] at k0
  have kb := ((Below.refl w.heap.size w).alloc (Nat.le_refl _) (.cells #[.int .i64 n, .int .i64 a1, .int .i64 a2, .int .i64 b0, .int .i64 b1, .int .i64 b2] 41)).alloc (by simp) (.cells #[.int .i64 n, .int .i64 a1, .int .i64 a2, .int .i64 b0, .int .i64 b1, .int .i64 b2] 41)
  exact bodyPost_ret (v := .agg #[.int .i64 n, .int .i64 a1, .int .i64 a2, .int .i64 b0, .int .i64 b1, .int .i64 b2]) (results_cell_row rfl _ _ (w.heap.size + 1) 41 _ (0, 0) _ (by rfl) k0 Try.underlying41 rfl (by kernel_rfl)) rfl ⟨rfl, kb⟩

set_option maxRecDepth 100000 in
set_option maxHeartbeats 4000000 in
theorem pair_with_1 (n a0 a1 a2 b0 b1 b2 : Int) (w : World) : Calls Try.prog 17 #[.agg #[.int .i64 a0, .int .i64 a1, .int .i64 a2, .int .i64 b0, .int .i64 b1, .int .i64 b2], .string (bs [121]), .int .i64 n] w fun e w' => e = .returned (.agg #[.int .i64 a0, .int .i64 n, .int .i64 a2, .int .i64 b0, .int .i64 b1, .int .i64 b2]) ∧ Below w.heap.size w w' := by
  have e0 : ((bs [121]).toList == [120]) = false := by decide +kernel
  have e1 : ((bs [121]).toList == [121]) = true := by decide +kernel
  go_enter Try.func17, Try.ntmps17
  go_wp2_with fail
  have k0 := Blk.new (w.alloc (.cells #[.int .i64 a0, .int .i64 n, .int .i64 a2, .int .i64 b0, .int .i64 b1, .int .i64 b2] 41)) #[.int .i64 a0, .int .i64 n, .int .i64 a2, .int .i64 b0, .int .i64 b1, .int .i64 b2] 41
  rw [show (w.alloc (.cells #[.int .i64 a0, .int .i64 n, .int .i64 a2, .int .i64 b0, .int .i64 b1, .int .i64 b2] 41)).heap.size = w.heap.size + 1 by simp] at k0
  have kb := ((Below.refl w.heap.size w).alloc (Nat.le_refl _) (.cells #[.int .i64 a0, .int .i64 n, .int .i64 a2, .int .i64 b0, .int .i64 b1, .int .i64 b2] 41)).alloc (by simp) (.cells #[.int .i64 a0, .int .i64 n, .int .i64 a2, .int .i64 b0, .int .i64 b1, .int .i64 b2] 41)
  exact bodyPost_ret (v := .agg #[.int .i64 a0, .int .i64 n, .int .i64 a2, .int .i64 b0, .int .i64 b1, .int .i64 b2]) (results_cell_row rfl _ _ (w.heap.size + 1) 41 _ (0, 0) _ (by rfl) k0 Try.underlying41 rfl (by kernel_rfl)) rfl ⟨rfl, kb⟩

set_option maxRecDepth 100000 in
set_option maxHeartbeats 4000000 in
theorem pair_with_2 (n a0 a1 a2 b0 b1 b2 : Int) (w : World) : Calls Try.prog 17 #[.agg #[.int .i64 a0, .int .i64 a1, .int .i64 a2, .int .i64 b0, .int .i64 b1, .int .i64 b2], .string (bs [122]), .int .i64 n] w fun e w' => e = .returned (.agg #[.int .i64 a0, .int .i64 a1, .int .i64 n, .int .i64 b0, .int .i64 b1, .int .i64 b2]) ∧ Below w.heap.size w w' := by
  have e0 : ((bs [122]).toList == [120]) = false := by decide +kernel
  have e1 : ((bs [122]).toList == [121]) = false := by decide +kernel
  have e2 : ((bs [122]).toList == [122]) = true := by decide +kernel
  go_enter Try.func17, Try.ntmps17
  go_wp2_with fail
  have k0 := Blk.new (w.alloc (.cells #[.int .i64 a0, .int .i64 a1, .int .i64 n, .int .i64 b0, .int .i64 b1, .int .i64 b2] 41)) #[.int .i64 a0, .int .i64 a1, .int .i64 n, .int .i64 b0, .int .i64 b1, .int .i64 b2] 41
  rw [show (w.alloc (.cells #[.int .i64 a0, .int .i64 a1, .int .i64 n, .int .i64 b0, .int .i64 b1, .int .i64 b2] 41)).heap.size = w.heap.size + 1 by simp] at k0
  have kb := ((Below.refl w.heap.size w).alloc (Nat.le_refl _) (.cells #[.int .i64 a0, .int .i64 a1, .int .i64 n, .int .i64 b0, .int .i64 b1, .int .i64 b2] 41)).alloc (by simp) (.cells #[.int .i64 a0, .int .i64 a1, .int .i64 n, .int .i64 b0, .int .i64 b1, .int .i64 b2] 41)
  exact bodyPost_ret (v := .agg #[.int .i64 a0, .int .i64 a1, .int .i64 n, .int .i64 b0, .int .i64 b1, .int .i64 b2]) (results_cell_row rfl _ _ (w.heap.size + 1) 41 _ (0, 0) _ (by rfl) k0 Try.underlying41 rfl (by kernel_rfl)) rfl ⟨rfl, kb⟩

set_option maxRecDepth 100000 in
set_option maxHeartbeats 4000000 in
theorem pair_with_3 (n a0 a1 a2 b0 b1 b2 : Int) (w : World) : Calls Try.prog 17 #[.agg #[.int .i64 a0, .int .i64 a1, .int .i64 a2, .int .i64 b0, .int .i64 b1, .int .i64 b2], .string (bs [88]), .int .i64 n] w fun e w' => e = .returned (.agg #[.int .i64 a0, .int .i64 a1, .int .i64 a2, .int .i64 n, .int .i64 b1, .int .i64 b2]) ∧ Below w.heap.size w w' := by
  have e0 : ((bs [88]).toList == [120]) = false := by decide +kernel
  have e1 : ((bs [88]).toList == [121]) = false := by decide +kernel
  have e2 : ((bs [88]).toList == [122]) = false := by decide +kernel
  have e3 : ((bs [88]).toList == [88]) = true := by decide +kernel
  go_enter Try.func17, Try.ntmps17
  go_wp2_with fail
  have k0 := Blk.new (w.alloc (.cells #[.int .i64 a0, .int .i64 a1, .int .i64 a2, .int .i64 n, .int .i64 b1, .int .i64 b2] 41)) #[.int .i64 a0, .int .i64 a1, .int .i64 a2, .int .i64 n, .int .i64 b1, .int .i64 b2] 41
  rw [show (w.alloc (.cells #[.int .i64 a0, .int .i64 a1, .int .i64 a2, .int .i64 n, .int .i64 b1, .int .i64 b2] 41)).heap.size = w.heap.size + 1 by simp] at k0
  have kb := ((Below.refl w.heap.size w).alloc (Nat.le_refl _) (.cells #[.int .i64 a0, .int .i64 a1, .int .i64 a2, .int .i64 n, .int .i64 b1, .int .i64 b2] 41)).alloc (by simp) (.cells #[.int .i64 a0, .int .i64 a1, .int .i64 a2, .int .i64 n, .int .i64 b1, .int .i64 b2] 41)
  exact bodyPost_ret (v := .agg #[.int .i64 a0, .int .i64 a1, .int .i64 a2, .int .i64 n, .int .i64 b1, .int .i64 b2]) (results_cell_row rfl _ _ (w.heap.size + 1) 41 _ (0, 0) _ (by rfl) k0 Try.underlying41 rfl (by kernel_rfl)) rfl ⟨rfl, kb⟩

set_option maxRecDepth 100000 in
set_option maxHeartbeats 4000000 in
theorem pair_with_4 (n a0 a1 a2 b0 b1 b2 : Int) (w : World) : Calls Try.prog 17 #[.agg #[.int .i64 a0, .int .i64 a1, .int .i64 a2, .int .i64 b0, .int .i64 b1, .int .i64 b2], .string (bs [89]), .int .i64 n] w fun e w' => e = .returned (.agg #[.int .i64 a0, .int .i64 a1, .int .i64 a2, .int .i64 b0, .int .i64 n, .int .i64 b2]) ∧ Below w.heap.size w w' := by
  have e0 : ((bs [89]).toList == [120]) = false := by decide +kernel
  have e1 : ((bs [89]).toList == [121]) = false := by decide +kernel
  have e2 : ((bs [89]).toList == [122]) = false := by decide +kernel
  have e3 : ((bs [89]).toList == [88]) = false := by decide +kernel
  have e4 : ((bs [89]).toList == [89]) = true := by decide +kernel
  go_enter Try.func17, Try.ntmps17
  go_wp2_with fail
  have k0 := Blk.new (w.alloc (.cells #[.int .i64 a0, .int .i64 a1, .int .i64 a2, .int .i64 b0, .int .i64 n, .int .i64 b2] 41)) #[.int .i64 a0, .int .i64 a1, .int .i64 a2, .int .i64 b0, .int .i64 n, .int .i64 b2] 41
  rw [show (w.alloc (.cells #[.int .i64 a0, .int .i64 a1, .int .i64 a2, .int .i64 b0, .int .i64 n, .int .i64 b2] 41)).heap.size = w.heap.size + 1 by simp] at k0
  have kb := ((Below.refl w.heap.size w).alloc (Nat.le_refl _) (.cells #[.int .i64 a0, .int .i64 a1, .int .i64 a2, .int .i64 b0, .int .i64 n, .int .i64 b2] 41)).alloc (by simp) (.cells #[.int .i64 a0, .int .i64 a1, .int .i64 a2, .int .i64 b0, .int .i64 n, .int .i64 b2] 41)
  exact bodyPost_ret (v := .agg #[.int .i64 a0, .int .i64 a1, .int .i64 a2, .int .i64 b0, .int .i64 n, .int .i64 b2]) (results_cell_row rfl _ _ (w.heap.size + 1) 41 _ (0, 0) _ (by rfl) k0 Try.underlying41 rfl (by kernel_rfl)) rfl ⟨rfl, kb⟩

set_option maxRecDepth 100000 in
set_option maxHeartbeats 4000000 in
theorem pair_with_5 (n a0 a1 a2 b0 b1 b2 : Int) (w : World) : Calls Try.prog 17 #[.agg #[.int .i64 a0, .int .i64 a1, .int .i64 a2, .int .i64 b0, .int .i64 b1, .int .i64 b2], .string (bs [90]), .int .i64 n] w fun e w' => e = .returned (.agg #[.int .i64 a0, .int .i64 a1, .int .i64 a2, .int .i64 b0, .int .i64 b1, .int .i64 n]) ∧ Below w.heap.size w w' := by
  have e0 : ((bs [90]).toList == [120]) = false := by decide +kernel
  have e1 : ((bs [90]).toList == [121]) = false := by decide +kernel
  have e2 : ((bs [90]).toList == [122]) = false := by decide +kernel
  have e3 : ((bs [90]).toList == [88]) = false := by decide +kernel
  have e4 : ((bs [90]).toList == [89]) = false := by decide +kernel
  have e5 : ((bs [90]).toList == [90]) = true := by decide +kernel
  go_enter Try.func17, Try.ntmps17
  go_wp2_with fail
  have k0 := Blk.new (w.alloc (.cells #[.int .i64 a0, .int .i64 a1, .int .i64 a2, .int .i64 b0, .int .i64 b1, .int .i64 n] 41)) #[.int .i64 a0, .int .i64 a1, .int .i64 a2, .int .i64 b0, .int .i64 b1, .int .i64 n] 41
  rw [show (w.alloc (.cells #[.int .i64 a0, .int .i64 a1, .int .i64 a2, .int .i64 b0, .int .i64 b1, .int .i64 n] 41)).heap.size = w.heap.size + 1 by simp] at k0
  have kb := ((Below.refl w.heap.size w).alloc (Nat.le_refl _) (.cells #[.int .i64 a0, .int .i64 a1, .int .i64 a2, .int .i64 b0, .int .i64 b1, .int .i64 n] 41)).alloc (by simp) (.cells #[.int .i64 a0, .int .i64 a1, .int .i64 a2, .int .i64 b0, .int .i64 b1, .int .i64 n] 41)
  exact bodyPost_ret (v := .agg #[.int .i64 a0, .int .i64 a1, .int .i64 a2, .int .i64 b0, .int .i64 b1, .int .i64 n]) (results_cell_row rfl _ _ (w.heap.size + 1) 41 _ (0, 0) _ (by rfl) k0 Try.underlying41 rfl (by kernel_rfl)) rfl ⟨rfl, kb⟩

end Go.Proofs.Ytpdepihggpfmiaa
