/-
  Walks of the small functions on states: isValue, StateValid, toState, l1In.
-/
import Derived.Test.YtpdepihggpfmiaaDoorProg
import Derived.WalkKit
import Derived.WalkSpells
import Derived.WalkLawsBesides
import Derived.Lib.Hide
namespace Go.Proofs.YtpdepihggpfmiaaDoor
open Go.RowKit

def val3 (x : Int) : Bool := decide (0 ≤ x ∧ x ≤ 2)
def st3 (x y z : Int) : Bool := val3 x && val3 y && val3 z

theorem val3_t {n : Int} (h0 : 0 ≤ n) (h1 : n < 3) : val3 n = true := by unfold val3; simp; omega
theorem val3_hi {n : Int} (h1 : ¬ n < 3) : val3 n = false := by unfold val3; simp; omega
theorem val3_lo {n : Int} (h1 : ¬ 0 ≤ n) : val3 n = false := by unfold val3; simp; omega
theorem val3_bd {n : Int} (h : val3 n = true) : 0 ≤ n ∧ n < 3 := by unfold val3 at h; simp at h; omega
theorem val3_nb {n : Int} (h : val3 n = false) : ¬ 0 ≤ n ∨ ¬ n < 3 := by unfold val3 at h; simp at h; omega

set_option maxHeartbeats 800000 in
theorem implIsValue (n : Int) (w : World) : Calls Tryd.prog 62 #[.int .i64 n] w fun e w' => e = .returned (.bool (val3 n)) ∧ w = w' := by
  by_cases h0 : 0 ≤ n <;> by_cases h1 : n < 3
  · have H : Hid (val3 n = _) := val3_t h0 (by omega)
    go_enter Tryd.func62, Tryd.ntmps62
    go_wp2
    go_ret
    exact ⟨by rw [H.out]; rfl, rfl⟩
  · have H : Hid (val3 n = _) := val3_hi (by omega)
    go_enter Tryd.func62, Tryd.ntmps62
    go_wp2
    go_ret
    exact ⟨by rw [H.out]; rfl, rfl⟩
  · have H : Hid (val3 n = _) := val3_lo h0
    go_enter Tryd.func62, Tryd.ntmps62
    go_wp2
    go_ret
    exact ⟨by rw [H.out]; rfl, rfl⟩
  · have H : Hid (val3 n = _) := val3_lo h0
    go_enter Tryd.func62, Tryd.ntmps62
    go_wp2
    go_ret
    exact ⟨by rw [H.out]; rfl, rfl⟩

set_option maxHeartbeats 800000 in
theorem specIn (n : Int) (w : World) : Calls Tryd.prog 61 #[.int .i64 n, .int .i64 0, .int .i64 2] w fun e w' => e = .returned (.bool (val3 n)) ∧ w = w' := by
  by_cases h0 : 0 ≤ n <;> by_cases h1 : n ≤ 2
  · have H : Hid (val3 n = _) := val3_t h0 (by omega)
    go_enter Tryd.func61, Tryd.ntmps61
    go_wp2
    go_ret
    exact ⟨by rw [H.out]; rfl, rfl⟩
  · have H : Hid (val3 n = _) := val3_hi (by omega)
    go_enter Tryd.func61, Tryd.ntmps61
    go_wp2
    go_ret
    exact ⟨by rw [H.out]; rfl, rfl⟩
  · have H : Hid (val3 n = _) := val3_lo h0
    go_enter Tryd.func61, Tryd.ntmps61
    go_wp2
    go_ret
    exact ⟨by rw [H.out]; rfl, rfl⟩
  · have H : Hid (val3 n = _) := val3_lo h0
    go_enter Tryd.func61, Tryd.ntmps61
    go_wp2
    go_ret
    exact ⟨by rw [H.out]; rfl, rfl⟩

set_option maxHeartbeats 800000 in
theorem implStateValidA (x y z : Int) (w : World) (hx : val3 x = true) (hy : val3 y = true) (hz : val3 z = true) : Calls Tryd.prog 43 #[.agg #[.int .i64 x, .int .i64 y, .int .i64 z]] w fun e w' => e = .returned (.bool true) ∧ Below w.heap.size w w' := by
  go_enter Tryd.func43, Tryd.ntmps43
  go_wp2_with (go_at_call 62; refine (implIsValue _ _).mono ?_; rintro e w' ⟨rfl, rfl⟩)
  go_ret
  exact ⟨rfl, (Below.refl _ _).alloc (Nat.le_refl _) _⟩
set_option maxHeartbeats 800000 in
theorem implStateValidB (x y z : Int) (w : World) (hx : val3 x = true) (hy : val3 y = true) (hz : val3 z = false) : Calls Tryd.prog 43 #[.agg #[.int .i64 x, .int .i64 y, .int .i64 z]] w fun e w' => e = .returned (.bool false) ∧ Below w.heap.size w w' := by
  go_enter Tryd.func43, Tryd.ntmps43
  go_wp2_with (go_at_call 62; refine (implIsValue _ _).mono ?_; rintro e w' ⟨rfl, rfl⟩)
  go_ret
  exact ⟨rfl, (Below.refl _ _).alloc (Nat.le_refl _) _⟩
set_option maxHeartbeats 800000 in
theorem implStateValidC (x y z : Int) (w : World) (hx : val3 x = true) (hy : val3 y = false) : Calls Tryd.prog 43 #[.agg #[.int .i64 x, .int .i64 y, .int .i64 z]] w fun e w' => e = .returned (.bool false) ∧ Below w.heap.size w w' := by
  go_enter Tryd.func43, Tryd.ntmps43
  go_wp2_with (go_at_call 62; refine (implIsValue _ _).mono ?_; rintro e w' ⟨rfl, rfl⟩)
  go_ret
  exact ⟨rfl, (Below.refl _ _).alloc (Nat.le_refl _) _⟩
set_option maxHeartbeats 800000 in
theorem implStateValidD (x y z : Int) (w : World) (hx : val3 x = false) : Calls Tryd.prog 43 #[.agg #[.int .i64 x, .int .i64 y, .int .i64 z]] w fun e w' => e = .returned (.bool false) ∧ Below w.heap.size w w' := by
  go_enter Tryd.func43, Tryd.ntmps43
  go_wp2_with (go_at_call 62; refine (implIsValue _ _).mono ?_; rintro e w' ⟨rfl, rfl⟩)
  go_ret
  exact ⟨rfl, (Below.refl _ _).alloc (Nat.le_refl _) _⟩
theorem implStateValid (x y z : Int) (w : World) : Calls Tryd.prog 43 #[.agg #[.int .i64 x, .int .i64 y, .int .i64 z]] w fun e w' => e = .returned (.bool (st3 x y z)) ∧ Below w.heap.size w w' := by
  unfold st3
  cases hx : val3 x
  · exact implStateValidD x y z w hx
  · cases hy : val3 y
    · exact implStateValidC x y z w hx hy
    · cases hz : val3 z
      · exact implStateValidB x y z w hx hy hz
      · exact implStateValidA x y z w hx hy hz

set_option maxHeartbeats 800000 in
theorem specStateValidA (x y z : Int) (w : World) (hx : val3 x = true) (hy : val3 y = true) (hz : val3 z = true) : Calls Tryd.prog 40 #[.agg #[.int .i64 x, .int .i64 y, .int .i64 z]] w fun e w' => e = .returned (.bool true) ∧ Below w.heap.size w w' := by
  go_enter Tryd.func40, Tryd.ntmps40
  go_wp2_with (go_at_call 61; refine (specIn _ _).mono ?_; rintro e w' ⟨rfl, rfl⟩)
  go_ret
  exact ⟨rfl, (Below.refl _ _).alloc (Nat.le_refl _) _⟩
set_option maxHeartbeats 800000 in
theorem specStateValidB (x y z : Int) (w : World) (hx : val3 x = true) (hy : val3 y = true) (hz : val3 z = false) : Calls Tryd.prog 40 #[.agg #[.int .i64 x, .int .i64 y, .int .i64 z]] w fun e w' => e = .returned (.bool false) ∧ Below w.heap.size w w' := by
  go_enter Tryd.func40, Tryd.ntmps40
  go_wp2_with (go_at_call 61; refine (specIn _ _).mono ?_; rintro e w' ⟨rfl, rfl⟩)
  go_ret
  exact ⟨rfl, (Below.refl _ _).alloc (Nat.le_refl _) _⟩
set_option maxHeartbeats 800000 in
theorem specStateValidC (x y z : Int) (w : World) (hx : val3 x = true) (hy : val3 y = false) : Calls Tryd.prog 40 #[.agg #[.int .i64 x, .int .i64 y, .int .i64 z]] w fun e w' => e = .returned (.bool false) ∧ Below w.heap.size w w' := by
  go_enter Tryd.func40, Tryd.ntmps40
  go_wp2_with (go_at_call 61; refine (specIn _ _).mono ?_; rintro e w' ⟨rfl, rfl⟩)
  go_ret
  exact ⟨rfl, (Below.refl _ _).alloc (Nat.le_refl _) _⟩
set_option maxHeartbeats 800000 in
theorem specStateValidD (x y z : Int) (w : World) (hx : val3 x = false) : Calls Tryd.prog 40 #[.agg #[.int .i64 x, .int .i64 y, .int .i64 z]] w fun e w' => e = .returned (.bool false) ∧ Below w.heap.size w w' := by
  go_enter Tryd.func40, Tryd.ntmps40
  go_wp2_with (go_at_call 61; refine (specIn _ _).mono ?_; rintro e w' ⟨rfl, rfl⟩)
  go_ret
  exact ⟨rfl, (Below.refl _ _).alloc (Nat.le_refl _) _⟩
theorem specStateValid (x y z : Int) (w : World) : Calls Tryd.prog 40 #[.agg #[.int .i64 x, .int .i64 y, .int .i64 z]] w fun e w' => e = .returned (.bool (st3 x y z)) ∧ Below w.heap.size w w' := by
  unfold st3
  cases hx : val3 x
  · exact specStateValidD x y z w hx
  · cases hy : val3 y
    · exact specStateValidC x y z w hx hy
    · cases hz : val3 z
      · exact specStateValidB x y z w hx hy hz
      · exact specStateValidA x y z w hx hy hz

set_option maxHeartbeats 800000 in
theorem lawToState (x y z : Int) (w : World) : Calls Tryd.prog 19 #[.agg #[.int .i64 x, .int .i64 y, .int .i64 z]] w fun e w' => e = .returned (.agg #[.int .i64 x, .int .i64 y, .int .i64 z]) ∧ Below w.heap.size w w' := by
  go_enter Tryd.func19, Tryd.ntmps19
  go_wp2
  exact bodyPost_ret (v := .agg #[.int .i64 x, .int .i64 y, .int .i64 z]) (by simp [results, Tryd.results19, go_sem]) rfl ⟨rfl, (((Below.refl _ _).alloc (Nat.le_refl _) _).alloc (by simp) _).alloc (by simp; omega) _⟩
end Go.Proofs.YtpdepihggpfmiaaDoor
