/-
  SetVar, of the program and of the model: the state with another value of a variable and true, or the zero value and false.
-/
import Derived.Test.YtpdepihggpfmiaaStW
import Derived.Test.YtpdepihggpfmiaaFind
import Derived.Test.YtpdepihggpfmiaaShelf
namespace Go.Proofs.Ytpdepihggpfmiaa
open Go.RowKit

def IsVar (v : ByteArray) : Prop := v = ⟨#[120]⟩ ∨ v = ⟨#[121]⟩ ∨ v = ⟨#[122]⟩

theorem one_byte (v : ByteArray) (h : v.size = 1) : ∃ c, v = ⟨#[c]⟩ := by
  obtain ⟨⟨l⟩⟩ := v
  match l, h with
  | [c], _ => exact ⟨c, rfl⟩

theorem xyz_index (c : UInt8) : decide (0 ≤ Lib.indexByte [120, 121, 122] c) = (c == 120 || c == 121 || c == 122) := by
  unfold Lib.indexByte Lib.indexByte Lib.indexByte Lib.indexByte
  by_cases h1 : c = 120
  · subst h1; rfl
  · by_cases h2 : c = 121
    · subst h2; rfl
    · by_cases h3 : c = 122
      · subst h3; rfl
      · simp [h1, h2, h3, Ne.symm h1, Ne.symm h2, Ne.symm h3]

set_option maxHeartbeats 1000000 in
theorem implIsVar_yes (v : ByteArray) (w : World) (hv : IsVar v) : Calls Try.prog 15 #[.string v] w fun e w' => e = .returned (.bool true) ∧ w = w' := by
  rcases hv with rfl | rfl | rfl
  all_goals
    go_enter Try.func15, Try.ntmps15
    go_wp2_with fail
    refine (Try.strings_Contains_one ⟨#[120, 121, 122]⟩ _ _).mono ?_
    rintro e w' ⟨rfl, rfl⟩
    rw [xyz_index]
    go_wp2_with fail
    go_ret
    exact ⟨rfl, rfl⟩

set_option maxHeartbeats 1000000 in
theorem implIsVar_no (v : ByteArray) (w : World) (hm : v.size ≤ maxLen) (hv : ¬ IsVar v) : Calls Try.prog 15 #[.string v] w fun e w' => e = .returned (.bool false) ∧ w = w' := by
  by_cases h1 : v.size = 1
  · obtain ⟨c, rfl⟩ := one_byte v h1
    have hc : Hid ((c == 120 || c == 121 || c == 122) = false) := by
      show (c == 120 || c == 121 || c == 122) = false
      cases hh : (c == 120 || c == 121 || c == 122)
      · rfl
      · simp at hh
        exact absurd (by rcases hh with (rfl | rfl) | rfl <;> simp [IsVar]) hv
    clear hv hm
    go_enter Try.func15, Try.ntmps15
    go_wp2_with fail
    refine (Try.strings_Contains_one ⟨#[120, 121, 122]⟩ _ _).mono ?_
    rintro e w' ⟨rfl, rfl⟩
    rw [xyz_index, hc.out]
    go_wp2_with fail
    go_ret
    exact ⟨rfl, rfl⟩
  · have hs : ((v.size : Int) == 1) = false := by rw [beq_eq_false_iff_ne]; omega
    clear hv h1
    go_enter Try.func15, Try.ntmps15
    go_wp2_with fail
    go_ret
    exact ⟨rfl, rfl⟩

theorem xyz_find (c : UInt8) (r : Int) (w : World) (h : fnd [120, 121, 122] c = r) : Calls Try.prog 18 #[.string ⟨#[120, 121, 122]⟩, .int .u8 c.toNat] w fun e w' => e = .returned (.int .i64 r) ∧ w = w' := by
  subst h
  exact find_any ⟨#[120, 121, 122]⟩ c w (by simp [maxLen, ByteArray.size])

set_option maxHeartbeats 1000000 in
theorem specVar_yes (c : UInt8) (i : Nat) (w : World) (hv : (c = 120 ∧ i = 0) ∨ (c = 121 ∧ i = 1) ∨ (c = 122 ∧ i = 2)) : Calls Try.prog 9 #[.string ⟨#[c]⟩] w fun e w' => e = .returned (.int .i64 i) ∧ w = w' := by
  have K := fun w => Lib.hid (xyz_find c i w (by rcases hv with ⟨rfl, rfl⟩ | ⟨rfl, rfl⟩ | ⟨rfl, rfl⟩ <;> rfl))
  clear hv
  go_enter Try.func9, Try.ntmps9
  go_wp2_with fail
  refine (K _).out.mono ?_
  rintro e w' ⟨rfl, rfl⟩
  go_wp2_with fail
  go_ret
  exact ⟨rfl, rfl⟩

set_option maxHeartbeats 1000000 in
theorem specVar_no (v : ByteArray) (w : World) (hm : v.size ≤ maxLen) (hv : ¬ IsVar v) : Calls Try.prog 9 #[.string v] w fun e w' => e = .returned (.int .i64 (-1)) ∧ w = w' := by
  by_cases h1 : v.size = 1
  · obtain ⟨c, rfl⟩ := one_byte v h1
    have K := fun w => Lib.hid (xyz_find c (-1) w (fnd_miss fun j hj => by
      match j, hj with
      | 0, hj => simp at hj; subst hj; exact hv (by simp [IsVar])
      | 1, hj => simp at hj; subst hj; exact hv (by simp [IsVar])
      | 2, hj => simp at hj; subst hj; exact hv (by simp [IsVar])
      | j + 3, hj => simp at hj))
    clear hv hm
    go_enter Try.func9, Try.ntmps9
    go_wp2_with fail
    refine (K _).out.mono ?_
    rintro e w' ⟨rfl, rfl⟩
    go_wp2_with fail
    go_ret
    exact ⟨rfl, rfl⟩
  · have hs : ((v.size : Int) == 1) = false := by rw [beq_eq_false_iff_ne]; omega
    have hs2 : ((v.size : Int) != 1) = true := by rw [bne_iff_ne]; omega
    clear hv h1
    go_enter Try.func9, Try.ntmps9
    go_wp2_with fail
    go_ret
    exact ⟨rfl, rfl⟩
end Go.Proofs.Ytpdepihggpfmiaa
