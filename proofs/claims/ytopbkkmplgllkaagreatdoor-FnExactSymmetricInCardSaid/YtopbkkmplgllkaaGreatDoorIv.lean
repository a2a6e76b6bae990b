/-
  Whether a text is the letter of a variable, of the program.
-/
import Derived.Test.YtopbkkmplgllkaaGreatDoorTopY
import Derived.Test.YtopbkkmplgllkaaGreatDoorShelf
namespace Go.Proofs.YtopbkkmplgllkaaGreatDoor
open Go.RowKit

set_option maxHeartbeats 1000000 in
theorem implVar_yes (v : ByteArray) (w : World) (hv : IsVar v) : Calls Tryz.prog 64 #[.string v] w fun e w' => e = .returned (.bool true) ∧ w = w' := by
  rcases hv with rfl | rfl | rfl
  all_goals
    go_enter Tryz.func64, Tryz.ntmps64
    go_wp2_with fail
    refine (Tryz.strings_Contains_one ⟨#[120, 121, 122]⟩ _ _).mono ?_
    rintro e w' ⟨rfl, rfl⟩
    rw [xyz_index]
    go_wp2_with fail
    go_ret
    exact ⟨rfl, rfl⟩

set_option maxHeartbeats 1000000 in
theorem implVar_no (v : ByteArray) (w : World) (hm : v.size ≤ maxLen) (hv : ¬ IsVar v) : Calls Tryz.prog 64 #[.string v] w fun e w' => e = .returned (.bool false) ∧ w = w' := by
  by_cases h1 : v.size = 1
  · obtain ⟨c, rfl⟩ := one_byte v h1
    have hc : Hid ((c == 120 || c == 121 || c == 122) = false) := by
      show (c == 120 || c == 121 || c == 122) = false
      cases hh : (c == 120 || c == 121 || c == 122)
      · rfl
      · simp at hh
        exact absurd (by rcases hh with (rfl | rfl) | rfl <;> simp [IsVar]) hv
    clear hv hm
    go_enter Tryz.func64, Tryz.ntmps64
    go_wp2_with fail
    refine (Tryz.strings_Contains_one ⟨#[120, 121, 122]⟩ _ _).mono ?_
    rintro e w' ⟨rfl, rfl⟩
    rw [xyz_index, hc.out]
    go_wp2_with fail
    go_ret
    exact ⟨rfl, rfl⟩
  · have hs : ((v.size : Int) == 1) = false := by rw [beq_eq_false_iff_ne]; omega
    clear hv h1
    go_enter Tryz.func64, Tryz.ntmps64
    go_wp2_with fail
    go_ret
    exact ⟨rfl, rfl⟩

end Go.Proofs.YtopbkkmplgllkaaGreatDoor
