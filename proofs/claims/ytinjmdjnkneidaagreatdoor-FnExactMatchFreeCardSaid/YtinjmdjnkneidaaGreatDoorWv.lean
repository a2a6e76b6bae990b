/-
  WideValid, of the program and of the model.
-/
import Derived.Test.YtinjmdjnkneidaaGreatDoorTopT
import Derived.Test.YtinjmdjnkneidaaGreatDoorTopU
namespace Go.Proofs.YtinjmdjnkneidaaGreatDoor
open Go.RowKit Tm

set_option maxHeartbeats 1000000 in
theorem specWide_yes (s : ByteArray) (w : World) (hv : Valid true true s.data.toList) (hs : s.size ≤ 200) : Calls Tryz.prog 145 #[.string s] w (Quiet (.bool true) w) := by
  obtain ⟨r, hr⟩ := PrefAt.exists true true s.data.toList 0
  have he : r = (s.size : Int) := (valid_iff_at hr).2 hv
  subst he
  have HC := fun w => Lib.hid (test_any true s (by omega) 0 _ w hr)
  clear hr hv
  go_enter Tryz.func145, Tryz.ntmps145
  go_wp2_with fail
  refine (HC _).out.mono ?_
  rintro e w' ⟨rfl, n, rfl⟩
  go_wp2_with fail
  go_ret
  exact ⟨rfl, n, rfl⟩

set_option maxHeartbeats 1000000 in
theorem specWide_no (s : ByteArray) (w : World) (hv : ¬ (Valid true true s.data.toList ∧ s.size ≤ 200)) : Calls Tryz.prog 145 #[.string s] w (Quiet (.bool false) w) := by
  by_cases hs : s.size ≤ 200
  · obtain ⟨r, hr⟩ := PrefAt.exists true true s.data.toList 0
    have he : ¬ r = (s.size : Int) := fun e => hv ⟨(valid_iff_at hr).1 e, hs⟩
    have hne : (r == (s.size : Int)) = false := by rw [beq_eq_false_iff_ne]; exact he
    have HC := fun w => Lib.hid (test_any true s (by omega) 0 _ w hr)
    clear hr hv he
    go_enter Tryz.func145, Tryz.ntmps145
    go_wp2_with fail
    refine (HC _).out.mono ?_
    rintro e w' ⟨rfl, n, rfl⟩
    go_wp2_with fail
    go_ret
    exact ⟨rfl, n, rfl⟩
  · go_enter Tryz.func145, Tryz.ntmps145
    go_wp2_with fail
    go_ret
    exact ⟨rfl, 0, rfl⟩
end Go.Proofs.YtinjmdjnkneidaaGreatDoor
