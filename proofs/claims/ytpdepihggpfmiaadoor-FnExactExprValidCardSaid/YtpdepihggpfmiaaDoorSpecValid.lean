/-
  ExprValid and TestValid of the model: they are true at the texts of at most 200 bytes that are terms of the kind, and false at all others.
-/
import Derived.Test.YtpdepihggpfmiaaDoorExpr
namespace Go.Proofs.YtpdepihggpfmiaaDoor
open Go.RowKit Tm

theorem below_of_drewN {B : Nat} {a w : World} (h : Below B a w) (n : Nat) : Below B a (w.drewN n) := h.trans ⟨rfl, rfl, rfl, Nat.le_refl _, fun _ _ => rfl⟩

set_option maxHeartbeats 1000000 in
theorem specExpr_yes (s : ByteArray) (w : World) (hv : Valid false false s.data.toList) (hs : s.size ≤ 200) : Calls Tryd.prog 14 #[.string s] w (Quiet (.bool true) w) := by
  obtain ⟨r, hr⟩ := PrefAt.exists false false s.data.toList 0
  have he : r = (s.size : Int) := (valid_iff_at hr).2 hv
  subst he
  have HC := fun w => Lib.hid (expr_any false s (by omega) 0 _ w hr)
  clear hr hv
  go_enter Tryd.func14, Tryd.ntmps14
  go_wp2_with fail
  refine (HC _).out.mono ?_
  rintro e w' ⟨rfl, n, rfl⟩
  go_wp2_with fail
  go_ret
  exact ⟨rfl, n, rfl⟩

set_option maxHeartbeats 1000000 in
theorem specExpr_no (s : ByteArray) (w : World) (hv : ¬ (Valid false false s.data.toList ∧ s.size ≤ 200)) : Calls Tryd.prog 14 #[.string s] w (Quiet (.bool false) w) := by
  by_cases hs : s.size ≤ 200
  · obtain ⟨r, hr⟩ := PrefAt.exists false false s.data.toList 0
    have he : ¬ r = (s.size : Int) := fun e => hv ⟨(valid_iff_at hr).1 e, hs⟩
    have hne : (r == (s.size : Int)) = false := by rw [beq_eq_false_iff_ne]; exact he
    have HC := fun w => Lib.hid (expr_any false s (by omega) 0 _ w hr)
    clear hr hv he
    go_enter Tryd.func14, Tryd.ntmps14
    go_wp2_with fail
    refine (HC _).out.mono ?_
    rintro e w' ⟨rfl, n, rfl⟩
    go_wp2_with fail
    go_ret
    exact ⟨rfl, n, rfl⟩
  · go_enter Tryd.func14, Tryd.ntmps14
    go_wp2_with fail
    go_ret
    exact ⟨rfl, 0, rfl⟩

set_option maxHeartbeats 1000000 in
theorem specTest_yes (s : ByteArray) (w : World) (hv : Valid false true s.data.toList) (hs : s.size ≤ 200) : Calls Tryd.prog 16 #[.string s] w (Quiet (.bool true) w) := by
  obtain ⟨r, hr⟩ := PrefAt.exists false true s.data.toList 0
  have he : r = (s.size : Int) := (valid_iff_at hr).2 hv
  subst he
  have HC := fun w => Lib.hid (test_any false s (by omega) 0 _ w hr)
  clear hr hv
  go_enter Tryd.func16, Tryd.ntmps16
  go_wp2_with fail
  refine (HC _).out.mono ?_
  rintro e w' ⟨rfl, n, rfl⟩
  go_wp2_with fail
  go_ret
  exact ⟨rfl, n, rfl⟩

set_option maxHeartbeats 1000000 in
theorem specTest_no (s : ByteArray) (w : World) (hv : ¬ (Valid false true s.data.toList ∧ s.size ≤ 200)) : Calls Tryd.prog 16 #[.string s] w (Quiet (.bool false) w) := by
  by_cases hs : s.size ≤ 200
  · obtain ⟨r, hr⟩ := PrefAt.exists false true s.data.toList 0
    have he : ¬ r = (s.size : Int) := fun e => hv ⟨(valid_iff_at hr).1 e, hs⟩
    have hne : (r == (s.size : Int)) = false := by rw [beq_eq_false_iff_ne]; exact he
    have HC := fun w => Lib.hid (test_any false s (by omega) 0 _ w hr)
    clear hr hv he
    go_enter Tryd.func16, Tryd.ntmps16
    go_wp2_with fail
    refine (HC _).out.mono ?_
    rintro e w' ⟨rfl, n, rfl⟩
    go_wp2_with fail
    go_ret
    exact ⟨rfl, n, rfl⟩
  · go_enter Tryd.func16, Tryd.ntmps16
    go_wp2_with fail
    go_ret
    exact ⟨rfl, 0, rfl⟩

end Go.Proofs.YtpdepihggpfmiaaDoor
