/-
  PredOf of the program and of the model.
-/
import Derived.Test.YtiaidahhlnaabaaTst
import Derived.Test.YtiaidahhlnaabaaSpecValid
import Derived.Test.YtiaidahhlnaabaaRead
namespace Go.Proofs.Ytiaidahhlnaabaa
open Go.RowKit Tm

set_option maxHeartbeats 1000000 in
theorem implPredOf_yes (s : ByteArray) (w : World) {t : Tm} (ht : Ok false true t) (he : s.data.toList = t.ser) (hl : s.size ≤ 200) :
    Calls Try.prog 10 #[.string s] w fun e w' => e = .returned (.tuple #[.string (bs (tb (tst t))), .bool true]) ∧ Below w.heap.size w w' := by
  have HC := fun w => Lib.hid (read_yes true s w ht he hl)
  have HX := fun w => Lib.hid (implText (tst t) w)
  clear he
  go_enter Try.func10, Try.ntmps10
  go_wp2_with fail
  refine (HC _).out.mono ?_
  rintro e w1 ⟨xc, ya, yn, ym, rfl, hr, hb⟩
  have HB := Lib.hid (bput hb (.cells #[.int .u8 xc, .slice ya yn ym] 32))
  have HR := Lib.hid (hr.below ((Below.refl _ w1).alloc (Nat.le_refl _) (.cells #[.int .u8 xc, .slice ya yn ym] 32)))
  clear hb hr
  go_wp2_with fail
  refine (implStates t w.heap.size xc ya yn ym _ ht HR.out).mono ?_
  rintro e w2 ⟨rfl, hb⟩
  have HB2 := Lib.hid (bnext HB.out hb)
  clear hb
  go_wp2_with fail
  refine (HX _).out.mono ?_
  rintro e w3 ⟨rfl, hb⟩
  have HB3 := Lib.hid (bnext HB2.out hb)
  clear hb
  go_wp2_with fail
  go_ret2
  exact ⟨rfl, HB3.out⟩

set_option maxHeartbeats 1000000 in
theorem implPredOf_no (s : ByteArray) (w : World) (h : ¬ (Valid false true s.data.toList ∧ s.size ≤ 200)) :
    Calls Try.prog 10 #[.string s] w fun e w' => e = .returned (.tuple #[.string (bs []), .bool false]) ∧ Below w.heap.size w w' := by
  have HC := fun w => Lib.hid (read_no true s w h)
  clear h
  go_enter Try.func10, Try.ntmps10
  go_wp2_with fail
  refine (HC _).out.mono ?_
  rintro e w1 ⟨rfl, hb⟩
  have HB := Lib.hid (bput hb (.cells #[.int .u8 0, .slice none 0 0] 32))
  clear hb
  go_wp2_with fail
  go_ret2
  exact ⟨rfl, HB.out⟩

set_option maxHeartbeats 1000000 in
theorem specPredOf_yes (s : ByteArray) (w : World) {t : Tm} (ht : Ok false true t) (he : s.data.toList = t.ser) (hl : s.size ≤ 200) :
    Calls Try.prog 9 #[.string s] w fun e w' => e = .returned (.tuple #[.string (bs (tb (tst t))), .bool true]) ∧ Below w.heap.size w w' := by
  have HC := fun w => Lib.hid (specTest_yes s w ⟨t, ht, he⟩ hl)
  have HX := fun w => Lib.hid (specOf0 s t w (ok_wide ht) he (by omega))
  clear he
  go_enter Try.func9, Try.ntmps9
  go_wp2_with fail
  refine (HC _).out.mono ?_
  rintro e w1 ⟨rfl, n, rfl⟩
  go_wp2_with fail
  refine (HX _).out.mono ?_
  rintro e w2 ⟨rfl, hb⟩
  have HB := Lib.hid ((bdrewN (Below.refl w.heap.size w) n).trans hb)
  clear hb
  go_wp2_with fail
  go_ret2
  exact ⟨rfl, HB.out⟩

set_option maxHeartbeats 1000000 in
theorem specPredOf_no (s : ByteArray) (w : World) (h : ¬ (Valid false true s.data.toList ∧ s.size ≤ 200)) :
    Calls Try.prog 9 #[.string s] w fun e w' => e = .returned (.tuple #[.string (bs []), .bool false]) ∧ Below w.heap.size w w' := by
  have HC := fun w => Lib.hid (specTest_no s w h)
  clear h
  go_enter Try.func9, Try.ntmps9
  go_wp2_with fail
  refine (HC _).out.mono ?_
  rintro e w1 ⟨rfl, n, rfl⟩
  go_wp2_with fail
  go_ret2
  exact ⟨rfl, bdrewN (Below.refl _ _) n⟩
end Go.Proofs.Ytiaidahhlnaabaa
