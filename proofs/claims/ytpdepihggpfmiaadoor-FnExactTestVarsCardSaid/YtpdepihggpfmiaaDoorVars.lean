/-
  ExprVars and TestVars, of the program and of the model: the variables that occur, in order.
-/
import Derived.Test.YtpdepihggpfmiaaDoorVIn
import Derived.Test.YtpdepihggpfmiaaDoorSpecValid
import Derived.Test.YtpdepihggpfmiaaDoorRead
namespace Go.Proofs.YtpdepihggpfmiaaDoor
open Go.RowKit Tm

theorem bnx {w w1 w2 : World} (h : Below w.heap.size w w1) (hb : Below w1.heap.size w1 w2) : Below w.heap.size w w2 := h.trans (hb.mono h.size)
set_option maxHeartbeats 2000000 in
theorem varsOf_yes (k : Bool) (s : ByteArray) (w : World) {t : Tm} (ht : Ok false k t) (hs : s.data.toList = t.ser) (hl : s.size ≤ 200) :
    Calls Tryd.prog 48 #[.string s, .int .u8 (kcode k)] w fun e w' => e = .returned (.string (bs (vlist [120, 121, 122] s.data.toList))) ∧ Below w.heap.size w w' := by
  have HC := fun w => Lib.hid (read_yes k s w ht hs hl)
  have HV := fun w => Lib.hid (vIn_any s w)
  clear hs
  generalize bs (vlist [120, 121, 122] s.data.toList) = R at *
  go_enter Tryd.func48, Tryd.ntmps48
  go_wp2_with fail
  refine (HC _).out.mono ?_
  rintro e w1 ⟨xc, ya, yn, ym, rfl, _, hb⟩
  have HB := Lib.hid (hb.alloc hb.size (.cells #[.int .u8 xc, .slice ya yn ym] 40))
  clear hb
  go_wp2_with fail
  refine (HV _).out.mono ?_
  rintro e w2 ⟨rfl, hb⟩
  have HB2 := Lib.hid (bnx HB.out hb)
  clear hb
  go_wp2_with fail
  go_ret
  exact ⟨rfl, HB2.out⟩

set_option maxHeartbeats 2000000 in
theorem varsOf_no (k : Bool) (s : ByteArray) (w : World) (h : ¬ (Valid false k s.data.toList ∧ s.size ≤ 200)) :
    Calls Tryd.prog 48 #[.string s, .int .u8 (kcode k)] w fun e w' => e = .returned (.string (bs [])) ∧ Below w.heap.size w w' := by
  have HC := fun w => Lib.hid (read_no k s w h)
  clear h
  go_enter Tryd.func48, Tryd.ntmps48
  go_wp2_with fail
  refine (HC _).out.mono ?_
  rintro e w1 ⟨rfl, hb⟩
  have HB := Lib.hid hb
  clear hb
  go_wp2_with fail
  go_ret
  exact ⟨rfl, HB.out.alloc HB.out.size _⟩

set_option maxHeartbeats 2000000 in
theorem implVarsExpr_yes (s : ByteArray) (w : World) {t : Tm} (ht : Ok false false t) (hs : s.data.toList = t.ser) (hl : s.size ≤ 200) :
    Calls Tryd.prog 24 #[.string s] w fun e w' => e = .returned (.string (bs (vlist [120, 121, 122] s.data.toList))) ∧ Below w.heap.size w w' := by
  have HC := fun w => Lib.hid (varsOf_yes false s w ht hs hl)
  clear hs
  go_enter Tryd.func24, Tryd.ntmps24
  go_wp2_with fail
  refine (HC _).out.mono ?_
  rintro e w1 ⟨rfl, hb⟩
  have HB := Lib.hid hb
  clear hb
  go_wp2_with fail
  go_ret
  exact ⟨rfl, HB.out⟩

set_option maxHeartbeats 2000000 in
theorem implVarsExpr_no (s : ByteArray) (w : World) (h : ¬ (Valid false false s.data.toList ∧ s.size ≤ 200)) :
    Calls Tryd.prog 24 #[.string s] w fun e w' => e = .returned (.string (bs [])) ∧ Below w.heap.size w w' := by
  have HC := fun w => Lib.hid (varsOf_no false s w h)
  clear h
  go_enter Tryd.func24, Tryd.ntmps24
  go_wp2_with fail
  refine (HC _).out.mono ?_
  rintro e w1 ⟨rfl, hb⟩
  have HB := Lib.hid hb
  clear hb
  go_wp2_with fail
  go_ret
  exact ⟨rfl, HB.out⟩

set_option maxHeartbeats 2000000 in
theorem specVarsExpr_yes (s : ByteArray) (w : World) {t : Tm} (ht : Ok false false t) (hs : s.data.toList = t.ser) (hl : s.size ≤ 200) :
    Calls Tryd.prog 23 #[.string s] w fun e w' => e = .returned (.string (bs (vlist [120, 121, 122] s.data.toList))) ∧ Below w.heap.size w w' := by
  have HC := fun w => Lib.hid (specExpr_yes s w ⟨t, ht, hs⟩ hl)
  have HV := fun w => Lib.hid (specVars false s w (by unfold maxLen; omega))
  clear hs
  go_enter Tryd.func23, Tryd.ntmps23
  go_wp2_with fail
  refine (HC _).out.mono ?_
  rintro e w1 ⟨rfl, n, rfl⟩
  go_wp2_with fail
  refine (HV _).out.mono ?_
  rintro e w2 ⟨rfl, rfl⟩
  go_wp2_with fail
  go_ret
  exact ⟨rfl, below_of_drewN (Below.refl _ _) n⟩
set_option maxHeartbeats 2000000 in
theorem specVarsExpr_no (s : ByteArray) (w : World) (h : ¬ (Valid false false s.data.toList ∧ s.size ≤ 200)) :
    Calls Tryd.prog 23 #[.string s] w fun e w' => e = .returned (.string (bs [])) ∧ Below w.heap.size w w' := by
  have HC := fun w => Lib.hid (specExpr_no s w h)
  clear h
  go_enter Tryd.func23, Tryd.ntmps23
  go_wp2_with fail
  refine (HC _).out.mono ?_
  rintro e w1 ⟨rfl, n, rfl⟩
  go_wp2_with fail
  go_ret
  exact ⟨rfl, below_of_drewN (Below.refl _ _) n⟩

set_option maxHeartbeats 2000000 in
theorem implVarsTest_yes (s : ByteArray) (w : World) {t : Tm} (ht : Ok false true t) (hs : s.data.toList = t.ser) (hl : s.size ≤ 200) :
    Calls Tryd.prog 26 #[.string s] w fun e w' => e = .returned (.string (bs (vlist [120, 121, 122] s.data.toList))) ∧ Below w.heap.size w w' := by
  have HC := fun w => Lib.hid (varsOf_yes true s w ht hs hl)
  clear hs
  go_enter Tryd.func26, Tryd.ntmps26
  go_wp2_with fail
  refine (HC _).out.mono ?_
  rintro e w1 ⟨rfl, hb⟩
  have HB := Lib.hid hb
  clear hb
  go_wp2_with fail
  go_ret
  exact ⟨rfl, HB.out⟩

set_option maxHeartbeats 2000000 in
theorem implVarsTest_no (s : ByteArray) (w : World) (h : ¬ (Valid false true s.data.toList ∧ s.size ≤ 200)) :
    Calls Tryd.prog 26 #[.string s] w fun e w' => e = .returned (.string (bs [])) ∧ Below w.heap.size w w' := by
  have HC := fun w => Lib.hid (varsOf_no true s w h)
  clear h
  go_enter Tryd.func26, Tryd.ntmps26
  go_wp2_with fail
  refine (HC _).out.mono ?_
  rintro e w1 ⟨rfl, hb⟩
  have HB := Lib.hid hb
  clear hb
  go_wp2_with fail
  go_ret
  exact ⟨rfl, HB.out⟩

set_option maxHeartbeats 2000000 in
theorem specVarsTest_yes (s : ByteArray) (w : World) {t : Tm} (ht : Ok false true t) (hs : s.data.toList = t.ser) (hl : s.size ≤ 200) :
    Calls Tryd.prog 25 #[.string s] w fun e w' => e = .returned (.string (bs (vlist [120, 121, 122] s.data.toList))) ∧ Below w.heap.size w w' := by
  have HC := fun w => Lib.hid (specTest_yes s w ⟨t, ht, hs⟩ hl)
  have HV := fun w => Lib.hid (specVars false s w (by unfold maxLen; omega))
  clear hs
  go_enter Tryd.func25, Tryd.ntmps25
  go_wp2_with fail
  refine (HC _).out.mono ?_
  rintro e w1 ⟨rfl, n, rfl⟩
  go_wp2_with fail
  refine (HV _).out.mono ?_
  rintro e w2 ⟨rfl, rfl⟩
  go_wp2_with fail
  go_ret
  exact ⟨rfl, below_of_drewN (Below.refl _ _) n⟩
set_option maxHeartbeats 2000000 in
theorem specVarsTest_no (s : ByteArray) (w : World) (h : ¬ (Valid false true s.data.toList ∧ s.size ≤ 200)) :
    Calls Tryd.prog 25 #[.string s] w fun e w' => e = .returned (.string (bs [])) ∧ Below w.heap.size w w' := by
  have HC := fun w => Lib.hid (specTest_no s w h)
  clear h
  go_enter Tryd.func25, Tryd.ntmps25
  go_wp2_with fail
  refine (HC _).out.mono ?_
  rintro e w1 ⟨rfl, n, rfl⟩
  go_wp2_with fail
  go_ret
  exact ⟨rfl, below_of_drewN (Below.refl _ _) n⟩
end Go.Proofs.YtpdepihggpfmiaaDoor
