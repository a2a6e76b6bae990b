/-
  ExprValid and TestValid of the program: they are true at the texts of at most 200 bytes that are terms of the kind, and false at all others.
-/
import Derived.Test.YtpdepihggpfmiaaDoorRead
import Derived.Test.YtpdepihggpfmiaaDoorSpecValid
namespace Go.Proofs.YtpdepihggpfmiaaDoor
open Go.RowKit Tm


set_option maxHeartbeats 1000000 in
theorem implExpr_yes (s : ByteArray) (w : World) (hv : Valid false false s.data.toList) (hs : s.size ≤ 200) : Calls Tryd.prog 15 #[.string s] w fun e w' => e = .returned (.bool true) ∧ Below w.heap.size w w' := by
  obtain ⟨t, ht, he⟩ := hv
  have HC := fun w => Lib.hid (read_yes false s w ht he hs)
  clear he
  go_enter Tryd.func15, Tryd.ntmps15
  go_wp2_with fail
  refine (HC _).out.mono ?_
  rintro e w1 ⟨xc, ya, yn, ym, rfl, _, hb⟩
  have HB := Lib.hid hb
  clear hb
  go_wp2_with fail
  go_ret
  exact ⟨rfl, HB.out.alloc HB.out.size _⟩

set_option maxHeartbeats 1000000 in
theorem implExpr_no (s : ByteArray) (w : World) (hv : ¬ (Valid false false s.data.toList ∧ s.size ≤ 200)) : Calls Tryd.prog 15 #[.string s] w fun e w' => e = .returned (.bool false) ∧ Below w.heap.size w w' := by
  have HC := fun w => Lib.hid (read_no false s w hv)
  clear hv
  go_enter Tryd.func15, Tryd.ntmps15
  go_wp2_with fail
  refine (HC _).out.mono ?_
  rintro e w1 ⟨rfl, hb⟩
  have HB := Lib.hid hb
  clear hb
  go_wp2_with fail
  go_ret
  exact ⟨rfl, HB.out.alloc HB.out.size _⟩

set_option maxHeartbeats 1000000 in
theorem implTest_yes (s : ByteArray) (w : World) (hv : Valid false true s.data.toList) (hs : s.size ≤ 200) : Calls Tryd.prog 17 #[.string s] w fun e w' => e = .returned (.bool true) ∧ Below w.heap.size w w' := by
  obtain ⟨t, ht, he⟩ := hv
  have HC := fun w => Lib.hid (read_yes true s w ht he hs)
  clear he
  go_enter Tryd.func17, Tryd.ntmps17
  go_wp2_with fail
  refine (HC _).out.mono ?_
  rintro e w1 ⟨xc, ya, yn, ym, rfl, _, hb⟩
  have HB := Lib.hid hb
  clear hb
  go_wp2_with fail
  go_ret
  exact ⟨rfl, HB.out.alloc HB.out.size _⟩

set_option maxHeartbeats 1000000 in
theorem implTest_no (s : ByteArray) (w : World) (hv : ¬ (Valid false true s.data.toList ∧ s.size ≤ 200)) : Calls Tryd.prog 17 #[.string s] w fun e w' => e = .returned (.bool false) ∧ Below w.heap.size w w' := by
  have HC := fun w => Lib.hid (read_no true s w hv)
  clear hv
  go_enter Tryd.func17, Tryd.ntmps17
  go_wp2_with fail
  refine (HC _).out.mono ?_
  rintro e w1 ⟨rfl, hb⟩
  have HB := Lib.hid hb
  clear hb
  go_wp2_with fail
  go_ret
  exact ⟨rfl, HB.out.alloc HB.out.size _⟩


end Go.Proofs.YtpdepihggpfmiaaDoor
