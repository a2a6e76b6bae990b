/-
  ShowWide, of the program and of the model.
-/
import Derived.Test.YtinillnccfgooaaDoorShQ
import Derived.Test.YtinillnccfgooaaDoorWp
namespace Go.Proofs.YtinillnccfgooaaDoor
open Go.RowKit Tm

set_option maxHeartbeats 1000000 in
theorem implShW_yes (s : ByteArray) (w : World) {p : Pg} (hp : p.ok true) (hs : s.data.toList = p.ser) (hl : s.size ≤ 1000) :
    Calls Tryd.prog 23 #[.string s] w (TxtPost (bs (shP p)) w) := by
  have hsz : p.ser.length ≤ 1000 := by have := congrArg List.length hs; simp at this; omega
  have HC := fun w => Lib.hid (wprog_yes s w hp hs hl)
  have HW := Lib.hid (sst_any p hp (by omega))
  clear hs
  go_enter Tryd.func23, Tryd.ntmps23
  go_wp2_with fail
  refine (HC _).out.mono ?_
  rintro e w1 ⟨T, u, rfl, hst, hb⟩
  have HB := Lib.hid hb
  have HST := Lib.hid hst
  clear hb hst
  go_wp2_with fail
  refine (HW.out w1 w.heap.size T u _ HST.out (Below.refl _ _)).mono ?_
  rintro e w2 ⟨rfl, hb⟩
  have HB2 := Lib.hid (bnext HB.out hb)
  clear hb
  go_wp2_with fail
  go_ret
  exact ⟨rfl, HB2.out⟩
set_option maxHeartbeats 1000000 in
theorem implShW_no (s : ByteArray) (w : World) (h : ¬ (PValid true s.data.toList ∧ s.size ≤ 1000)) :
    Calls Tryd.prog 23 #[.string s] w (TxtPost (bs []) w) := by
  have HC := fun w => Lib.hid (wprog_no s w h)
  clear h
  go_enter Tryd.func23, Tryd.ntmps23
  go_wp2_with fail
  refine (HC _).out.mono ?_
  rintro e w1 ⟨rfl, hb⟩
  have HB := Lib.hid hb
  clear hb
  go_wp2_with fail
  go_ret
  exact ⟨rfl, HB.out⟩


set_option maxHeartbeats 1000000 in
theorem specShW_yes (s : ByteArray) (w : World) {p : Pg} (hp : p.ok true) (hs : s.data.toList = p.ser) (hl : s.size ≤ 1000) :
    Calls Tryd.prog 22 #[.string s] w (TxtPost (bs (shP p)) w) := by
  have hsz : p.ser.length ≤ 1000 := by have := congrArg List.length hs; simp at this; omega
  obtain rfl := text_eq hs
  have HV := fun w => Lib.hid (specWP_yes (bs p.ser) w ⟨p, hp, hs⟩ hl)
  have HC := fun w => Lib.hid (ls_any true p hp hsz w)
  clear hs hl
  generalize bs p.ser = S at *
  go_enter Tryd.func22, Tryd.ntmps22
  go_wp2_with fail
  refine (HV _).out.mono ?_
  rintro e w1 ⟨rfl, n, rfl⟩
  go_wp2_with fail
  refine (HC _).out.mono ?_
  rintro e w2 ⟨rfl, hb⟩
  have HB := Lib.hid (bnext (bdrewN (Below.refl w.heap.size w) n) hb)
  clear hb
  go_wp2_with fail
  go_ret
  exact ⟨rfl, HB.out⟩
set_option maxHeartbeats 1000000 in
theorem specShW_no (s : ByteArray) (w : World) (h : ¬ (PValid true s.data.toList ∧ s.size ≤ 1000)) :
    Calls Tryd.prog 22 #[.string s] w (TxtPost (bs []) w) := by
  have HV := fun w => Lib.hid (specWP_no s w h)
  clear h
  go_enter Tryd.func22, Tryd.ntmps22
  go_wp2_with fail
  refine (HV _).out.mono ?_
  rintro e w1 ⟨rfl, n, rfl⟩
  go_wp2_with fail
  go_ret
  exact ⟨rfl, bdrewN (Below.refl w.heap.size w) n⟩
end Go.Proofs.YtinillnccfgooaaDoor
