import Derived.Test.YtlhmdpkenkibiaaGreatDoorEt1
import Derived.Test.YtlhmdpkenkibiaaGreatDoorTopG2
namespace Go.Proofs.YtlhmdpkenkibiaaGreatDoor
open Go.RowKit Go.Great Tm
set_option maxRecDepth 100000 in
set_option maxHeartbeats 4000000 in
theorem sop_end (s : ByteArray) (w : World) {p : Pg} (hp : p.ok false) (hs : s.data.toList = p.ser) (hl : s.size ≤ 200) :
  Calls Tryz.prog 118 #[.string s, .func (.func 119) #[] #[]] w fun e w' => e = .returned (.tuple #[.string (bs (tb (seS p))), .bool true]) ∧ Below w.heap.size w w' := by
 have C := fun w => Lib.hid (prog_yes s w hp hs hl)
 have lp := all_len hs hl
 have CT := fun w => Lib.hid (implText (seS p) w)
 clear hs
 go_enter Tryz.func118, Tryz.ntmps118
 go_wp2_with fail
 refine (C _).out.mono ?_
 rintro e w2 ⟨T, u, rfl, hst, hb⟩
 have HB := Lib.hid hb
 have F1 := Lib.hid (flowOf_any p _ _ _ hst hp lp)
 clear hst hb C
 go_wp2_with fail
 refine F1.out.mono ?_
 rintro e w3 ⟨rb, cap, rfl, hf1, hb⟩
 have E1 := Lib.hid (statesEnd hf1 w3 (Below.refl _ _))
 replace HB := Lib.hid (bnext HB.out hb)
 clear hb hf1 F1
 go_wp2_with fail
 refine E1.out.mono ?_
 rintro e w4 ⟨rfl, hb⟩
 replace HB := Lib.hid (bnext HB.out hb)
 clear hb
 go_wp2_with fail
 refine (CT _).out.mono ?_
 rintro e w5 ⟨rfl, hb⟩
 replace HB := Lib.hid (bnext HB.out hb)
 clear hb
 go_wp2_with fail
 go_ret2
 exact ⟨rfl, HB.out⟩
set_option maxHeartbeats 2000000 in
theorem implSure_yes (s : ByteArray) (w : World) {p : Pg} (hp : p.ok false) (hs : s.data.toList = p.ser) (hl : s.size ≤ 200) :
  Calls Tryz.prog 47 #[.string s] w fun e w' => e = .returned (.tuple #[.string (bs (tb (seS p))), .bool true]) ∧ Below w.heap.size w w' := by
 have C := fun w => Lib.hid (sop_end s w hp hs hl)
 clear hs
 go_enter Tryz.func47, Tryz.ntmps47
 go_wp2_with fail
 refine (C _).out.mono ?_
 rintro e w2 ⟨rfl, hb⟩
 have HB := Lib.hid hb
 clear hb
 go_wp2_with fail
 go_ret2
 exact ⟨rfl, HB.out⟩
end Go.Proofs.YtlhmdpkenkibiaaGreatDoor
