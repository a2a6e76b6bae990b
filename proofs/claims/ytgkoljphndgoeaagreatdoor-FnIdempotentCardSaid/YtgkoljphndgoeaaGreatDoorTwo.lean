import Derived.Test.YtgkoljphndgoeaaGreatDoorTopP
namespace Go.Proofs.YtgkoljphndgoeaaGreatDoor
open Go.RowKit Go.Lib Tm
def TwoProgs (p q : Pg) (w : World) (e : Ending) (w' : World) : Prop := ∃ T u T' u' w1 B B', e = .returned (.tuple #[.iface T (.agg u), .iface T' (.agg u'), .bool true]) ∧ StV w1 B p (.iface T (.agg u)) ∧ Below w1.heap.size w1 w' ∧ StV w' B' q (.iface T' (.agg u')) ∧ Below w.heap.size w w'
set_option maxHeartbeats 2000000 in
theorem two_yes (s t : ByteArray) (w : World) {p q : Pg} (hp : p.ok false) (hs : s.data.toList = p.ser) (hl : s.size ≤ 200) (hq : q.ok false) (ht : t.data.toList = q.ser) (hm : t.size ≤ 200) :
  Calls Tryz.prog 144 #[.string s, .string t] w (TwoProgs p q w) := by
 have H1 := fun w => Lib.hid (prog_yes s w hp hs hl)
 have H2 := fun w => Lib.hid (prog_yes t w hq ht hm)
 clear hs ht
 go_enter Tryz.func144, Tryz.ntmps144
 go_wp2_with fail
 refine (H1 _).out.mono ?_
 rintro e w1 ⟨T, u, rfl, hst, hb⟩
 have HB := Lib.hid hb
 have HS := Lib.hid hst
 clear hb hst
 go_wp2_with fail
 refine (H2 _).out.mono ?_
 rintro e w2 ⟨T', u', rfl, hst, hb⟩
 have HB2 := Lib.hid (bnext HB.out hb)
 have HN := Lib.hid hb
 have HS2 := Lib.hid hst
 clear hb hst
 go_wp2_with fail
 go_ret3
 exact ⟨T, u, T', u', w1, _, _, rfl, HS.out, HN.out, HS2.out, HB2.out⟩
set_option maxHeartbeats 2000000 in
theorem two_noA (s t : ByteArray) (w : World) (h : ¬ (PValid false s.data.toList ∧ s.size ≤ 200)) :
  Calls Tryz.prog 144 #[.string s, .string t] w fun e w' => e = .returned (.tuple #[.nilIface, .nilIface, .bool false]) ∧ Below w.heap.size w w' := by
 have H1 := fun w => Lib.hid (prog_no s w h)
 clear h
 by_cases h : PValid false t.data.toList ∧ t.size ≤ 200
 ·obtain ⟨⟨q, hq, ht⟩, hm⟩ := h
  have H2 := fun w => Lib.hid (prog_yes t w hq ht hm)
  clear ht
  go_enter Tryz.func144, Tryz.ntmps144
  go_wp2_with fail
  refine (H1 _).out.mono ?_
  rintro e w1 ⟨rfl, hb⟩
  have HB := Lib.hid hb
  clear hb
  go_wp2_with fail
  refine (H2 _).out.mono ?_
  rintro e w2 ⟨T', u', rfl, hst, hb⟩
  have HB2 := Lib.hid (bnext HB.out hb)
  clear hb hst
  go_wp2_with fail
  go_ret3
  exact ⟨rfl, HB2.out⟩
 ·have H2 := fun w => Lib.hid (prog_no t w h)
  clear h
  go_enter Tryz.func144, Tryz.ntmps144
  go_wp2_with fail
  refine (H1 _).out.mono ?_
  rintro e w1 ⟨rfl, hb⟩
  have HB := Lib.hid hb
  clear hb
  go_wp2_with fail
  refine (H2 _).out.mono ?_
  rintro e w2 ⟨rfl, hb⟩
  have HB2 := Lib.hid (bnext HB.out hb)
  clear hb
  go_wp2_with fail
  go_ret3
  exact ⟨rfl, HB2.out⟩
set_option maxHeartbeats 2000000 in
theorem two_noB (s t : ByteArray) (w : World) (hv : PValid false s.data.toList) (hl : s.size ≤ 200) (h : ¬ (PValid false t.data.toList ∧ t.size ≤ 200)) :
  Calls Tryz.prog 144 #[.string s, .string t] w fun e w' => e = .returned (.tuple #[.nilIface, .nilIface, .bool false]) ∧ Below w.heap.size w w' := by
 obtain ⟨p, hp, hs⟩ := hv
 have H1 := fun w => Lib.hid (prog_yes s w hp hs hl)
 have H2 := fun w => Lib.hid (prog_no t w h)
 clear h hs
 go_enter Tryz.func144, Tryz.ntmps144
 go_wp2_with fail
 refine (H1 _).out.mono ?_
 rintro e w1 ⟨T, u, rfl, hst, hb⟩
 have HB := Lib.hid hb
 clear hb hst
 go_wp2_with fail
 refine (H2 _).out.mono ?_
 rintro e w2 ⟨rfl, hb⟩
 have HB2 := Lib.hid (bnext HB.out hb)
 clear hb
 go_wp2_with fail
 go_ret3
 exact ⟨rfl, HB2.out⟩
end Go.Proofs.YtgkoljphndgoeaaGreatDoor
