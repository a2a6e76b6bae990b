import Derived.Test.YtgkoljphndgoeaaGreatDoorTh1
namespace Go.Proofs.YtgkoljphndgoeaaGreatDoor
open Go.RowKit Tm Go.Great Go.ChangeMaps
set_option maxRecDepth 100000 in
set_option maxHeartbeats 4000000 in
theorem implIdem_yes (s : ByteArray) (w : World) {p : Pg} (hp : p.ok false) (hs : s.data.toList = p.ser) (hl : s.size ≤ 200) :
  Calls Tryz.prog 25 #[.string s] w fun e w' => e = .returned (.bool (allO eqO (thO (oc p) (oc p)) (oc p))) ∧ Below w.heap.size w w' := by
 have C := fun w => Lib.hid (prog_yes s w hp hs hl)
 have lp := all_len hs hl
 clear hs
 go_enter Tryz.func25, Tryz.ntmps25
 go_wp2_with fail
 refine (C _).out.mono ?_
 rintro e w2 ⟨T, u, rfl, hst, hb⟩
 have HB := Lib.hid hb
 have C1 := Lib.hid (outcomes_any p _ _ w2 hst hp lp)
 clear hst hb C
 go_wp2_with fail
 refine C1.out.mono ?_
 rintro e w3 ⟨r3, rfl, h3, hb⟩
 have HB3 := Lib.hid (bnext HB.out hb)
 have H3 := Lib.hid h3
 have C2 := Lib.hid (then_any _ _ _ _ _ _ w3 h3 h3)
 obtain ⟨g3, c3, rfl, _, _⟩ := h3.form
 clear hb h3 C1
 go_wp2_with fail
 refine C2.out.mono ?_
 rintro e w4 ⟨r4, rfl, h4, hb⟩
 have HB4 := Lib.hid (bnext HB3.out hb)
 have C3 := Lib.hid (same_any _ _ _ _ _ _ w4 h4 (H3.out.kept hb))
 obtain ⟨g4, c4, rfl, _, _⟩ := h4.form
 clear hb h4 C2 H3
 go_wp2_with fail
 refine C3.out.mono ?_
 rintro e w5 ⟨rfl, hb⟩
 have HB5 := Lib.hid (bnext HB4.out hb)
 clear hb
 go_wp2_with fail
 go_ret
 exact ⟨rfl, HB5.out⟩
set_option maxHeartbeats 2000000 in
theorem implIdem_no (s : ByteArray) (w : World) (h : ¬ (PValid false s.data.toList ∧ s.size ≤ 200)) :
  Calls Tryz.prog 25 #[.string s] w fun e w' => e = .returned (.bool false) ∧ Below w.heap.size w w' := by
 have C := fun w => Lib.hid (prog_no s w h)
 clear h
 go_enter Tryz.func25, Tryz.ntmps25
 go_wp2_with fail
 refine (C _).out.mono ?_
 rintro e w2 ⟨rfl, hb⟩
 have HB := Lib.hid hb
 clear hb C
 go_wp2_with fail
 go_ret
 exact ⟨rfl, HB.out⟩
end Go.Proofs.YtgkoljphndgoeaaGreatDoor
