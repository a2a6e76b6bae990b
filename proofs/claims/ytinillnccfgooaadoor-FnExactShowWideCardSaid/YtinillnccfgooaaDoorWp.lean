/-
  Wide programs: read by the program; WideProgramValid of the program and of the model.
-/
import Derived.Test.YtinillnccfgooaaDoorRdP
import Derived.Test.YtinillnccfgooaaDoorEnd
namespace Go.Proofs.YtinillnccfgooaaDoor
open Go.RowKit Tm

set_option maxHeartbeats 1000000 in
theorem wstmt_yes (s : ByteArray) (w : World) {p : Pg} (hp : p.ok true) (hs : s.data.toList = p.ser) (hl : s.size ≤ 1000) :
    Calls Tryd.prog 87 #[.string s, .int .u8 80] w (ProgPost p w) := by
  have hsz : p.ser.length ≤ 1000 := by have := congrArg List.length hs; simp at this; omega
  have HC := fun w => Lib.hid (gread_yes 80 s w (c := p.letter) (kids := p.kids) (by rw [← Pg.fo_eq]; exact (fok_wide _ [112] (by simp [NarK])).2 (pg_ok hp rfl)) (by rw [hs, ← Pg.fo_eq, pg_ser]; simp [Fo.ser]) (by rw [show lim 80 = 1000 from rfl]; exact hl))
  have HS := Lib.hid (st_any p hp hsz)
  clear hs
  go_enter Tryd.func87, Tryd.ntmps87
  go_wp2_with fail
  refine (HC _).out.mono ?_
  rintro e w1 ⟨ya, ym, rfl, hr, hb⟩
  have HB := Lib.hid hb
  have HR := Lib.hid hr
  clear hb hr
  go_wp2_with fail
  refine (HS.out w1 w.heap.size _ ya ym ((Below.refl _ _).alloc (Nat.le_refl _) _) HR.out).mono ?_
  rintro e w2 ⟨T, u, rfl, hst, hb⟩
  have HB2 := Lib.hid (bnext (bput HB.out _) hb)
  have H3 := Lib.hid (StV.below (((Below.refl w1.heap.size w1).alloc (Nat.le_refl _) _).trans (hb.mono (by simp))) hst)
  clear hb hst
  go_wp2_with fail
  go_ret2
  exact ⟨T, u, rfl, H3.out, HB2.out⟩

set_option maxHeartbeats 1000000 in
theorem wstmt_no (s : ByteArray) (w : World) (h : ¬ (PValid true s.data.toList ∧ s.size ≤ 1000)) :
    Calls Tryd.prog 87 #[.string s, .int .u8 80] w fun e w' => e = .returned (.tuple #[.nilIface, .bool false]) ∧ Below w.heap.size w w' := by
  have HC := fun w => Lib.hid (gread_no 80 s w (by simp [IsKind, NarK, wideK]) (by rw [show GValid false 80 s.data.toList ↔ PValid true s.data.toList from (gvalid_wide (k := 112) (by simp [NarK])).trans pvalid_iff, show lim 80 = 1000 from rfl]; exact h))
  clear h
  go_enter Tryd.func87, Tryd.ntmps87
  go_wp2_with fail
  refine (HC _).out.mono ?_
  rintro e w1 ⟨rfl, hb⟩
  have HB := Lib.hid hb
  clear hb
  go_wp2_with fail
  go_ret2
  exact ⟨rfl, bput HB.out _⟩


set_option maxHeartbeats 1000000 in
theorem wprog_yes (s : ByteArray) (w : World) {p : Pg} (hp : p.ok true) (hs : s.data.toList = p.ser) (hl : s.size ≤ 1000) :
    Calls Tryd.prog 52 #[.string s] w (ProgPost p w) := by
  have HC := fun w => Lib.hid (wstmt_yes s w hp hs hl)
  clear hs
  go_enter Tryd.func52, Tryd.ntmps52
  go_wp2_with fail
  refine (HC _).out.mono ?_
  rintro e w1 ⟨T, u, rfl, hst, hb⟩
  have HB := Lib.hid hb
  have HS := Lib.hid hst
  clear hb hst
  go_wp2_with fail
  go_ret2
  exact ⟨T, u, rfl, HS.out, HB.out⟩

set_option maxHeartbeats 1000000 in
theorem wprog_no (s : ByteArray) (w : World) (h : ¬ (PValid true s.data.toList ∧ s.size ≤ 1000)) :
    Calls Tryd.prog 52 #[.string s] w fun e w' => e = .returned (.tuple #[.nilIface, .bool false]) ∧ Below w.heap.size w w' := by
  have HC := fun w => Lib.hid (wstmt_no s w h)
  clear h
  go_enter Tryd.func52, Tryd.ntmps52
  go_wp2_with fail
  refine (HC _).out.mono ?_
  rintro e w1 ⟨rfl, hb⟩
  have HB := Lib.hid hb
  clear hb
  go_wp2_with fail
  go_ret2
  exact ⟨rfl, HB.out⟩

set_option maxHeartbeats 1000000 in
theorem implWP_yes (s : ByteArray) (w : World) (hv : PValid true s.data.toList) (hl : s.size ≤ 1000) :
    Calls Tryd.prog 25 #[.string s] w fun e w' => e = .returned (.bool true) ∧ Below w.heap.size w w' := by
  obtain ⟨p, hp, hs⟩ := hv
  have HC := fun w => Lib.hid (wprog_yes s w hp hs hl)
  clear hs
  go_enter Tryd.func25, Tryd.ntmps25
  go_wp2_with fail
  refine (HC _).out.mono ?_
  rintro e w1 ⟨T, u, rfl, _, hb⟩
  have HB := Lib.hid hb
  clear hb
  go_wp2_with fail
  go_ret
  exact ⟨rfl, HB.out⟩

set_option maxHeartbeats 1000000 in
theorem implWP_no (s : ByteArray) (w : World) (h : ¬ (PValid true s.data.toList ∧ s.size ≤ 1000)) :
    Calls Tryd.prog 25 #[.string s] w fun e w' => e = .returned (.bool false) ∧ Below w.heap.size w w' := by
  have HC := fun w => Lib.hid (wprog_no s w h)
  clear h
  go_enter Tryd.func25, Tryd.ntmps25
  go_wp2_with fail
  refine (HC _).out.mono ?_
  rintro e w1 ⟨rfl, hb⟩
  have HB := Lib.hid hb
  clear hb
  go_wp2_with fail
  go_ret
  exact ⟨rfl, HB.out⟩

set_option maxHeartbeats 1000000 in
theorem specWP_yes (s : ByteArray) (w : World) (hv : PValid true s.data.toList) (hs : s.size ≤ 1000) : Calls Tryd.prog 24 #[.string s] w (Quiet (.bool true) w) := by
  obtain ⟨r, hr⟩ := GAt.exists true [112] s.data.toList 0
  have he : r = (s.size : Int) := (gvalid_iff_at hr).2 (pvalid_iff.2 hv)
  subst he
  have HC := fun w => Lib.hid (pend_any true s (by omega) 0 _ w hr)
  clear hr hv
  go_enter Tryd.func24, Tryd.ntmps24
  go_wp2_with fail
  refine (HC _).out.mono ?_
  rintro e w' ⟨rfl, n, rfl⟩
  go_wp2_with fail
  go_ret
  exact ⟨rfl, n, rfl⟩

set_option maxHeartbeats 1000000 in
theorem specWP_no (s : ByteArray) (w : World) (hv : ¬ (PValid true s.data.toList ∧ s.size ≤ 1000)) : Calls Tryd.prog 24 #[.string s] w (Quiet (.bool false) w) := by
  by_cases hs : s.size ≤ 1000
  · obtain ⟨r, hr⟩ := GAt.exists true [112] s.data.toList 0
    have he : ¬ r = (s.size : Int) := fun e => hv ⟨pvalid_iff.1 ((gvalid_iff_at hr).1 e), hs⟩
    have hne : (r == (s.size : Int)) = false := by rw [beq_eq_false_iff_ne]; exact he
    have HC := fun w => Lib.hid (pend_any true s (by omega) 0 _ w hr)
    clear hr hv he
    go_enter Tryd.func24, Tryd.ntmps24
    go_wp2_with fail
    refine (HC _).out.mono ?_
    rintro e w' ⟨rfl, n, rfl⟩
    go_wp2_with fail
    go_ret
    exact ⟨rfl, n, rfl⟩
  · go_enter Tryd.func24, Tryd.ntmps24
    go_wp2_with fail
    go_ret
    exact ⟨rfl, 0, rfl⟩
end Go.Proofs.YtinillnccfgooaaDoor
