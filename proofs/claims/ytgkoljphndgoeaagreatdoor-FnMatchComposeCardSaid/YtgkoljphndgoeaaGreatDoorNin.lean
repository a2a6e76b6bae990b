import Derived.Test.YtgkoljphndgoeaaGreatDoorTopD3
import Derived.Test.YtgkoljphndgoeaaGreatDoorTopD2
import Derived.Test.YtgkoljphndgoeaaGreatDoorMfz
namespace Go.Proofs.YtgkoljphndgoeaaGreatDoor
open Go.RowKit Go.Great Tm
set_option maxRecDepth 100000 in
set_option maxHeartbeats 8000000 in
theorem drawMatchFree {a : Option Addr} {len cap : Nat} {zs : List Int} {w : World} (h : IsRow w a len cap zs) :
  Calls Tryz.prog 17 #[.slice a len cap] w fun e w' => ∃ s t y : ByteArray, s.size ≤ 100000 ∧ t.size ≤ 100000 ∧ y.size ≤ 730 ∧ e = .returned (.tuple #[.string s, .string t, .string y]) ∧ Below w.heap.size w w' := by
 have HO := Lib.hid (open_any h)
 clear h
 go_enter Tryz.func17, Tryz.ntmps17
 go_wp2_with fail
 refine HO.out.mono ?_
 rintro e w1 ⟨rfl, hr, hb⟩
 have HR1 := Lib.hid hr
 have HW1 := Lib.hid hb
 clear hr hb HO
 have C := Lib.hid (pick_any 2 HR1.out (by omega) (by omega) (by omega))
 go_wp2_with fail
 refine C.out.mono ?_
 rintro e w2 ⟨k, k0, k1, rfl, hr, hk⟩
 have HR2 := Lib.hid hr
 have HK2 := Lib.hid hk
 clear hr hk C
 have ew : IntKind.i64.wrap (1 + k) = 1 + k := IntWalk.i64_in _ (by omega)
 have HC := Lib.hid (dP_any ⟨#[120, 121, 122]⟩ (by decide) (by decide) false (1 + k) (by omega) (by omega) HR2.out (by omega))
 go_wp2_with fail
 refine HC.out.mono ?_
 rintro e w3 ⟨x, q, x1, x2, hq, rfl, hr, hk⟩
 have HR3 := Lib.hid hr
 have HK3 := Lib.hid (HK2.out.trans hk)
 clear hr hk HC
 have HC := Lib.hid (bad3 x x1 (by omega) HR3.out (by omega))
 go_wp2_with fail
 refine HC.out.mono ?_
 rintro e w4 ⟨s, q4, s1, s2, hq4, rfl, hr, hk⟩
 have HR4 := Lib.hid hr
 have HK4 := Lib.hid (HK3.out.trans hk)
 clear hr hk HC
 have C := Lib.hid (pick_any 2 HR4.out (by omega) (by omega) (by omega))
 go_wp2_with fail
 refine C.out.mono ?_
 rintro e w5 ⟨j, j0, j1, rfl, hr, hk⟩
 have HR5 := Lib.hid hr
 have HK5 := Lib.hid (HK4.out.trans hk)
 clear hr hk C
 have ew2 : IntKind.i64.wrap (1 + j) = 1 + j := IntWalk.i64_in _ (by omega)
 have HC := Lib.hid (dP_any ⟨#[120, 121, 122]⟩ (by decide) (by decide) false (1 + j) (by omega) (by omega) HR5.out (by omega))
 go_wp2_with fail
 refine HC.out.mono ?_
 rintro e w6 ⟨y, q6, y1, y2, hq6, rfl, hr, hk⟩
 have HR6 := Lib.hid hr
 have HK6 := Lib.hid (HK5.out.trans hk)
 clear hr hk HC
 have HC := Lib.hid (bad3 y y1 (by omega) HR6.out (by omega))
 go_wp2_with fail
 refine HC.out.mono ?_
 rintro e w7 ⟨t, q7, t1, t2, hq7, rfl, hr, hk⟩
 have HR7 := Lib.hid hr
 have HK7 := Lib.hid (HK6.out.trans hk)
 clear hr hk HC
 have C := Lib.hid (pick_any 3 HR7.out (by omega) (by omega) (by omega))
 go_wp2_with fail
 refine C.out.mono ?_
 rintro e w8 ⟨m, m0, m1, rfl, hr, hk⟩
 have HR8 := Lib.hid hr
 have HK8 := Lib.hid (HK7.out.trans hk)
 clear hr hk C
 have HC := Lib.hid (open6_any HR8.out (by omega))
 by_cases e0 : m = 0
 ·subst e0
  go_wp2_with fail
  refine HC.out.mono ?_
  rintro e w9 ⟨z, q9, z1, z2, hq9, rfl, hr, hk⟩
  have HW9 := Lib.hid (HW1.out.trans ((HK8.out.trans hk).below (Nat.le_refl _) HW1.out.size))
  clear hr hk HC
  go_wp2_with fail
  refine bodyPost_ret (v := .tuple #[.string s, .string s, .string z]) (by simp [results, Tryz.results17, go_sem]) rfl ?_
  exact ⟨s, s, z, by omega, by omega, by omega, rfl, HW9.out⟩
 ·have n0 : (m == 0) = false := by simpa using e0
  go_wp2_with fail
  refine HC.out.mono ?_
  rintro e w9 ⟨z, q9, z1, z2, hq9, rfl, hr, hk⟩
  have HW9 := Lib.hid (HW1.out.trans ((HK8.out.trans hk).below (Nat.le_refl _) HW1.out.size))
  clear hr hk HC
  go_wp2_with fail
  refine bodyPost_ret (v := .tuple #[.string s, .string t, .string z]) (by simp [results, Tryz.results17, go_sem]) rfl ?_
  exact ⟨s, t, z, by omega, by omega, by omega, rfl, HW9.out⟩
end Go.Proofs.YtgkoljphndgoeaaGreatDoor
