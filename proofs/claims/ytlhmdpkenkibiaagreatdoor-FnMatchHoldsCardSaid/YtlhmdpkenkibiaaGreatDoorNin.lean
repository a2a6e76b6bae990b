import Derived.Test.YtlhmdpkenkibiaaGreatDoorTopD3
import Derived.Test.YtlhmdpkenkibiaaGreatDoorTopD2
import Derived.Test.YtlhmdpkenkibiaaGreatDoorMfz
namespace Go.Proofs.YtlhmdpkenkibiaaGreatDoor
open Go.RowKit Go.Great Tm
theorem rel_tbn (G : Nat → Bool) : Rel729 (bs (tbn 729 G)) := by
 unfold Rel729
 rw [show (bs (tbn 729 G)).data.toList = tbn 729 G by simp [bs]]
 exact bits_tbn 729 G
set_option maxRecDepth 100000 in
set_option maxHeartbeats 8000000 in
theorem drawMatchFree {a : Option Addr} {len cap : Nat} {zs : List Int} {w : World} (h : IsRow w a len cap zs) :
  Calls Tryz.prog 110 #[.slice a len cap] w fun e w' => ∃ s t y : ByteArray, s.size ≤ 100000 ∧ t.size ≤ 100000 ∧ y.size ≤ 730 ∧ e = .returned (.tuple #[.string s, .string t, .string y]) ∧ Below w.heap.size w w' := by
 have HO := Lib.hid (open_any h)
 clear h
 go_enter Tryz.func110, Tryz.ntmps110
 go_wp2_with fail
 refine HO.out.mono ?_
 rintro e w1 ⟨rfl, hr, hb⟩
 have HR1 := Lib.hid hr
 have HW1 := Lib.hid hb
 clear hr hb HO
 have C := Lib.hid (pick_any 2 HR1.out (by omega) (by omega) (by omega))
 go_wp2_with fail
 refine C.out.mono ?_
 rintro e w2 ⟨k, k0, k1, rfl, hr, hk⟩
 have HR2 := Lib.hid hr
 have HK2 := Lib.hid hk
 clear hr hk C
 have ew : IntKind.i64.wrap (1 + k) = 1 + k := IntWalk.i64_in _ (by omega)
 have HC := Lib.hid (dP_any ⟨#[120, 121, 122]⟩ (by decide) (by decide) false (1 + k) (by omega) (by omega) HR2.out (by omega))
 go_wp2_with fail
 refine HC.out.mono ?_
 rintro e w3 ⟨x, q, x1, x2, hq, rfl, hr, hk⟩
 have HR3 := Lib.hid hr
 have HK3 := Lib.hid (HK2.out.trans hk)
 clear hr hk HC
 have HC := Lib.hid (bad3 x x1 (by omega) HR3.out (by omega))
 go_wp2_with fail
 refine HC.out.mono ?_
 rintro e w4 ⟨s, q4, s1, s2, hq4, rfl, hr, hk⟩
 have HR4 := Lib.hid hr
 have HK4 := Lib.hid (HK3.out.trans hk)
 clear hr hk HC
 have C := Lib.hid (pick_any 2 HR4.out (by omega) (by omega) (by omega))
 go_wp2_with fail
 refine C.out.mono ?_
 rintro e w5 ⟨j, j0, j1, rfl, hr, hk⟩
 have HR5 := Lib.hid hr
 have HK5 := Lib.hid (HK4.out.trans hk)
 clear hr hk C
 have ew2 : IntKind.i64.wrap (1 + j) = 1 + j := IntWalk.i64_in _ (by omega)
 have HC := Lib.hid (dP_any ⟨#[120, 121, 122]⟩ (by decide) (by decide) false (1 + j) (by omega) (by omega) HR5.out (by omega))
 go_wp2_with fail
 refine HC.out.mono ?_
 rintro e w6 ⟨y, q6, y1, y2, hq6, rfl, hr, hk⟩
 have HR6 := Lib.hid hr
 have HK6 := Lib.hid (HK5.out.trans hk)
 clear hr hk HC
 have HC := Lib.hid (bad3 y y1 (by omega) HR6.out (by omega))
 go_wp2_with fail
 refine HC.out.mono ?_
 rintro e w7 ⟨t, q7, t1, t2, hq7, rfl, hr, hk⟩
 have HR7 := Lib.hid hr
 have HK7 := Lib.hid (HK6.out.trans hk)
 clear hr hk HC
 have C := Lib.hid (pick_any 3 HR7.out (by omega) (by omega) (by omega))
 go_wp2_with fail
 refine C.out.mono ?_
 rintro e w8 ⟨m, m0, m1, rfl, hr, hk⟩
 have HR8 := Lib.hid hr
 have HK8 := Lib.hid (HK7.out.trans hk)
 clear hr hk C
 have HC := Lib.hid (open6_any HR8.out (by omega))
 by_cases e0 : m = 0
 ·subst e0
  go_wp2_with fail
  refine HC.out.mono ?_
  rintro e w9 ⟨z, q9, z1, z2, hq9, rfl, hr, hk⟩
  have HW9 := Lib.hid (HW1.out.trans ((HK8.out.trans hk).below (Nat.le_refl _) HW1.out.size))
  clear hr hk HC
  go_wp2_with fail
  refine bodyPost_ret (v := .tuple #[.string s, .string s, .string z]) (by simp [results, Tryz.results110, go_sem]) rfl ?_
  exact ⟨s, s, z, by omega, by omega, by omega, rfl, HW9.out⟩
 ·have n0 : (m == 0) = false := by simpa using e0
  go_wp2_with fail
  refine HC.out.mono ?_
  rintro e w9 ⟨z, q9, z1, z2, hq9, rfl, hr, hk⟩
  have HW9 := Lib.hid (HW1.out.trans ((HK8.out.trans hk).below (Nat.le_refl _) HW1.out.size))
  clear hr hk HC
  go_wp2_with fail
  refine bodyPost_ret (v := .tuple #[.string s, .string t, .string z]) (by simp [results, Tryz.results110, go_sem]) rfl ?_
  exact ⟨s, t, z, by omega, by omega, by omega, rfl, HW9.out⟩
theorem mf_any3 (s t r : ByteArray) (hm : r.size ≤ maxLen) : ∃ x : ByteArray, ∃ b : Bool, (b = true → Rel729 x) ∧ ∀ w, Calls Tryz.prog 65 #[.string s, .string t, .string r] w fun e w' => e = .returned (.tuple #[.string x, .bool b]) ∧ Below w.heap.size w w' := by
 obtain ⟨x, b, _, ⟨h1, _, _⟩, c, _⟩ := mf_any2 s t r hm
 exact ⟨x, b, h1, c⟩
set_option maxRecDepth 100000 in
set_option maxHeartbeats 8000000 in
theorem drawMatchHolds {a : Option Addr} {len cap : Nat} {zs : List Int} {w : World} (h : IsRow w a len cap zs) :
  Calls Tryz.prog 39 #[.slice a len cap] w fun e w' => ∃ x s t y : ByteArray, Rel729 x ∧ s.size ≤ 100000 ∧ t.size ≤ 100000 ∧ y.size ≤ 730 ∧ e = .returned (.tuple #[.string x, .string s, .string t, .string y]) ∧ Below w.heap.size w w' := by
 have HO := Lib.hid (open_any h)
 have HH := Lib.hid h
 clear h
 go_enter Tryz.func39, Tryz.ntmps39
 go_wp2_with fail
 refine HO.out.mono ?_
 rintro e w1 ⟨rfl, hr, hb⟩
 have HD := Lib.hid (drawMatchFree (HH.out.kept6 hb))
 have HR1 := Lib.hid hr
 have HW1 := Lib.hid hb
 clear hr hb HO
 go_wp2_with fail
 refine HD.out.mono ?_
 rintro e w2 ⟨s, t, y, hs3, ht3, hy, rfl, hb⟩
 have HR2 := Lib.hid (HR1.out.kept hb)
 have HW2 := Lib.hid (bnext HW1.out hb)
 clear hb HD
 have HC := Lib.hid (some6 HR2.out (by omega))
 go_wp2_with fail
 refine HC.out.mono ?_
 rintro e w3 ⟨x, q3, _, _, hq3, hv3, rfl, hr, hk⟩
 have HR3 := Lib.hid hr
 have HW3 := Lib.hid (HW2.out.trans (hk.below (Nat.le_refl _) HW2.out.size))
 have X := Lib.hid hv3
 clear hr hk HC hv3
 obtain ⟨z, b, hz, cz⟩ := mf_any3 s t y (by unfold maxLen; omega)
 have CZ := fun w => Lib.hid (cz w)
 clear cz
 cases b with
 | false =>
  clear hz
  go_wp2_with fail
  refine (CZ _).out.mono ?_
  rintro e w4 ⟨rfl, hb⟩
  have HW4 := Lib.hid (bnext HW3.out hb)
  clear hb
  go_wp2_with fail
  refine bodyPost_ret (v := .tuple #[.string x, .string s, .string t, .string y]) (by simp [results, Tryz.results39, go_sem]) rfl ?_
  exact ⟨x, s, t, y, X.out, hs3, ht3, hy, rfl, HW4.out⟩
 | true =>
  have HA := fun w => Lib.hid (specAnd0 z x 729 w (hz rfl).size X.out.size (by omega))
  have HV : Hid (Rel729 (bs (tbn 729 (fun i => hs z.data.toList i && hs x.data.toList i)))) := rel_tbn _
  clear hz
  generalize bs (tbn 729 (fun i => hs z.data.toList i && hs x.data.toList i)) = o at *
  go_wp2_with fail
  refine (CZ _).out.mono ?_
  rintro e w4 ⟨rfl, hb⟩
  have HW4 := Lib.hid (bnext HW3.out hb)
  have HR4 := Lib.hid (HR3.out.kept hb)
  clear hb
  have C := Lib.hid (pick_any 2 HR4.out (by omega) (by omega) (by omega))
  go_wp2_with fail
  refine C.out.mono ?_
  rintro e w5 ⟨m, m0, m1, rfl, hr, hk⟩
  have HW5 := Lib.hid (HW4.out.trans (hk.below (Nat.le_refl _) HW4.out.size))
  clear hr hk C
  by_cases e0 : m = 0
  ·subst e0
   go_wp2_with fail
   refine (HA _).out.mono ?_
   rintro e w6 ⟨rfl, hb⟩
   have HW6 := Lib.hid (bnext HW5.out hb)
   clear hb
   go_wp2_with fail
   refine bodyPost_ret (v := .tuple #[.string o, .string s, .string t, .string y]) (by simp [results, Tryz.results39, go_sem]) rfl ?_
   exact ⟨o, s, t, y, HV.out, hs3, ht3, hy, rfl, HW6.out⟩
  ·have n0 : (m == 0) = false := by simpa using e0
   go_wp2_with fail
   refine bodyPost_ret (v := .tuple #[.string x, .string s, .string t, .string y]) (by simp [results, Tryz.results39, go_sem]) rfl ?_
   exact ⟨x, s, t, y, X.out, hs3, ht3, hy, rfl, HW5.out⟩
end Go.Proofs.YtlhmdpkenkibiaaGreatDoor
