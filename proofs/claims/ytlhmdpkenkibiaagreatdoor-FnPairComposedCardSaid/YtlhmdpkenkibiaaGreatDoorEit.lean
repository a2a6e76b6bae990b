import Derived.Test.YtlhmdpkenkibiaaGreatDoorTopD3
import Derived.Test.YtlhmdpkenkibiaaGreatDoorTopD2
import Derived.Test.YtlhmdpkenkibiaaGreatDoorPp0
namespace Go.Proofs.YtlhmdpkenkibiaaGreatDoor
open Go.RowKit Go.Great Tm
theorem pp_any3 (r s t : ByteArray) (hm : r.size ≤ maxLen) : ∃ x : ByteArray, ∃ b : Bool, (b = true → Rel729 x) ∧ ∀ w, Calls Tryz.prog 58 #[.string r, .string s, .string t] w fun e w' => e = .returned (.tuple #[.string x, .bool b]) ∧ Below w.heap.size w w' := by
 obtain ⟨b, hb, hc⟩ := ready_any s t r hm
 cases b with
 | true =>
  obtain ⟨⟨⟨p, hp, hs⟩, hl⟩, ⟨⟨q, hq, ht⟩, hn⟩, hr⟩ := hb.1 rfl
  obtain rfl := bs_ofP hs
  obtain rfl := bs_ofP ht
  have lp : p.ser.length ≤ 200 := by rwa [bs_size] at hl
  have lq : q.ser.length ≤ 200 := by rwa [bs_size] at hn
  exact ⟨_, true, fun _ => rel729_bs _, fun w => specPp_yes p q r w hp lp hq lq hr hc⟩
 | false => exact ⟨_, false, fun h => by (cases h), fun w => specPp_no r s t w hc⟩
theorem pf_any3 (s t r : ByteArray) (hm : r.size ≤ maxLen) : ∃ x : ByteArray, ∃ b : Bool, (b = true → Rel729 x) ∧ ∀ w, Calls Tryz.prog 30 #[.string s, .string t, .string r] w fun e w' => e = .returned (.tuple #[.string x, .bool b]) ∧ Below w.heap.size w w' := by
 obtain ⟨x, b, _, ⟨h1, _, _⟩, c, _⟩ := pf_any2 s t r hm
 exact ⟨x, b, h1, c⟩
def eqTm : Tm := .bin 38 (.bin 61 (.leaf 120) (.leaf 88)) (.bin 38 (.bin 61 (.leaf 121) (.leaf 89)) (.bin 61 (.leaf 122) (.leaf 90)))
theorem eqTm_ok : Ok true true eqTm := ⟨true, true, rfl, ⟨false, false, rfl, rfl, rfl⟩, true, true, rfl, ⟨false, false, rfl, rfl, rfl⟩, ⟨false, false, rfl, rfl, rfl⟩⟩
def eqTx : ByteArray := ⟨#[38, 61, 120, 88, 38, 61, 121, 89, 61, 122, 90]⟩
theorem and_size9 (p q : List UInt8) : (bs (tbn 729 (fun i => hs p i && hs q i))).size = 729 := by rw [bs_size]; exact tbn_length 729 _
theorem or_size9 (p q : List UInt8) : (bs (tbn 729 (fun i => hs p i || hs q i))).size = 729 := by rw [bs_size]; exact tbn_length 729 _
theorem max730 {x : ByteArray} (h : x.size = 729) : x.size ≤ maxLen := by rw [h]; decide
def CasPost (a p : Nat) (w : World) (e : Ending) (w' : World) : Prop := ∃ (x s t y : ByteArray) (q : Nat), x.size ≤ 730 ∧ s.size ≤ 100000 ∧ t.size ≤ 100000 ∧ y.size ≤ 730 ∧ q ≤ p + 3000 ∧ e = .returned (.tuple #[.string x, .string s, .string t, .string y]) ∧ Rd a q w' ∧ Kp a w w'
set_option maxRecDepth 100000 in
set_option maxHeartbeats 16000000 in
theorem case8 {a p : Nat} {w : World} (hr : Rd a p w) (hp : p ≤ 100000) :
  Calls Tryz.prog 99 #[.pointer (some ⟨a, 0, none⟩)] w (CasPost a p w) := by
 have HC := Lib.hid (some6 hr (by omega))
 clear hr
 go_enter Tryz.func99, Tryz.ntmps99
 go_wp2_with fail
 refine HC.out.mono ?_
 rintro e w1 ⟨x, q1, _, _, hq1, hv1, rfl, hr, hk⟩
 have HR1 := Lib.hid hr
 have HK1 := Lib.hid hk
 have X := Lib.hid hv1.size
 clear hr hk HC hv1
 have C := Lib.hid (pick_any 2 HR1.out (by omega) (by omega) (by omega))
 go_wp2_with fail
 refine C.out.mono ?_
 rintro e w2 ⟨k, k0, k1, rfl, hr, hk⟩
 have HR2 := Lib.hid hr
 have HK2 := Lib.hid (HK1.out.trans hk)
 clear hr hk C
 have HC := Lib.hid (pair7 (k == 0) HR2.out (by omega))
 go_wp2_with fail
 refine HC.out.mono ?_
 rintro e w3 ⟨s, t, q3, hs3, ht3, hq3, rfl, hr, hk⟩
 have HR3 := Lib.hid hr
 have HK3 := Lib.hid (HK2.out.trans hk)
 clear hr hk HC
 have HC := Lib.hid (some6 HR3.out (by omega))
 go_wp2_with fail
 refine HC.out.mono ?_
 rintro e w4 ⟨y, q4, _, _, hq4, hv4, rfl, hr, hk⟩
 have HR4 := Lib.hid hr
 have HK4 := Lib.hid (HK3.out.trans hk)
 have Y := Lib.hid hv4.size
 clear hr hk HC hv4
 have C := Lib.hid (pick_any 4 HR4.out (by omega) (by omega) (by omega))
 go_wp2_with fail
 refine C.out.mono ?_
 rintro e w5 ⟨m, m0, m1, rfl, hr, hk⟩
 have HR5 := Lib.hid hr
 have HK5 := Lib.hid (HK4.out.trans hk)
 clear hr hk C
 by_cases e0 : m = 0
 ·subst e0
  obtain ⟨z, b, hz, cz⟩ := pp_any3 x s t (max730 X.out)
  have CZ := fun w => Lib.hid (cz w)
  clear cz
  cases b with
  | true =>
   have HO := fun w => Lib.hid (specOr0 z y 729 w (hz rfl).size Y.out (by omega))
   have oz := Lib.hid (or_size9 z.data.toList y.data.toList)
   clear hz
   generalize bs (tbn 729 (fun i => hs z.data.toList i || hs y.data.toList i)) = o at *
   go_wp2_with fail
   refine (CZ _).out.mono ?_
   rintro e w6 ⟨rfl, hb⟩
   have HR6 := Lib.hid (HR5.out.kept hb)
   have HK6 := Lib.hid (HK5.out.next hb)
   clear hb
   go_wp2_with fail
   refine (HO _).out.mono ?_
   rintro e w7 ⟨rfl, hb⟩
   have HR7 := Lib.hid (HR6.out.kept hb)
   have HK7 := Lib.hid (HK6.out.next hb)
   clear hb HO CZ
   have HC := Lib.hid (bad6_any x X.out HR7.out (by omega))
   go_wp2_with fail
   refine HC.out.mono ?_
   rintro e w8 ⟨x', q8, x1', x2', hq8, rfl, hr, hk⟩
   have HR8 := Lib.hid hr
   have HK8 := Lib.hid (HK7.out.trans hk)
   clear hr hk HC
   have HC := Lib.hid (bad3 s (by omega) (by omega) HR8.out (by omega))
   go_wp2_with fail
   refine HC.out.mono ?_
   rintro e w9 ⟨s', q9, s1', s2', hq9, rfl, hr, hk⟩
   have HR9 := Lib.hid hr
   have HK9 := Lib.hid (HK8.out.trans hk)
   clear hr hk HC
   have HC := Lib.hid (bad3 t (by omega) (by omega) HR9.out (by omega))
   go_wp2_with fail
   refine HC.out.mono ?_
   rintro e w10 ⟨t', q10, t1', t2', hq10, rfl, hr, hk⟩
   have HR10 := Lib.hid hr
   have HK10 := Lib.hid (HK9.out.trans hk)
   clear hr hk HC
   have HC := Lib.hid (bad6_any o oz.out HR10.out (by omega))
   go_wp2_with fail
   refine HC.out.mono ?_
   rintro e w11 ⟨y', q11, y1', y2', hq11, rfl, hr, hk⟩
   have HR11 := Lib.hid hr
   have HK11 := Lib.hid (HK10.out.trans hk)
   clear hr hk HC
   go_wp2_with fail
   refine bodyPost_ret (v := .tuple #[.string x', .string s', .string t', .string y']) (by simp [results, Tryz.results99, go_sem]) rfl ?_
   exact ⟨x', s', t', y', q11, by omega, by omega, by omega, by omega, by omega, rfl, HR11.out, HK11.out⟩
  | false =>
   clear hz
   go_wp2_with fail
   refine (CZ _).out.mono ?_
   rintro e w7 ⟨rfl, hb⟩
   have HR7 := Lib.hid (HR5.out.kept hb)
   have HK7 := Lib.hid (HK5.out.next hb)
   clear hb CZ
   have HC := Lib.hid (bad6_any x X.out HR7.out (by omega))
   go_wp2_with fail
   refine HC.out.mono ?_
   rintro e w8 ⟨x', q8, x1', x2', hq8, rfl, hr, hk⟩
   have HR8 := Lib.hid hr
   have HK8 := Lib.hid (HK7.out.trans hk)
   clear hr hk HC
   have HC := Lib.hid (bad3 s (by omega) (by omega) HR8.out (by omega))
   go_wp2_with fail
   refine HC.out.mono ?_
   rintro e w9 ⟨s', q9, s1', s2', hq9, rfl, hr, hk⟩
   have HR9 := Lib.hid hr
   have HK9 := Lib.hid (HK8.out.trans hk)
   clear hr hk HC
   have HC := Lib.hid (bad3 t (by omega) (by omega) HR9.out (by omega))
   go_wp2_with fail
   refine HC.out.mono ?_
   rintro e w10 ⟨t', q10, t1', t2', hq10, rfl, hr, hk⟩
   have HR10 := Lib.hid hr
   have HK10 := Lib.hid (HK9.out.trans hk)
   clear hr hk HC
   have HC := Lib.hid (bad6_any y Y.out HR10.out (by omega))
   go_wp2_with fail
   refine HC.out.mono ?_
   rintro e w11 ⟨y', q11, y1', y2', hq11, rfl, hr, hk⟩
   have HR11 := Lib.hid hr
   have HK11 := Lib.hid (HK10.out.trans hk)
   clear hr hk HC
   go_wp2_with fail
   refine bodyPost_ret (v := .tuple #[.string x', .string s', .string t', .string y']) (by simp [results, Tryz.results99, go_sem]) rfl ?_
   exact ⟨x', s', t', y', q11, by omega, by omega, by omega, by omega, by omega, rfl, HR11.out, HK11.out⟩
 have n0 : (m == 0) = false := by simpa using e0
 by_cases e1 : m = 1
 ·subst e1
  obtain ⟨z, b, hz, cz⟩ := pf_any3 s t y (max730 Y.out)
  have CZ := fun w => Lib.hid (cz w)
  clear cz
  cases b with
  | true =>
   have HO := fun w => Lib.hid (specAnd0 z x 729 w (hz rfl).size X.out (by omega))
   have oz := Lib.hid (and_size9 z.data.toList x.data.toList)
   clear hz
   generalize bs (tbn 729 (fun i => hs z.data.toList i && hs x.data.toList i)) = o at *
   go_wp2_with fail
   refine (CZ _).out.mono ?_
   rintro e w6 ⟨rfl, hb⟩
   have HR6 := Lib.hid (HR5.out.kept hb)
   have HK6 := Lib.hid (HK5.out.next hb)
   clear hb
   go_wp2_with fail
   refine (HO _).out.mono ?_
   rintro e w7 ⟨rfl, hb⟩
   have HR7 := Lib.hid (HR6.out.kept hb)
   have HK7 := Lib.hid (HK6.out.next hb)
   clear hb HO CZ
   have HC := Lib.hid (bad6_any o oz.out HR7.out (by omega))
   go_wp2_with fail
   refine HC.out.mono ?_
   rintro e w8 ⟨x', q8, x1', x2', hq8, rfl, hr, hk⟩
   have HR8 := Lib.hid hr
   have HK8 := Lib.hid (HK7.out.trans hk)
   clear hr hk HC
   have HC := Lib.hid (bad3 s (by omega) (by omega) HR8.out (by omega))
   go_wp2_with fail
   refine HC.out.mono ?_
   rintro e w9 ⟨s', q9, s1', s2', hq9, rfl, hr, hk⟩
   have HR9 := Lib.hid hr
   have HK9 := Lib.hid (HK8.out.trans hk)
   clear hr hk HC
   have HC := Lib.hid (bad3 t (by omega) (by omega) HR9.out (by omega))
   go_wp2_with fail
   refine HC.out.mono ?_
   rintro e w10 ⟨t', q10, t1', t2', hq10, rfl, hr, hk⟩
   have HR10 := Lib.hid hr
   have HK10 := Lib.hid (HK9.out.trans hk)
   clear hr hk HC
   have HC := Lib.hid (bad6_any y Y.out HR10.out (by omega))
   go_wp2_with fail
   refine HC.out.mono ?_
   rintro e w11 ⟨y', q11, y1', y2', hq11, rfl, hr, hk⟩
   have HR11 := Lib.hid hr
   have HK11 := Lib.hid (HK10.out.trans hk)
   clear hr hk HC
   go_wp2_with fail
   refine bodyPost_ret (v := .tuple #[.string x', .string s', .string t', .string y']) (by simp [results, Tryz.results99, go_sem]) rfl ?_
   exact ⟨x', s', t', y', q11, by omega, by omega, by omega, by omega, by omega, rfl, HR11.out, HK11.out⟩
  | false =>
   clear hz
   go_wp2_with fail
   refine (CZ _).out.mono ?_
   rintro e w7 ⟨rfl, hb⟩
   have HR7 := Lib.hid (HR5.out.kept hb)
   have HK7 := Lib.hid (HK5.out.next hb)
   clear hb CZ
   have HC := Lib.hid (bad6_any x X.out HR7.out (by omega))
   go_wp2_with fail
   refine HC.out.mono ?_
   rintro e w8 ⟨x', q8, x1', x2', hq8, rfl, hr, hk⟩
   have HR8 := Lib.hid hr
   have HK8 := Lib.hid (HK7.out.trans hk)
   clear hr hk HC
   have HC := Lib.hid (bad3 s (by omega) (by omega) HR8.out (by omega))
   go_wp2_with fail
   refine HC.out.mono ?_
   rintro e w9 ⟨s', q9, s1', s2', hq9, rfl, hr, hk⟩
   have HR9 := Lib.hid hr
   have HK9 := Lib.hid (HK8.out.trans hk)
   clear hr hk HC
   have HC := Lib.hid (bad3 t (by omega) (by omega) HR9.out (by omega))
   go_wp2_with fail
   refine HC.out.mono ?_
   rintro e w10 ⟨t', q10, t1', t2', hq10, rfl, hr, hk⟩
   have HR10 := Lib.hid hr
   have HK10 := Lib.hid (HK9.out.trans hk)
   clear hr hk HC
   have HC := Lib.hid (bad6_any y Y.out HR10.out (by omega))
   go_wp2_with fail
   refine HC.out.mono ?_
   rintro e w11 ⟨y', q11, y1', y2', hq11, rfl, hr, hk⟩
   have HR11 := Lib.hid hr
   have HK11 := Lib.hid (HK10.out.trans hk)
   clear hr hk HC
   go_wp2_with fail
   refine bodyPost_ret (v := .tuple #[.string x', .string s', .string t', .string y']) (by simp [results, Tryz.results99, go_sem]) rfl ?_
   exact ⟨x', s', t', y', q11, by omega, by omega, by omega, by omega, by omega, rfl, HR11.out, HK11.out⟩
 have n1 : (m == 1) = false := by simpa using e1
 by_cases e2 : m = 2
 ·subst e2
  have HO := fun w => Lib.hid (specOf6 eqTx eqTm w eqTm_ok rfl (by decide))
  have oz := Lib.hid (rel729_bs (wdR eqTm)).size
  go_wp2_with fail
  refine (HO _).out.mono ?_
  rintro e w6 ⟨rfl, hb⟩
  have HR6 := Lib.hid (HR5.out.kept hb)
  have HK6 := Lib.hid (HK5.out.next hb)
  clear hb
  go_wp2_with fail
  refine (specRText (wdR eqTm) _).mono ?_
  rintro e w7 ⟨rfl, hb⟩
  have HR7 := Lib.hid (HR6.out.kept hb)
  have HK7 := Lib.hid (HK6.out.next hb)
  clear hb HO
  generalize bs (relT (wdR eqTm)) = o at *
  have HC := Lib.hid (bad6_any o oz.out HR7.out (by omega))
  go_wp2_with fail
  refine HC.out.mono ?_
  rintro e w8 ⟨x', q8, x1', x2', hq8, rfl, hr, hk⟩
  have HR8 := Lib.hid hr
  have HK8 := Lib.hid (HK7.out.trans hk)
  clear hr hk HC
  have HC := Lib.hid (bad3 s (by omega) (by omega) HR8.out (by omega))
  go_wp2_with fail
  refine HC.out.mono ?_
  rintro e w9 ⟨s', q9, s1', s2', hq9, rfl, hr, hk⟩
  have HR9 := Lib.hid hr
  have HK9 := Lib.hid (HK8.out.trans hk)
  clear hr hk HC
  have HC := Lib.hid (bad3 t (by omega) (by omega) HR9.out (by omega))
  go_wp2_with fail
  refine HC.out.mono ?_
  rintro e w10 ⟨t', q10, t1', t2', hq10, rfl, hr, hk⟩
  have HR10 := Lib.hid hr
  have HK10 := Lib.hid (HK9.out.trans hk)
  clear hr hk HC
  have HC := Lib.hid (bad6_any o oz.out HR10.out (by omega))
  go_wp2_with fail
  refine HC.out.mono ?_
  rintro e w11 ⟨y', q11, y1', y2', hq11, rfl, hr, hk⟩
  have HR11 := Lib.hid hr
  have HK11 := Lib.hid (HK10.out.trans hk)
  clear hr hk HC
  go_wp2_with fail
  refine bodyPost_ret (v := .tuple #[.string x', .string s', .string t', .string y']) (by simp [results, Tryz.results99, go_sem]) rfl ?_
  exact ⟨x', s', t', y', q11, by omega, by omega, by omega, by omega, by omega, rfl, HR11.out, HK11.out⟩
 have n2 : (m == 2) = false := by simpa using e2
 have HR7 := HR5
 have HK7 := HK5
 clear HR5 HK5
 have HC := Lib.hid (bad6_any x X.out HR7.out (by omega))
 go_wp2_with fail
 refine HC.out.mono ?_
 rintro e w8 ⟨x', q8, x1', x2', hq8, rfl, hr, hk⟩
 have HR8 := Lib.hid hr
 have HK8 := Lib.hid (HK7.out.trans hk)
 clear hr hk HC
 have HC := Lib.hid (bad3 s (by omega) (by omega) HR8.out (by omega))
 go_wp2_with fail
 refine HC.out.mono ?_
 rintro e w9 ⟨s', q9, s1', s2', hq9, rfl, hr, hk⟩
 have HR9 := Lib.hid hr
 have HK9 := Lib.hid (HK8.out.trans hk)
 clear hr hk HC
 have HC := Lib.hid (bad3 t (by omega) (by omega) HR9.out (by omega))
 go_wp2_with fail
 refine HC.out.mono ?_
 rintro e w10 ⟨t', q10, t1', t2', hq10, rfl, hr, hk⟩
 have HR10 := Lib.hid hr
 have HK10 := Lib.hid (HK9.out.trans hk)
 clear hr hk HC
 have HC := Lib.hid (bad6_any y Y.out HR10.out (by omega))
 go_wp2_with fail
 refine HC.out.mono ?_
 rintro e w11 ⟨y', q11, y1', y2', hq11, rfl, hr, hk⟩
 have HR11 := Lib.hid hr
 have HK11 := Lib.hid (HK10.out.trans hk)
 clear hr hk HC
 go_wp2_with fail
 refine bodyPost_ret (v := .tuple #[.string x', .string s', .string t', .string y']) (by simp [results, Tryz.results99, go_sem]) rfl ?_
 exact ⟨x', s', t', y', q11, by omega, by omega, by omega, by omega, by omega, rfl, HR11.out, HK11.out⟩
set_option maxHeartbeats 4000000 in
theorem drawPairFree {a : Option Addr} {len cap : Nat} {zs : List Int} {w : World} (h : IsRow w a len cap zs) :
  Calls Tryz.prog 28 #[.slice a len cap] w fun e w' => ∃ s t y : ByteArray, s.size ≤ 100000 ∧ t.size ≤ 100000 ∧ y.size ≤ 730 ∧ e = .returned (.tuple #[.string s, .string t, .string y]) ∧ Below w.heap.size w w' := by
 have HO := Lib.hid (open_any h)
 clear h
 go_enter Tryz.func28, Tryz.ntmps28
 go_wp2_with fail
 refine HO.out.mono ?_
 rintro e w1 ⟨rfl, hr, hb⟩
 have HW1 := Lib.hid hb
 have HC := Lib.hid (case8 hr (by omega))
 clear hr hb
 go_wp2_with fail
 refine HC.out.mono ?_
 rintro e w2 ⟨x, s, t, y, q, lx, ls, lt, ly, hq, rfl, hr, hk⟩
 have HW2 := Lib.hid (HW1.out.trans (hk.below (Nat.le_refl _) HW1.out.size))
 clear hr hk
 go_wp2_with fail
 refine bodyPost_ret (v := .tuple #[.string s, .string t, .string y]) (by simp [results, Tryz.results28, go_sem]) rfl ?_
 exact ⟨s, t, y, ls, lt, ly, rfl, HW2.out⟩
set_option maxHeartbeats 4000000 in
theorem drawPairPost {a : Option Addr} {len cap : Nat} {zs : List Int} {w : World} (h : IsRow w a len cap zs) :
  Calls Tryz.prog 56 #[.slice a len cap] w fun e w' => ∃ x s t : ByteArray, x.size ≤ 730 ∧ s.size ≤ 100000 ∧ t.size ≤ 100000 ∧ e = .returned (.tuple #[.string x, .string s, .string t]) ∧ Below w.heap.size w w' := by
 have HO := Lib.hid (open_any h)
 clear h
 go_enter Tryz.func56, Tryz.ntmps56
 go_wp2_with fail
 refine HO.out.mono ?_
 rintro e w1 ⟨rfl, hr, hb⟩
 have HW1 := Lib.hid hb
 have HC := Lib.hid (case8 hr (by omega))
 clear hr hb
 go_wp2_with fail
 refine HC.out.mono ?_
 rintro e w2 ⟨x, s, t, y, q, lx, ls, lt, ly, hq, rfl, hr, hk⟩
 have HW2 := Lib.hid (HW1.out.trans (hk.below (Nat.le_refl _) HW1.out.size))
 clear hr hk
 go_wp2_with fail
 refine bodyPost_ret (v := .tuple #[.string x, .string s, .string t]) (by simp [results, Tryz.results56, go_sem]) rfl ?_
 exact ⟨x, s, t, lx, ls, lt, rfl, HW2.out⟩
set_option maxHeartbeats 4000000 in
theorem drawEndTogether {a : Option Addr} {len cap : Nat} {zs : List Int} {w : World} (h : IsRow w a len cap zs) :
  Calls Tryz.prog 43 #[.slice a len cap] w fun e w' => ∃ x s t : ByteArray, x.size ≤ 730 ∧ s.size ≤ 100000 ∧ t.size ≤ 100000 ∧ e = .returned (.tuple #[.string x, .string s, .string t]) ∧ Below w.heap.size w w' := by
 have HO := Lib.hid (drawPairPost h)
 clear h
 go_enter Tryz.func43, Tryz.ntmps43
 go_wp2_with fail
 refine HO.out.mono ?_
 rintro e w1 ⟨x, s, t, lx, ls, lt, rfl, hb⟩
 have HW1 := Lib.hid hb
 clear hb
 go_wp2_with fail
 refine bodyPost_ret (v := .tuple #[.string x, .string s, .string t]) (by simp [results, Tryz.results43, go_sem]) rfl ?_
 exact ⟨x, s, t, lx, ls, lt, rfl, HW1.out⟩
end Go.Proofs.YtlhmdpkenkibiaaGreatDoor
