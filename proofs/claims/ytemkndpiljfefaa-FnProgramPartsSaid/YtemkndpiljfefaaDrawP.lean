/-
  Drawing a program: l3Set, l3Draw, l3Some, l3Bad, l3Open; whatever it is, it is a text of some bytes.
-/
import Derived.Test.YtemkndpiljfefaaDrawU
import Derived.Deep.RegionHeld3
namespace Go.Proofs.Ytemkndpiljfefaa
open Go.RowKit

theorem szs {x : Nat} (h : x ≤ 100000) : (¬ 9223372036854775807 < 1 + x) := by omega
theorem szt {x y z : Nat} (h1 : x ≤ 100000) (h2 : y ≤ 100000) (h3 : z ≤ 100000) : (¬ 9223372036854775807 < 1 + x) ∧ (¬ 9223372036854775807 < 1 + x + y) ∧ (¬ 9223372036854775807 < 1 + x + y + z) := by omega
theorem one_size (c : UInt8) : (⟨#[c]⟩ : ByteArray).size = 1 := rfl

set_option maxRecDepth 100000 in
set_option maxHeartbeats 8000000 in
/-- An assignment. -/
theorem dS_any {a p : Nat} (N : ByteArray) (hN : 1 ≤ N.size) (hN2 : N.size ≤ 6) {w : World} (hr : Rd a p w) (hp : p ≤ 700000) :
    Calls Try.prog 69 #[.pointer (some ⟨a, 0, none⟩), .string N] w (DrP a p 1 5 9 w) := by
  have HR := Lib.hid hr
  have hlt := hr.lt
  clear hr
  have C := Lib.hid (pick_any (N.size : Int) HR.out (by omega) (by omega) (by omega))
  go_enter Try.func69, Try.ntmps69
  go_wp2_with fail
  refine C.out.mono ?_
  rintro e w1 ⟨k, k0, k1, rfl, hr, hk⟩
  have HR1 := Lib.hid hr
  have HK1 := Lib.hid hk
  clear hr hk C
  obtain ⟨k, rfl⟩ := Int.eq_ofNat_of_zero_le k0
  have h1 : (k : Int) < (N.size : Int) := by omega
  have h2 : (k : Int) + 1 ≤ (N.size : Int) := by omega
  have hz : (N.extract k (k + 1)).size = 1 := by simp [ByteArray.size_extract]; omega
  have HZ := Lib.hid hz
  clear hz
  have C := Lib.hid (pick_any 4 HR1.out (by omega) (by omega) (by omega))
  go_wp2_with fail
  refine C.out.mono ?_
  rintro e w2 ⟨j, j0, j1, rfl, hr, hk⟩
  have HR2 := Lib.hid hr
  have HK2 := Lib.hid (HK1.out.trans hk)
  clear hr hk C
  generalize N.extract k (k + 1) = v at *
  have n1 : ¬ 9223372036854775807 < 1 + v.size := by rw [HZ.out]; omega
  by_cases e0 : j = 0
  · subst e0
    have hneL : w2.heap.size ≠ a := by have := HK2.out.size; omega
    have HL := Lib.hid (Blk.new w2 #[.string (⟨#[43]⟩), .string (⟨#[45]⟩)] 9)
    have hax := (Below.refl _ w2).alloc (Nat.le_refl _) (.cells #[.string (⟨#[43]⟩), .string (⟨#[45]⟩)] 9)
    have HRx := Lib.hid (HR2.out.kept hax)
    have HKx := Lib.hid (HK2.out.next hax)
    clear hax
    have HQ : Hid (∀ i, i < 2 → ∃ s, (#[.string (⟨#[43]⟩), .string (⟨#[45]⟩)] : Array Value)[i]? = some (.string s) ∧ s.size = 1) := fun i hi => by
      have hi : i = 0 ∨ i = 1 := by omega
      rcases hi with rfl | rfl <;> exact ⟨_, rfl, by decide⟩
    go_wp2_with fail
    refine (of_any 2 2 (fun s => s.size = 1) HRx.out (by omega) HL.out hneL (by omega) (by omega) HQ.out).mono ?_
    rintro e w3 ⟨o, ho, rfl, hr, hk⟩
    have HR3 := Lib.hid hr
    have HK3 := Lib.hid (HKx.out.trans hk)
    clear hr hk HL HQ HRx HKx
    have n2 : ¬ 9223372036854775807 < 1 + v.size + o.size := by rw [HZ.out, ho]; omega
    have n3 : ¬ 9223372036854775807 < 1 + v.size + o.size + v.size := by rw [HZ.out, ho]; omega
    have HO := Lib.hid ho
    clear ho
    have C := Lib.hid (pick_any 2 HR3.out (by omega) (by omega) (by omega))
    go_wp2_with fail
    refine C.out.mono ?_
    rintro e w4 ⟨i, i0, i1, rfl, hr, hk⟩
    have HR4 := Lib.hid hr
    have HK4 := Lib.hid (HK3.out.trans hk)
    clear hr hk C
    have ew : IntKind.i64.wrap (1 + i) = 1 + i := IntWalk.i64_in _ (by omega)
    have HD := Lib.hid (dec_one (1 + i) (by omega) (by omega) w4)
    go_wp2_with fail
    refine HD.out.mono ?_
    rintro e w5 ⟨s, hs, rfl, hb⟩
    have HR5 := Lib.hid (HR4.out.kept hb)
    have HK5 := Lib.hid (HK4.out.next hb)
    clear hb HD
    have n4 : ¬ 9223372036854775807 < 1 + v.size + o.size + v.size + s.size := by rw [HZ.out, HO.out, hs]; omega
    have hz : ((⟨#[97]⟩ : ByteArray) ++ v ++ o ++ v ++ s).size = 5 := by simp only [ByteArray.size_append, HZ.out, HO.out, hs, one_size]
    have HS := Lib.hid hz
    clear hz hs
    go_wp2_with fail
    go_ret
    exact ⟨(⟨#[97]⟩ : ByteArray) ++ v ++ o ++ v ++ s, _, by rw [HS.out]; omega, by rw [HS.out]; omega, by omega, rfl, HR5.out, HK5.out⟩
  have g0 : (j == 0) = false := by rw [beq_eq_false_iff_ne]; exact e0
  clear e0
  by_cases e1 : j = 1
  · subst e1
    have C := Lib.hid (pick_any 3 HR2.out (by omega) (by omega) (by omega))
    go_wp2_with fail
    refine C.out.mono ?_
    rintro e w4 ⟨i, i0, i1, rfl, hr, hk⟩
    have HR4 := Lib.hid hr
    have HK4 := Lib.hid (HK2.out.trans hk)
    clear hr hk C
    have HD := Lib.hid (dec_one i (by omega) (by omega) w4)
    go_wp2_with fail
    refine HD.out.mono ?_
    rintro e w5 ⟨s, hs, rfl, hb⟩
    have HR5 := Lib.hid (HR4.out.kept hb)
    have HK5 := Lib.hid (HK4.out.next hb)
    clear hb HD
    have n4 : ¬ 9223372036854775807 < 1 + v.size + s.size := by rw [HZ.out, hs]; omega
    have hz : ((⟨#[97]⟩ : ByteArray) ++ v ++ s).size = 3 := by simp only [ByteArray.size_append, HZ.out, hs, one_size]
    have HS := Lib.hid hz
    clear hz hs
    go_wp2_with fail
    go_ret
    exact ⟨(⟨#[97]⟩ : ByteArray) ++ v ++ s, _, by rw [HS.out]; omega, by rw [HS.out]; omega, by omega, rfl, HR5.out, HK5.out⟩
  have g1 : (j == 1) = false := by rw [beq_eq_false_iff_ne]; exact e1
  clear e1
  have HC := Lib.hid (dE_1 N hN hN2 HR2.out (by omega))
  go_wp2_with fail
  refine HC.out.mono ?_
  rintro e w3 ⟨x, q, x1, x2, hq, rfl, hr, hk⟩
  have HR3 := Lib.hid hr
  have HK3 := Lib.hid (HK2.out.trans hk)
  clear hr hk HC
  have n4 : ¬ 9223372036854775807 < 1 + v.size + x.size := by rw [HZ.out]; omega
  have hz : ((⟨#[97]⟩ : ByteArray) ++ v ++ x).size = 2 + x.size := by simp only [ByteArray.size_append, HZ.out, one_size]
  have HS := Lib.hid hz
  clear hz
  go_wp2_with fail
  go_ret
  exact ⟨(⟨#[97]⟩ : ByteArray) ++ v ++ x, _, by rw [HS.out]; omega, by rw [HS.out]; omega, by omega, rfl, HR3.out, HK3.out⟩

set_option maxRecDepth 100000 in
set_option maxHeartbeats 8000000 in
/-- A program of depth 0. -/
theorem dP_zero {a p : Nat} (N : ByteArray) (hN : 1 ≤ N.size) (hN2 : N.size ≤ 6) (d : Int) (b : Bool) (hd : d ≤ 0) {w : World} (hr : Rd a p w) (hp : p ≤ 600000) :
    Calls Try.prog 63 #[.pointer (some ⟨a, 0, none⟩), .int .i64 d, .bool b, .string N] w (DrP a p 1 5 11 w) := by
  have HR := Lib.hid hr
  clear hr
  have C := Lib.hid (pick_any 12 HR.out (by omega) (by omega) (by omega))
  go_enter Try.func63, Try.ntmps63
  go_wp2_with fail
  refine C.out.mono ?_
  rintro e w1 ⟨k, k0, k1, rfl, hr, hk⟩
  have HR1 := Lib.hid hr
  have HK1 := Lib.hid hk
  clear hr hk C
  have C := Lib.hid (pick_any 8 HR1.out (by omega) (by omega) (by omega))
  go_wp2_with fail
  refine C.out.mono ?_
  rintro e w2 ⟨j, j0, j1, rfl, hr, hk⟩
  have HR2 := Lib.hid hr
  have HK2 := Lib.hid (HK1.out.trans hk)
  clear hr hk C
  by_cases e0 : j = 0
  · subst e0
    go_wp2_with fail
    go_ret
    exact ⟨⟨#[115]⟩, _, by rw [one_size]; omega, by rw [one_size]; omega, by omega, rfl, HR2.out, HK2.out⟩
  · have g0 : (j == 0) = false := by rw [beq_eq_false_iff_ne]; exact e0
    clear e0
    have HC := Lib.hid (dS_any N hN hN2 HR2.out (by omega))
    go_wp2_with fail
    refine HC.out.mono ?_
    rintro e w3 ⟨x, q, x1, x2, hq, rfl, hr, hk⟩
    have HR3 := Lib.hid hr
    have HK3 := Lib.hid (HK2.out.trans hk)
    clear hr hk HC
    go_wp2_with fail
    go_ret
    exact ⟨x, q, x1, by omega, by omega, rfl, HR3.out, HK3.out⟩

set_option maxRecDepth 100000 in
set_option maxHeartbeats 16000000 in
/-- One depth more. -/
theorem dP_succ {a p : Nat} (N : ByteArray) (hN : 1 ≤ N.size) (hN2 : N.size ≤ 6) (d m : Int) (b : Bool) (hd : ¬ d ≤ 0) (hm : IntKind.i64.wrap (d - 1) = m) (hi c : Nat) (hh : hi ≤ 10000) (h5 : 5 ≤ hi) (h11 : 11 ≤ c) {w : World} (hr : Rd a p w) (hp : p + (2 * c + 37) ≤ 600000)
    (IH : ∀ (q : Nat) (w1 : World), q ≤ p + (c + 37) → Rd a q w1 → Calls Try.prog 63 #[.pointer (some ⟨a, 0, none⟩), .int .i64 m, .bool b, .string N] w1 (DrP a q 1 hi c w1)) :
    Calls Try.prog 63 #[.pointer (some ⟨a, 0, none⟩), .int .i64 d, .bool b, .string N] w (DrP a p 1 (2 * hi + 16) (2 * c + 37) w) := by
  have HR := Lib.hid hr
  have HI := Lib.hid IH
  clear hr IH
  have C := Lib.hid (pick_any 12 HR.out (by omega) (by omega) (by omega))
  go_enter Try.func63, Try.ntmps63
  go_wp2_with fail
  refine C.out.mono ?_
  rintro e w1 ⟨k, k0, k1, rfl, hr, hk⟩
  have HR1 := Lib.hid hr
  have HK1 := Lib.hid hk
  clear hr hk C
  by_cases h2 : k < 2
  · have C := Lib.hid (pick_any 8 HR1.out (by omega) (by omega) (by omega))
    go_wp2_with fail
    refine C.out.mono ?_
    rintro e w2 ⟨j, j0, j1, rfl, hr, hk⟩
    have HR2 := Lib.hid hr
    have HK2 := Lib.hid (HK1.out.trans hk)
    clear hr hk C
    by_cases e0 : j = 0
    · subst e0
      go_wp2_with fail
      go_ret
      exact ⟨⟨#[115]⟩, _, by rw [one_size]; omega, by rw [one_size]; omega, by omega, rfl, HR2.out, HK2.out⟩
    · have g0 : (j == 0) = false := by rw [beq_eq_false_iff_ne]; exact e0
      clear e0
      have HC := Lib.hid (dS_any N hN hN2 HR2.out (by omega))
      go_wp2_with fail
      refine HC.out.mono ?_
      rintro e w3 ⟨x, q, x1, x2, hq, rfl, hr, hk⟩
      have HR3 := Lib.hid hr
      have HK3 := Lib.hid (HK2.out.trans hk)
      clear hr hk HC
      go_wp2_with fail
      go_ret
      exact ⟨x, q, x1, by omega, by omega, rfl, HR3.out, HK3.out⟩
  by_cases h6 : k < 6
  · have HC := Lib.hid (HI.out (p + 1) w1 (by omega) HR1.out)
    go_wp2_with fail
    refine HC.out.mono ?_
    rintro e w2 ⟨x, q2, x1, x2, hq2, rfl, hr, hk⟩
    have HR2 := Lib.hid hr
    have HK2 := Lib.hid (HK1.out.trans hk)
    clear hr hk HC
    have HC := Lib.hid (HI.out (q2) w2 (by omega) HR2.out)
    go_wp2_with fail
    refine HC.out.mono ?_
    rintro e w3 ⟨y, q3, y1, y2, hq3, rfl, hr, hk⟩
    have HR3 := Lib.hid hr
    have HK3 := Lib.hid (HK2.out.trans hk)
    clear hr hk HC
    obtain ⟨m1, m2, m3⟩ := szt (by omega : x.size ≤ 100000) (by omega : y.size ≤ 100000) (Nat.zero_le _ : (0 : Nat) ≤ 100000)
    have hz : ((⟨#[59]⟩ : ByteArray) ++ x ++ y).size = 1 + x.size + y.size := by simp only [ByteArray.size_append, one_size]
    have HS := Lib.hid hz
    clear hz
    go_wp2_with fail
    go_ret
    exact ⟨(⟨#[59]⟩ : ByteArray) ++ x ++ y, _, by rw [HS.out]; omega, by rw [HS.out]; omega, by omega, rfl, HR3.out, HK3.out⟩
  by_cases h8 : k < 8
  · have HC := Lib.hid (dT_1 N hN hN2 HR1.out (by omega))
    go_wp2_with fail
    refine HC.out.mono ?_
    rintro e w2 ⟨t, q2, t1, t2, hq2, rfl, hr, hk⟩
    have HR2 := Lib.hid hr
    have HK2 := Lib.hid (HK1.out.trans hk)
    clear hr hk HC
    have HC := Lib.hid (HI.out (q2) w2 (by omega) HR2.out)
    go_wp2_with fail
    refine HC.out.mono ?_
    rintro e w3 ⟨x, q3, x1, x2, hq3, rfl, hr, hk⟩
    have HR3 := Lib.hid hr
    have HK3 := Lib.hid (HK2.out.trans hk)
    clear hr hk HC
    have HC := Lib.hid (HI.out (q3) w3 (by omega) HR3.out)
    go_wp2_with fail
    refine HC.out.mono ?_
    rintro e w4 ⟨y, q4, y1, y2, hq4, rfl, hr, hk⟩
    have HR4 := Lib.hid hr
    have HK4 := Lib.hid (HK3.out.trans hk)
    clear hr hk HC
    obtain ⟨m1, m2, m3⟩ := szt (by omega : t.size ≤ 100000) (by omega : x.size ≤ 100000) (by omega : y.size ≤ 100000)
    have hz : ((⟨#[63]⟩ : ByteArray) ++ t ++ x ++ y).size = 1 + t.size + x.size + y.size := by simp only [ByteArray.size_append, one_size]
    have HS := Lib.hid hz
    clear hz
    go_wp2_with fail
    go_ret
    exact ⟨(⟨#[63]⟩ : ByteArray) ++ t ++ x ++ y, _, by rw [HS.out]; omega, by rw [HS.out]; omega, by omega, rfl, HR4.out, HK4.out⟩
  by_cases h10 : k < 10
  · have HC := Lib.hid (dT_1 N hN hN2 HR1.out (by omega))
    go_wp2_with fail
    refine HC.out.mono ?_
    rintro e w2 ⟨t, q2, t1, t2, hq2, rfl, hr, hk⟩
    have HR2 := Lib.hid hr
    have HK2 := Lib.hid (HK1.out.trans hk)
    clear hr hk HC
    have HC := Lib.hid (HI.out (q2) w2 (by omega) HR2.out)
    go_wp2_with fail
    refine HC.out.mono ?_
    rintro e w3 ⟨x, q3, x1, x2, hq3, rfl, hr, hk⟩
    have HR3 := Lib.hid hr
    have HK3 := Lib.hid (HK2.out.trans hk)
    clear hr hk HC
    obtain ⟨m1, m2, m3⟩ := szt (by omega : t.size ≤ 100000) (by omega : x.size ≤ 100000) (Nat.zero_le _ : (0 : Nat) ≤ 100000)
    have hz : ((⟨#[64]⟩ : ByteArray) ++ t ++ x).size = 1 + t.size + x.size := by simp only [ByteArray.size_append, one_size]
    have HS := Lib.hid hz
    clear hz
    go_wp2_with fail
    go_ret
    exact ⟨(⟨#[64]⟩ : ByteArray) ++ t ++ x, _, by rw [HS.out]; omega, by rw [HS.out]; omega, by omega, rfl, HR3.out, HK3.out⟩
  cases b
  case true =>
    have HC := Lib.hid (dT_1 N hN hN2 HR1.out (by omega))
    go_wp2_with fail
    refine HC.out.mono ?_
    rintro e w2 ⟨t, q2, t1, t2, hq2, rfl, hr, hk⟩
    have HR2 := Lib.hid hr
    have HK2 := Lib.hid (HK1.out.trans hk)
    clear hr hk HC
    have HC := Lib.hid (HI.out (q2) w2 (by omega) HR2.out)
    go_wp2_with fail
    refine HC.out.mono ?_
    rintro e w3 ⟨x, q3, x1, x2, hq3, rfl, hr, hk⟩
    have HR3 := Lib.hid hr
    have HK3 := Lib.hid (HK2.out.trans hk)
    clear hr hk HC
    obtain ⟨m1, m2, m3⟩ := szt (by omega : t.size ≤ 100000) (by omega : x.size ≤ 100000) (Nat.zero_le _ : (0 : Nat) ≤ 100000)
    have hz : ((⟨#[64]⟩ : ByteArray) ++ t ++ x).size = 1 + t.size + x.size := by simp only [ByteArray.size_append, one_size]
    have HS := Lib.hid hz
    clear hz
    go_wp2_with fail
    go_ret
    exact ⟨(⟨#[64]⟩ : ByteArray) ++ t ++ x, _, by rw [HS.out]; omega, by rw [HS.out]; omega, by omega, rfl, HR3.out, HK3.out⟩
  case false =>
    by_cases h12 : k < 11
    · have HC := Lib.hid (HI.out (p + 1) w1 (by omega) HR1.out)
      go_wp2_with fail
      refine HC.out.mono ?_
      rintro e w2 ⟨x, q2, x1, x2, hq2, rfl, hr, hk⟩
      have HR2 := Lib.hid hr
      have HK2 := Lib.hid (HK1.out.trans hk)
      clear hr hk HC
      have HC := Lib.hid (HI.out (q2) w2 (by omega) HR2.out)
      go_wp2_with fail
      refine HC.out.mono ?_
      rintro e w3 ⟨y, q3, y1, y2, hq3, rfl, hr, hk⟩
      have HR3 := Lib.hid hr
      have HK3 := Lib.hid (HK2.out.trans hk)
      clear hr hk HC
      obtain ⟨m1, m2, m3⟩ := szt (by omega : x.size ≤ 100000) (by omega : y.size ≤ 100000) (Nat.zero_le _ : (0 : Nat) ≤ 100000)
      have hz : ((⟨#[47]⟩ : ByteArray) ++ x ++ y).size = 1 + x.size + y.size := by simp only [ByteArray.size_append, one_size]
      have HS := Lib.hid hz
      clear hz
      go_wp2_with fail
      go_ret
      exact ⟨(⟨#[47]⟩ : ByteArray) ++ x ++ y, _, by rw [HS.out]; omega, by rw [HS.out]; omega, by omega, rfl, HR3.out, HK3.out⟩
    · have HC := Lib.hid (dT_1 N hN hN2 HR1.out (by omega))
      go_wp2_with fail
      refine HC.out.mono ?_
      rintro e w2 ⟨t, q2, t1, t2, hq2, rfl, hr, hk⟩
      have HR2 := Lib.hid hr
      have HK2 := Lib.hid (HK1.out.trans hk)
      clear hr hk HC
      obtain ⟨m1, m2, m3⟩ := szt (by omega : t.size ≤ 100000) (Nat.zero_le _ : (0 : Nat) ≤ 100000) (Nat.zero_le _ : (0 : Nat) ≤ 100000)
      have hz : ((⟨#[126]⟩ : ByteArray) ++ t).size = 1 + t.size := by simp only [ByteArray.size_append, one_size]
      have HS := Lib.hid hz
      clear hz
      go_wp2_with fail
      go_ret
      exact ⟨(⟨#[126]⟩ : ByteArray) ++ t, _, by rw [HS.out]; omega, by rw [HS.out]; omega, by omega, rfl, HR2.out, HK2.out⟩

theorem dP_1 {a p : Nat} (N : ByteArray) (hN : 1 ≤ N.size) (hN2 : N.size ≤ 6) (b : Bool) {w : World} (hr : Rd a p w) (hp : p ≤ 500000) :
    Calls Try.prog 63 #[.pointer (some ⟨a, 0, none⟩), .int .i64 1, .bool b, .string N] w (DrP a p 1 26 59 w) :=
  dP_succ N hN hN2 1 0 b (by omega) rfl 5 11 (by omega) (by omega) (by omega) hr (by omega) fun q w1 hq h => dP_zero N hN hN2 0 b (by omega) h (by omega)
theorem dP_2 {a p : Nat} (N : ByteArray) (hN : 1 ≤ N.size) (hN2 : N.size ≤ 6) (b : Bool) {w : World} (hr : Rd a p w) (hp : p ≤ 400000) :
    Calls Try.prog 63 #[.pointer (some ⟨a, 0, none⟩), .int .i64 2, .bool b, .string N] w (DrP a p 1 68 155 w) :=
  dP_succ N hN hN2 2 1 b (by omega) rfl 26 59 (by omega) (by omega) (by omega) hr (by omega) fun q w1 hq h => dP_1 N hN hN2 b h (by omega)
theorem dP_3 {a p : Nat} (N : ByteArray) (hN : 1 ≤ N.size) (hN2 : N.size ≤ 6) (b : Bool) {w : World} (hr : Rd a p w) (hp : p ≤ 300000) :
    Calls Try.prog 63 #[.pointer (some ⟨a, 0, none⟩), .int .i64 3, .bool b, .string N] w (DrP a p 1 152 347 w) :=
  dP_succ N hN hN2 3 2 b (by omega) rfl 68 155 (by omega) (by omega) (by omega) hr (by omega) fun q w1 hq h => dP_2 N hN hN2 b h (by omega)
theorem DrP.wide {a p lo hi c hi' c' : Nat} {w w' : World} {e : Ending} (h : DrP a p lo hi c w e w') (h1 : hi ≤ hi') (h2 : c ≤ c') : DrP a p lo hi' c' w e w' := by
  obtain ⟨s, q, s1, s2, hq, he, hr, hk⟩ := h
  exact ⟨s, q, s1, by omega, by omega, he, hr, hk⟩
theorem dP_any {a p : Nat} (N : ByteArray) (hN : 1 ≤ N.size) (hN2 : N.size ≤ 6) (b : Bool) (d : Int) (h1 : 1 ≤ d) (h3 : d ≤ 3) {w : World} (hr : Rd a p w) (hp : p ≤ 300000) :
    Calls Try.prog 63 #[.pointer (some ⟨a, 0, none⟩), .int .i64 d, .bool b, .string N] w (DrP a p 1 152 347 w) := by
  have : d = 1 ∨ d = 2 ∨ d = 3 := by omega
  rcases this with rfl | rfl | rfl
  · exact (dP_1 N hN hN2 b hr (by omega)).mono fun e w' h => h.wide (by omega) (by omega)
  · exact (dP_2 N hN hN2 b hr (by omega)).mono fun e w' h => h.wide (by omega) (by omega)
  · exact dP_3 N hN hN2 b hr hp

set_option maxRecDepth 100000 in
set_option maxHeartbeats 8000000 in
theorem some3 {a p : Nat} {w : World} (hr : Rd a p w) (hp : p ≤ 200000) :
    Calls Try.prog 45 #[.pointer (some ⟨a, 0, none⟩)] w (DrP a p 1 152 349 w) := by
  have HR := Lib.hid hr
  clear hr
  have C := Lib.hid (pick_any 3 HR.out (by omega) (by omega) (by omega))
  go_enter Try.func45, Try.ntmps45
  go_wp2_with fail
  refine C.out.mono ?_
  rintro e w1 ⟨k, k0, k1, rfl, hr, hk⟩
  have HR1 := Lib.hid hr
  have HK1 := Lib.hid hk
  clear hr hk C
  have ew : IntKind.i64.wrap (1 + k) = 1 + k := IntWalk.i64_in _ (by omega)
  have C := Lib.hid (pick_any 2 HR1.out (by omega) (by omega) (by omega))
  go_wp2_with fail
  refine C.out.mono ?_
  rintro e w2 ⟨j, j0, j1, rfl, hr, hk⟩
  have HR2 := Lib.hid hr
  have HK2 := Lib.hid (HK1.out.trans hk)
  clear hr hk C
  have HC := Lib.hid (dP_any ⟨#[120, 121, 122]⟩ (by decide) (by decide) (j == 0) (1 + k) (by omega) (by omega) HR2.out (by omega))
  go_wp2_with fail
  refine HC.out.mono ?_
  rintro e w3 ⟨x, q, x1, x2, hq, rfl, hr, hk⟩
  have HR3 := Lib.hid hr
  have HK3 := Lib.hid (HK2.out.trans hk)
  clear hr hk HC
  go_wp2_with fail
  go_ret
  exact ⟨x, q, x1, x2, by omega, rfl, HR3.out, HK3.out⟩

/-- The reader has been asked at most p times, and all else is as it was in w. -/
def SB (a p : Nat) (w w' : World) : Prop := ∃ q : Nat, q ≤ p ∧ Rd a q w' ∧ Kp a w w'
theorem sb_done {a p hi : Nat} {w w' : World} {s : ByteArray} {e : Ending} (hs : s.size ≤ hi) (he : e = .returned (.string s)) (h : SB a (p + 3) w w') : DrP a p 0 hi 3 w e w' := by
  obtain ⟨q, hq, hr, hk⟩ := h
  exact ⟨s, q, Nat.zero_le _, hs, hq, he, hr, hk⟩
theorem szb {s x : Nat} (hs : s ≤ 100000) (hx : x = 1) : ¬ 9223372036854775807 < s + x := by omega
theorem szc {s x k : Nat} (hs : s ≤ 100000) (hx : x = 1) (hk : k + 1 ≤ s) : (¬ 9223372036854775807 < k + x) ∧ (¬ 9223372036854775807 < k + x + (s - (k + 1))) ∧ (¬ 9223372036854775807 < k + 1 + (s - (k + 1))) ∧ (¬ 9223372036854775807 < min k s + x) ∧ (¬ 9223372036854775807 < min k s + x + (s - (k + 1))) := by omega

set_option maxRecDepth 100000 in
set_option maxHeartbeats 8000000 in
theorem bad3 {a p : Nat} (t : ByteArray) (h1 : 1 ≤ t.size) (h2 : t.size ≤ 100000) {w : World} (hr : Rd a p w) (hp : p ≤ 900000) :
    Calls Try.prog 44 #[.pointer (some ⟨a, 0, none⟩), .string t] w (DrP a p 0 (t.size + 1) 3 w) := by
  have HR := Lib.hid hr
  have hlt := hr.lt
  clear hr
  have C := Lib.hid (pick_any 40 HR.out (by omega) (by omega) (by omega))
  go_enter Try.func44, Try.ntmps44
  go_wp2_with fail
  refine C.out.mono ?_
  rintro e w1 ⟨k, k0, k1, rfl, hr, hk⟩
  have HR1 := Lib.hid hr
  have HK1 := Lib.hid hk
  clear hr hk C
  by_cases e0 : k = 0
  · subst e0
    have hneL : w1.heap.size ≠ a := by have := HK1.out.size; omega
    have HL := Lib.hid (Blk.new w1 #[.string (⟨#[115]⟩), .string (⟨#[120]⟩), .string (⟨#[32]⟩)] 9)
    have hax := (Below.refl _ w1).alloc (Nat.le_refl _) (.cells #[.string (⟨#[115]⟩), .string (⟨#[120]⟩), .string (⟨#[32]⟩)] 9)
    have HRx := Lib.hid (HR1.out.kept hax)
    have HKx := Lib.hid (HK1.out.next hax)
    clear hax
    have HQ : Hid (∀ i, i < 3 → ∃ s, (#[.string (⟨#[115]⟩), .string (⟨#[120]⟩), .string (⟨#[32]⟩)] : Array Value)[i]? = some (.string s) ∧ s.size = 1) := fun i hi => by
      have hi : i = 0 ∨ i = 1 ∨ i = 2 := by omega
      rcases hi with rfl | rfl | rfl <;> exact ⟨_, rfl, by decide⟩
    go_wp2_with fail
    refine (of_any 3 3 (fun s => s.size = 1) HRx.out (by omega) HL.out hneL (by omega) (by omega) HQ.out).mono ?_
    rintro e w2 ⟨x, hx, rfl, hr, hk⟩
    have HR2 := Lib.hid hr
    have HK2 := Lib.hid (HKx.out.trans hk)
    clear hr hk
    have n1 := szb h2 hx
    go_wp2_with fail
    go_ret
    exact ⟨_, p + 1 + 1, Nat.zero_le _, by rw [ByteArray.size_append, hx]; exact Nat.le_refl _, by omega, rfl, HR2.out, HK2.out⟩
  have g0 : (k == 0) = false := by rw [beq_eq_false_iff_ne]; exact e0
  clear e0
  by_cases e1 : k = 1
  · subst e1
    have ew : IntKind.i64.wrap ((t.size : Int) - 1) = ((t.size - 1 : Nat) : Int) := (IntWalk.i64_in _ (by omega)).trans (by omega)
    go_wp2_with fail
    go_ret
    exact ⟨_, p + 1, Nat.zero_le _, by simp only [ByteArray.size_extract]; omega, by omega, rfl, HR1.out, HK1.out⟩
  have g1 : (k == 1) = false := by rw [beq_eq_false_iff_ne]; exact e1
  clear e1
  by_cases e2 : k = 2
  · subst e2
    have C := Lib.hid (pick_any (t.size : Int) HR1.out (by omega) (by omega) (by omega))
    go_wp2_with fail
    refine C.out.mono ?_
    rintro e w2 ⟨k, k0, k1, rfl, hr, hk⟩
    have HR2 := Lib.hid hr
    have HK2 := Lib.hid (HK1.out.trans hk)
    clear hr hk C g0 g1
    obtain ⟨k, rfl⟩ := Int.eq_ofNat_of_zero_le k0
    have hk1 : k + 1 ≤ t.size := by omega
    have hneL : w2.heap.size ≠ a := by have := HK2.out.size; omega
    have HL := Lib.hid (Blk.new w2 #[.string (⟨#[88]⟩), .string (⟨#[119]⟩), .string (⟨#[59]⟩), .string (⟨#[64]⟩)] 9)
    have hax := (Below.refl _ w2).alloc (Nat.le_refl _) (.cells #[.string (⟨#[88]⟩), .string (⟨#[119]⟩), .string (⟨#[59]⟩), .string (⟨#[64]⟩)] 9)
    have HRx := Lib.hid (HR2.out.kept hax)
    have HKx := Lib.hid (HK2.out.next hax)
    clear hax
    have HQ : Hid (∀ i, i < 4 → ∃ s, (#[.string (⟨#[88]⟩), .string (⟨#[119]⟩), .string (⟨#[59]⟩), .string (⟨#[64]⟩)] : Array Value)[i]? = some (.string s) ∧ s.size = 1) := fun i hi => by
      have hi : i = 0 ∨ i = 1 ∨ i = 2 ∨ i = 3 := by omega
      rcases hi with rfl | rfl | rfl | rfl <;> exact ⟨_, rfl, by decide⟩
    have hs0 : SB a (p + 3) w w2.drew := ⟨_, by omega, HR2.out.kept (Below.refl _ _).drew, HK2.out.next (Below.refl _ _).drew⟩
    have hs1 : SB a (p + 3) w (w2.alloc (.cells #[.string (⟨#[88]⟩), .string (⟨#[119]⟩), .string (⟨#[59]⟩), .string (⟨#[64]⟩)] 9)).drew := ⟨_, by omega, HRx.out.kept (Below.refl _ _).drew, HKx.out.next (Below.refl _ _).drew⟩
    have HRy := Lib.hid (HRx.out.kept (Below.refl _ _).drew)
    have HKy := Lib.hid (HKx.out.next (Below.refl _ _).drew)
    have HLy := Lib.hid HL.out.drew
    have C := Lib.hid (of_any 4 4 (fun s => s.size = 1) HRy.out (by omega) HLy.out hneL (by omega) (by omega) HQ.out)
    have ew : IntKind.i64.wrap ((k : Int) + 1) = (k : Int) + 1 := IntWalk.i64_in _ (by omega)
    have hq0 : (0 : Int) ≤ (k : Int) + 1 := by omega
    have hq1 : (k : Int) ≤ (t.size : Int) := by omega
    have hq2 : (k : Int) + 1 ≤ (t.size : Int) := by omega
    have hq3 : k ≤ t.size := by omega
    have hq4 : ((k : Int) + 1).toNat = k + 1 := by omega
    have hq5 : min k t.size = k := by omega
    clear HR HR1 HK1 HL HRx HQ HLy HKx
    go_wp2_with fail
    go_region_held3 (fun w' => SB a (p + 3) w w')
      (first | assumption | (go_split_ands; assumption))
      (first
        | (go_at_call 60; (with_reducible refine C.out.mono ?_); rintro e w6 ⟨s, hs, rfl, hr, hk⟩; have hbw3 : SB a (p + 3) w w6 := ⟨_, by omega, hr, HKy.out.trans hk⟩; obtain ⟨n0, n1, n2, n3, n4⟩ := szc h2 hs hk1; replace hs := Lib.hid hs))
    all_goals
      go_split_ands
      go_wp2_with fail
      go_ret
      have hz : (t.extract 0 k ++ s ++ t.extract (k + 1) t.size).size ≤ t.size + 1 := by simp only [ByteArray.size_append, ByteArray.size_extract, hs.out]; omega
      exact sb_done hz rfl (by assumption)
  have g2 : (k == 2) = false := by rw [beq_eq_false_iff_ne]; exact e2
  clear e2
  go_wp2_with fail
  go_ret
  exact ⟨_, p + 1, Nat.zero_le _, by omega, by omega, rfl, HR1.out, HK1.out⟩

set_option maxHeartbeats 4000000 in
theorem open3 {a p : Nat} {w : World} (hr : Rd a p w) (hp : p ≤ 200000) :
    Calls Try.prog 27 #[.pointer (some ⟨a, 0, none⟩)] w (DrP a p 0 153 352 w) := by
  have HC := Lib.hid (some3 hr hp)
  clear hr
  go_enter Try.func27, Try.ntmps27
  go_wp2_with fail
  refine HC.out.mono ?_
  rintro e w1 ⟨x, q, x1, x2, hq, rfl, hr, hk⟩
  have HK1 := Lib.hid hk
  have HC := Lib.hid (bad3 x x1 (by omega) hr (by omega))
  clear hr hk
  go_wp2_with fail
  refine HC.out.mono ?_
  rintro e w2 ⟨y, q', y1, y2, hq', rfl, hr, hk⟩
  have HR2 := Lib.hid hr
  have HK2 := Lib.hid (HK1.out.trans hk)
  clear hr hk
  go_wp2_with fail
  go_ret
  exact ⟨y, q', y1, by omega, by omega, rfl, HR2.out, HK2.out⟩

set_option maxHeartbeats 4000000 in
theorem dDrawPartsOf {a : Option Addr} {len cap : Nat} {zs : List Int} {w : World} (h : IsRow w a len cap zs) :
    Calls Try.prog 7 #[.slice a len cap] w fun e w' => ∃ t : ByteArray, t.size ≤ 153 ∧ e = .returned (.string t) ∧ Below w.heap.size w w' := by
  have HO := Lib.hid (open_any h)
  clear h
  go_enter Try.func7, Try.ntmps7
  go_wp2_with fail
  refine HO.out.mono ?_
  rintro e w1 ⟨rfl, hr, hb⟩
  have HW1 := Lib.hid hb
  have HC := Lib.hid (open3 hr (by omega))
  clear hr hb
  go_wp2_with fail
  refine HC.out.mono ?_
  rintro e w2 ⟨t, q, t1, t2, hq, rfl, hr, hk⟩
  have HW2 := Lib.hid (HW1.out.trans (hk.below (Nat.le_refl _) HW1.out.size))
  clear hr hk
  go_wp2_with fail
  go_ret
  exact ⟨t, t2, rfl, HW2.out⟩

set_option maxHeartbeats 4000000 in
theorem dDrawReadsOf {a : Option Addr} {len cap : Nat} {zs : List Int} {w : World} (h : IsRow w a len cap zs) :
    Calls Try.prog 14 #[.slice a len cap] w fun e w' => ∃ t : ByteArray, t.size ≤ 153 ∧ e = .returned (.string t) ∧ Below w.heap.size w w' := by
  have HO := Lib.hid (open_any h)
  clear h
  go_enter Try.func14, Try.ntmps14
  go_wp2_with fail
  refine HO.out.mono ?_
  rintro e w1 ⟨rfl, hr, hb⟩
  have HW1 := Lib.hid hb
  have HC := Lib.hid (open3 hr (by omega))
  clear hr hb
  go_wp2_with fail
  refine HC.out.mono ?_
  rintro e w2 ⟨t, q, t1, t2, hq, rfl, hr, hk⟩
  have HW2 := Lib.hid (HW1.out.trans (hk.below (Nat.le_refl _) HW1.out.size))
  clear hr hk
  go_wp2_with fail
  go_ret
  exact ⟨t, t2, rfl, HW2.out⟩

set_option maxHeartbeats 4000000 in
theorem dDrawShowProgram {a : Option Addr} {len cap : Nat} {zs : List Int} {w : World} (h : IsRow w a len cap zs) :
    Calls Try.prog 20 #[.slice a len cap] w fun e w' => ∃ t : ByteArray, t.size ≤ 153 ∧ e = .returned (.string t) ∧ Below w.heap.size w w' := by
  have HO := Lib.hid (open_any h)
  clear h
  go_enter Try.func20, Try.ntmps20
  go_wp2_with fail
  refine HO.out.mono ?_
  rintro e w1 ⟨rfl, hr, hb⟩
  have HW1 := Lib.hid hb
  have HC := Lib.hid (open3 hr (by omega))
  clear hr hb
  go_wp2_with fail
  refine HC.out.mono ?_
  rintro e w2 ⟨t, q, t1, t2, hq, rfl, hr, hk⟩
  have HW2 := Lib.hid (HW1.out.trans (hk.below (Nat.le_refl _) HW1.out.size))
  clear hr hk
  go_wp2_with fail
  go_ret
  exact ⟨t, t2, rfl, HW2.out⟩
end Go.Proofs.Ytemkndpiljfefaa
