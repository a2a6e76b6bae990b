/-
  Several small texts in one: DrawP DrawW Has Dep Pln ImO ShQ RWA PgL VP.
-/
import Derived.Test.YtemkndpiljfefaaDrawU
import Derived.Deep.RegionHeld3
import Derived.Test.YtemkndpiljfefaaDraw
import Derived.Test.YtemkndpiljfefaaBytes
import Derived.Test.YtemkndpiljfefaaPts
import Derived.Test.YtemkndpiljfefaaFind
import Derived.Test.YtemkndpiljfefaaPgW
import Derived.Test.YtemkndpiljfefaaRdP
import Derived.Test.YtemkndpiljfefaaWin
import Derived.Test.YtemkndpiljfefaaTas
import Derived.Test.YtemkndpiljfefaaShP
import Derived.Test.YtemkndpiljfefaaSpQ
import Derived.Test.YtemkndpiljfefaaRW
import Derived.Test.YtemkndpiljfefaaSpW
import Derived.Test.YtemkndpiljfefaaPgR
import Derived.Test.YtemkndpiljfefaaSwp
import Derived.Test.YtemkndpiljfefaaSpecVars
import Derived.Test.YtemkndpiljfefaaExpr
import Derived.Test.YtemkndpiljfefaaEnd
namespace Go.Proofs.Ytemkndpiljfefaa
open Go.RowKit

theorem szs {x : Nat} (h : x ≤ 100000) : (¬ 9223372036854775807 < 1 + x) := by omega
theorem szt {x y z : Nat} (h1 : x ≤ 100000) (h2 : y ≤ 100000) (h3 : z ≤ 100000) : (¬ 9223372036854775807 < 1 + x) ∧ (¬ 9223372036854775807 < 1 + x + y) ∧ (¬ 9223372036854775807 < 1 + x + y + z) := by omega
theorem one_size (c : UInt8) : (⟨#[c]⟩ : ByteArray).size = 1 := rfl

set_option maxRecDepth 100000 in
set_option maxHeartbeats 8000000 in
/-- An assignment. -/
theorem dS_any {a p : Nat} (N : ByteArray) (hN : 1 ≤ N.size) (hN2 : N.size ≤ 6) {w : World} (hr : Rd a p w) (hp : p ≤ 700000) :
    Calls Try.prog 69 #[.pointer (some ⟨a, 0, none⟩), .string N] w (DrP a p 1 5 9 w) := by
  have HR := Lib.hid hr
  have hlt := hr.lt
  clear hr
  have C := Lib.hid (pick_any (N.size : Int) HR.out (by omega) (by omega) (by omega))
  go_enter Try.func69, Try.ntmps69
  go_wp2_with fail
  refine C.out.mono ?_
  rintro e w1 ⟨k, k0, k1, rfl, hr, hk⟩
  have HR1 := Lib.hid hr
  have HK1 := Lib.hid hk
  clear hr hk C
  obtain ⟨k, rfl⟩ := Int.eq_ofNat_of_zero_le k0
  have h1 : (k : Int) < (N.size : Int) := by omega
  have h2 : (k : Int) + 1 ≤ (N.size : Int) := by omega
  have hz : (N.extract k (k + 1)).size = 1 := by simp [ByteArray.size_extract]; omega
  have HZ := Lib.hid hz
  clear hz
  have C := Lib.hid (pick_any 4 HR1.out (by omega) (by omega) (by omega))
  go_wp2_with fail
  refine C.out.mono ?_
  rintro e w2 ⟨j, j0, j1, rfl, hr, hk⟩
  have HR2 := Lib.hid hr
  have HK2 := Lib.hid (HK1.out.trans hk)
  clear hr hk C
  generalize N.extract k (k + 1) = v at *
  have n1 : ¬ 9223372036854775807 < 1 + v.size := by rw [HZ.out]; omega
  by_cases e0 : j = 0
  · subst e0
    have hneL : w2.heap.size ≠ a := by have := HK2.out.size; omega
    have HL := Lib.hid (Blk.new w2 #[.string (⟨#[43]⟩), .string (⟨#[45]⟩)] 9)
    have hax := (Below.refl _ w2).alloc (Nat.le_refl _) (.cells #[.string (⟨#[43]⟩), .string (⟨#[45]⟩)] 9)
    have HRx := Lib.hid (HR2.out.kept hax)
    have HKx := Lib.hid (HK2.out.next hax)
    clear hax
    have HQ : Hid (∀ i, i < 2 → ∃ s, (#[.string (⟨#[43]⟩), .string (⟨#[45]⟩)] : Array Value)[i]? = some (.string s) ∧ s.size = 1) := fun i hi => by
      have hi : i = 0 ∨ i = 1 := by omega
      rcases hi with rfl | rfl <;> exact ⟨_, rfl, by decide⟩
    go_wp2_with fail
    refine (of_any 2 2 (fun s => s.size = 1) HRx.out (by omega) HL.out hneL (by omega) (by omega) HQ.out).mono ?_
    rintro e w3 ⟨o, ho, rfl, hr, hk⟩
    have HR3 := Lib.hid hr
    have HK3 := Lib.hid (HKx.out.trans hk)
    clear hr hk HL HQ HRx HKx
    have n2 : ¬ 9223372036854775807 < 1 + v.size + o.size := by rw [HZ.out, ho]; omega
    have n3 : ¬ 9223372036854775807 < 1 + v.size + o.size + v.size := by rw [HZ.out, ho]; omega
    have HO := Lib.hid ho
    clear ho
    have C := Lib.hid (pick_any 2 HR3.out (by omega) (by omega) (by omega))
    go_wp2_with fail
    refine C.out.mono ?_
    rintro e w4 ⟨i, i0, i1, rfl, hr, hk⟩
    have HR4 := Lib.hid hr
    have HK4 := Lib.hid (HK3.out.trans hk)
    clear hr hk C
    have ew : IntKind.i64.wrap (1 + i) = 1 + i := IntWalk.i64_in _ (by omega)
    have HD := Lib.hid (dec_one (1 + i) (by omega) (by omega) w4)
    go_wp2_with fail
    refine HD.out.mono ?_
    rintro e w5 ⟨s, hs, rfl, hb⟩
    have HR5 := Lib.hid (HR4.out.kept hb)
    have HK5 := Lib.hid (HK4.out.next hb)
    clear hb HD
    have n4 : ¬ 9223372036854775807 < 1 + v.size + o.size + v.size + s.size := by rw [HZ.out, HO.out, hs]; omega
    have hz : ((⟨#[97]⟩ : ByteArray) ++ v ++ o ++ v ++ s).size = 5 := by simp only [ByteArray.size_append, HZ.out, HO.out, hs, one_size]
    have HS := Lib.hid hz
    clear hz hs
    go_wp2_with fail
    go_ret
    exact ⟨(⟨#[97]⟩ : ByteArray) ++ v ++ o ++ v ++ s, _, by rw [HS.out]; omega, by rw [HS.out]; omega, by omega, rfl, HR5.out, HK5.out⟩
  have g0 : (j == 0) = false := by rw [beq_eq_false_iff_ne]; exact e0
  clear e0
  by_cases e1 : j = 1
  · subst e1
    have C := Lib.hid (pick_any 3 HR2.out (by omega) (by omega) (by omega))
    go_wp2_with fail
    refine C.out.mono ?_
    rintro e w4 ⟨i, i0, i1, rfl, hr, hk⟩
    have HR4 := Lib.hid hr
    have HK4 := Lib.hid (HK2.out.trans hk)
    clear hr hk C
    have HD := Lib.hid (dec_one i (by omega) (by omega) w4)
    go_wp2_with fail
    refine HD.out.mono ?_
    rintro e w5 ⟨s, hs, rfl, hb⟩
    have HR5 := Lib.hid (HR4.out.kept hb)
    have HK5 := Lib.hid (HK4.out.next hb)
    clear hb HD
    have n4 : ¬ 9223372036854775807 < 1 + v.size + s.size := by rw [HZ.out, hs]; omega
    have hz : ((⟨#[97]⟩ : ByteArray) ++ v ++ s).size = 3 := by simp only [ByteArray.size_append, HZ.out, hs, one_size]
    have HS := Lib.hid hz
    clear hz hs
    go_wp2_with fail
    go_ret
    exact ⟨(⟨#[97]⟩ : ByteArray) ++ v ++ s, _, by rw [HS.out]; omega, by rw [HS.out]; omega, by omega, rfl, HR5.out, HK5.out⟩
  have g1 : (j == 1) = false := by rw [beq_eq_false_iff_ne]; exact e1
  clear e1
  have HC := Lib.hid (dE_1 N hN hN2 HR2.out (by omega))
  go_wp2_with fail
  refine HC.out.mono ?_
  rintro e w3 ⟨x, q, x1, x2, hq, rfl, hr, hk⟩
  have HR3 := Lib.hid hr
  have HK3 := Lib.hid (HK2.out.trans hk)
  clear hr hk HC
  have n4 : ¬ 9223372036854775807 < 1 + v.size + x.size := by rw [HZ.out]; omega
  have hz : ((⟨#[97]⟩ : ByteArray) ++ v ++ x).size = 2 + x.size := by simp only [ByteArray.size_append, HZ.out, one_size]
  have HS := Lib.hid hz
  clear hz
  go_wp2_with fail
  go_ret
  exact ⟨(⟨#[97]⟩ : ByteArray) ++ v ++ x, _, by rw [HS.out]; omega, by rw [HS.out]; omega, by omega, rfl, HR3.out, HK3.out⟩

set_option maxRecDepth 100000 in
set_option maxHeartbeats 8000000 in
/-- A program of depth 0. -/
theorem dP_zero {a p : Nat} (N : ByteArray) (hN : 1 ≤ N.size) (hN2 : N.size ≤ 6) (d : Int) (b : Bool) (hd : d ≤ 0) {w : World} (hr : Rd a p w) (hp : p ≤ 600000) :
    Calls Try.prog 63 #[.pointer (some ⟨a, 0, none⟩), .int .i64 d, .bool b, .string N] w (DrP a p 1 5 11 w) := by
  have HR := Lib.hid hr
  clear hr
  have C := Lib.hid (pick_any 12 HR.out (by omega) (by omega) (by omega))
  go_enter Try.func63, Try.ntmps63
  go_wp2_with fail
  refine C.out.mono ?_
  rintro e w1 ⟨k, k0, k1, rfl, hr, hk⟩
  have HR1 := Lib.hid hr
  have HK1 := Lib.hid hk
  clear hr hk C
  have C := Lib.hid (pick_any 8 HR1.out (by omega) (by omega) (by omega))
  go_wp2_with fail
  refine C.out.mono ?_
  rintro e w2 ⟨j, j0, j1, rfl, hr, hk⟩
  have HR2 := Lib.hid hr
  have HK2 := Lib.hid (HK1.out.trans hk)
  clear hr hk C
  by_cases e0 : j = 0
  · subst e0
    go_wp2_with fail
    go_ret
    exact ⟨⟨#[115]⟩, _, by rw [one_size]; omega, by rw [one_size]; omega, by omega, rfl, HR2.out, HK2.out⟩
  · have g0 : (j == 0) = false := by rw [beq_eq_false_iff_ne]; exact e0
    clear e0
    have HC := Lib.hid (dS_any N hN hN2 HR2.out (by omega))
    go_wp2_with fail
    refine HC.out.mono ?_
    rintro e w3 ⟨x, q, x1, x2, hq, rfl, hr, hk⟩
    have HR3 := Lib.hid hr
    have HK3 := Lib.hid (HK2.out.trans hk)
    clear hr hk HC
    go_wp2_with fail
    go_ret
    exact ⟨x, q, x1, by omega, by omega, rfl, HR3.out, HK3.out⟩

set_option maxRecDepth 100000 in
set_option maxHeartbeats 16000000 in
/-- One depth more. -/
theorem dP_succ {a p : Nat} (N : ByteArray) (hN : 1 ≤ N.size) (hN2 : N.size ≤ 6) (d m : Int) (b : Bool) (hd : ¬ d ≤ 0) (hm : IntKind.i64.wrap (d - 1) = m) (hi c : Nat) (hh : hi ≤ 10000) (h5 : 5 ≤ hi) (h11 : 11 ≤ c) {w : World} (hr : Rd a p w) (hp : p + (2 * c + 37) ≤ 600000)
    (IH : ∀ (q : Nat) (w1 : World), q ≤ p + (c + 37) → Rd a q w1 → Calls Try.prog 63 #[.pointer (some ⟨a, 0, none⟩), .int .i64 m, .bool b, .string N] w1 (DrP a q 1 hi c w1)) :
    Calls Try.prog 63 #[.pointer (some ⟨a, 0, none⟩), .int .i64 d, .bool b, .string N] w (DrP a p 1 (2 * hi + 16) (2 * c + 37) w) := by
  have HR := Lib.hid hr
  have HI := Lib.hid IH
  clear hr IH
  have C := Lib.hid (pick_any 12 HR.out (by omega) (by omega) (by omega))
  go_enter Try.func63, Try.ntmps63
  go_wp2_with fail
  refine C.out.mono ?_
  rintro e w1 ⟨k, k0, k1, rfl, hr, hk⟩
  have HR1 := Lib.hid hr
  have HK1 := Lib.hid hk
  clear hr hk C
  by_cases h2 : k < 2
  · have C := Lib.hid (pick_any 8 HR1.out (by omega) (by omega) (by omega))
    go_wp2_with fail
    refine C.out.mono ?_
    rintro e w2 ⟨j, j0, j1, rfl, hr, hk⟩
    have HR2 := Lib.hid hr
    have HK2 := Lib.hid (HK1.out.trans hk)
    clear hr hk C
    by_cases e0 : j = 0
    · subst e0
      go_wp2_with fail
      go_ret
      exact ⟨⟨#[115]⟩, _, by rw [one_size]; omega, by rw [one_size]; omega, by omega, rfl, HR2.out, HK2.out⟩
    · have g0 : (j == 0) = false := by rw [beq_eq_false_iff_ne]; exact e0
      clear e0
      have HC := Lib.hid (dS_any N hN hN2 HR2.out (by omega))
      go_wp2_with fail
      refine HC.out.mono ?_
      rintro e w3 ⟨x, q, x1, x2, hq, rfl, hr, hk⟩
      have HR3 := Lib.hid hr
      have HK3 := Lib.hid (HK2.out.trans hk)
      clear hr hk HC
      go_wp2_with fail
      go_ret
      exact ⟨x, q, x1, by omega, by omega, rfl, HR3.out, HK3.out⟩
  by_cases h6 : k < 6
  · have HC := Lib.hid (HI.out (p + 1) w1 (by omega) HR1.out)
    go_wp2_with fail
    refine HC.out.mono ?_
    rintro e w2 ⟨x, q2, x1, x2, hq2, rfl, hr, hk⟩
    have HR2 := Lib.hid hr
    have HK2 := Lib.hid (HK1.out.trans hk)
    clear hr hk HC
    have HC := Lib.hid (HI.out (q2) w2 (by omega) HR2.out)
    go_wp2_with fail
    refine HC.out.mono ?_
    rintro e w3 ⟨y, q3, y1, y2, hq3, rfl, hr, hk⟩
    have HR3 := Lib.hid hr
    have HK3 := Lib.hid (HK2.out.trans hk)
    clear hr hk HC
    obtain ⟨m1, m2, m3⟩ := szt (by omega : x.size ≤ 100000) (by omega : y.size ≤ 100000) (Nat.zero_le _ : (0 : Nat) ≤ 100000)
    have hz : ((⟨#[59]⟩ : ByteArray) ++ x ++ y).size = 1 + x.size + y.size := by simp only [ByteArray.size_append, one_size]
    have HS := Lib.hid hz
    clear hz
    go_wp2_with fail
    go_ret
    exact ⟨(⟨#[59]⟩ : ByteArray) ++ x ++ y, _, by rw [HS.out]; omega, by rw [HS.out]; omega, by omega, rfl, HR3.out, HK3.out⟩
  by_cases h8 : k < 8
  · have HC := Lib.hid (dT_1 N hN hN2 HR1.out (by omega))
    go_wp2_with fail
    refine HC.out.mono ?_
    rintro e w2 ⟨t, q2, t1, t2, hq2, rfl, hr, hk⟩
    have HR2 := Lib.hid hr
    have HK2 := Lib.hid (HK1.out.trans hk)
    clear hr hk HC
    have HC := Lib.hid (HI.out (q2) w2 (by omega) HR2.out)
    go_wp2_with fail
    refine HC.out.mono ?_
    rintro e w3 ⟨x, q3, x1, x2, hq3, rfl, hr, hk⟩
    have HR3 := Lib.hid hr
    have HK3 := Lib.hid (HK2.out.trans hk)
    clear hr hk HC
    have HC := Lib.hid (HI.out (q3) w3 (by omega) HR3.out)
    go_wp2_with fail
    refine HC.out.mono ?_
    rintro e w4 ⟨y, q4, y1, y2, hq4, rfl, hr, hk⟩
    have HR4 := Lib.hid hr
    have HK4 := Lib.hid (HK3.out.trans hk)
    clear hr hk HC
    obtain ⟨m1, m2, m3⟩ := szt (by omega : t.size ≤ 100000) (by omega : x.size ≤ 100000) (by omega : y.size ≤ 100000)
    have hz : ((⟨#[63]⟩ : ByteArray) ++ t ++ x ++ y).size = 1 + t.size + x.size + y.size := by simp only [ByteArray.size_append, one_size]
    have HS := Lib.hid hz
    clear hz
    go_wp2_with fail
    go_ret
    exact ⟨(⟨#[63]⟩ : ByteArray) ++ t ++ x ++ y, _, by rw [HS.out]; omega, by rw [HS.out]; omega, by omega, rfl, HR4.out, HK4.out⟩
  by_cases h10 : k < 10
  · have HC := Lib.hid (dT_1 N hN hN2 HR1.out (by omega))
    go_wp2_with fail
    refine HC.out.mono ?_
    rintro e w2 ⟨t, q2, t1, t2, hq2, rfl, hr, hk⟩
    have HR2 := Lib.hid hr
    have HK2 := Lib.hid (HK1.out.trans hk)
    clear hr hk HC
    have HC := Lib.hid (HI.out (q2) w2 (by omega) HR2.out)
    go_wp2_with fail
    refine HC.out.mono ?_
    rintro e w3 ⟨x, q3, x1, x2, hq3, rfl, hr, hk⟩
    have HR3 := Lib.hid hr
    have HK3 := Lib.hid (HK2.out.trans hk)
    clear hr hk HC
    obtain ⟨m1, m2, m3⟩ := szt (by omega : t.size ≤ 100000) (by omega : x.size ≤ 100000) (Nat.zero_le _ : (0 : Nat) ≤ 100000)
    have hz : ((⟨#[64]⟩ : ByteArray) ++ t ++ x).size = 1 + t.size + x.size := by simp only [ByteArray.size_append, one_size]
    have HS := Lib.hid hz
    clear hz
    go_wp2_with fail
    go_ret
    exact ⟨(⟨#[64]⟩ : ByteArray) ++ t ++ x, _, by rw [HS.out]; omega, by rw [HS.out]; omega, by omega, rfl, HR3.out, HK3.out⟩
  cases b
  case true =>
    have HC := Lib.hid (dT_1 N hN hN2 HR1.out (by omega))
    go_wp2_with fail
    refine HC.out.mono ?_
    rintro e w2 ⟨t, q2, t1, t2, hq2, rfl, hr, hk⟩
    have HR2 := Lib.hid hr
    have HK2 := Lib.hid (HK1.out.trans hk)
    clear hr hk HC
    have HC := Lib.hid (HI.out (q2) w2 (by omega) HR2.out)
    go_wp2_with fail
    refine HC.out.mono ?_
    rintro e w3 ⟨x, q3, x1, x2, hq3, rfl, hr, hk⟩
    have HR3 := Lib.hid hr
    have HK3 := Lib.hid (HK2.out.trans hk)
    clear hr hk HC
    obtain ⟨m1, m2, m3⟩ := szt (by omega : t.size ≤ 100000) (by omega : x.size ≤ 100000) (Nat.zero_le _ : (0 : Nat) ≤ 100000)
    have hz : ((⟨#[64]⟩ : ByteArray) ++ t ++ x).size = 1 + t.size + x.size := by simp only [ByteArray.size_append, one_size]
    have HS := Lib.hid hz
    clear hz
    go_wp2_with fail
    go_ret
    exact ⟨(⟨#[64]⟩ : ByteArray) ++ t ++ x, _, by rw [HS.out]; omega, by rw [HS.out]; omega, by omega, rfl, HR3.out, HK3.out⟩
  case false =>
    by_cases h12 : k < 11
    · have HC := Lib.hid (HI.out (p + 1) w1 (by omega) HR1.out)
      go_wp2_with fail
      refine HC.out.mono ?_
      rintro e w2 ⟨x, q2, x1, x2, hq2, rfl, hr, hk⟩
      have HR2 := Lib.hid hr
      have HK2 := Lib.hid (HK1.out.trans hk)
      clear hr hk HC
      have HC := Lib.hid (HI.out (q2) w2 (by omega) HR2.out)
      go_wp2_with fail
      refine HC.out.mono ?_
      rintro e w3 ⟨y, q3, y1, y2, hq3, rfl, hr, hk⟩
      have HR3 := Lib.hid hr
      have HK3 := Lib.hid (HK2.out.trans hk)
      clear hr hk HC
      obtain ⟨m1, m2, m3⟩ := szt (by omega : x.size ≤ 100000) (by omega : y.size ≤ 100000) (Nat.zero_le _ : (0 : Nat) ≤ 100000)
      have hz : ((⟨#[47]⟩ : ByteArray) ++ x ++ y).size = 1 + x.size + y.size := by simp only [ByteArray.size_append, one_size]
      have HS := Lib.hid hz
      clear hz
      go_wp2_with fail
      go_ret
      exact ⟨(⟨#[47]⟩ : ByteArray) ++ x ++ y, _, by rw [HS.out]; omega, by rw [HS.out]; omega, by omega, rfl, HR3.out, HK3.out⟩
    · have HC := Lib.hid (dT_1 N hN hN2 HR1.out (by omega))
      go_wp2_with fail
      refine HC.out.mono ?_
      rintro e w2 ⟨t, q2, t1, t2, hq2, rfl, hr, hk⟩
      have HR2 := Lib.hid hr
      have HK2 := Lib.hid (HK1.out.trans hk)
      clear hr hk HC
      obtain ⟨m1, m2, m3⟩ := szt (by omega : t.size ≤ 100000) (Nat.zero_le _ : (0 : Nat) ≤ 100000) (Nat.zero_le _ : (0 : Nat) ≤ 100000)
      have hz : ((⟨#[126]⟩ : ByteArray) ++ t).size = 1 + t.size := by simp only [ByteArray.size_append, one_size]
      have HS := Lib.hid hz
      clear hz
      go_wp2_with fail
      go_ret
      exact ⟨(⟨#[126]⟩ : ByteArray) ++ t, _, by rw [HS.out]; omega, by rw [HS.out]; omega, by omega, rfl, HR2.out, HK2.out⟩

theorem dP_1 {a p : Nat} (N : ByteArray) (hN : 1 ≤ N.size) (hN2 : N.size ≤ 6) (b : Bool) {w : World} (hr : Rd a p w) (hp : p ≤ 500000) :
    Calls Try.prog 63 #[.pointer (some ⟨a, 0, none⟩), .int .i64 1, .bool b, .string N] w (DrP a p 1 26 59 w) :=
  dP_succ N hN hN2 1 0 b (by omega) rfl 5 11 (by omega) (by omega) (by omega) hr (by omega) fun q w1 hq h => dP_zero N hN hN2 0 b (by omega) h (by omega)
theorem dP_2 {a p : Nat} (N : ByteArray) (hN : 1 ≤ N.size) (hN2 : N.size ≤ 6) (b : Bool) {w : World} (hr : Rd a p w) (hp : p ≤ 400000) :
    Calls Try.prog 63 #[.pointer (some ⟨a, 0, none⟩), .int .i64 2, .bool b, .string N] w (DrP a p 1 68 155 w) :=
  dP_succ N hN hN2 2 1 b (by omega) rfl 26 59 (by omega) (by omega) (by omega) hr (by omega) fun q w1 hq h => dP_1 N hN hN2 b h (by omega)
theorem dP_3 {a p : Nat} (N : ByteArray) (hN : 1 ≤ N.size) (hN2 : N.size ≤ 6) (b : Bool) {w : World} (hr : Rd a p w) (hp : p ≤ 300000) :
    Calls Try.prog 63 #[.pointer (some ⟨a, 0, none⟩), .int .i64 3, .bool b, .string N] w (DrP a p 1 152 347 w) :=
  dP_succ N hN hN2 3 2 b (by omega) rfl 68 155 (by omega) (by omega) (by omega) hr (by omega) fun q w1 hq h => dP_2 N hN hN2 b h (by omega)
theorem DrP.wide {a p lo hi c hi' c' : Nat} {w w' : World} {e : Ending} (h : DrP a p lo hi c w e w') (h1 : hi ≤ hi') (h2 : c ≤ c') : DrP a p lo hi' c' w e w' := by
  obtain ⟨s, q, s1, s2, hq, he, hr, hk⟩ := h
  exact ⟨s, q, s1, by omega, by omega, he, hr, hk⟩
theorem dP_any {a p : Nat} (N : ByteArray) (hN : 1 ≤ N.size) (hN2 : N.size ≤ 6) (b : Bool) (d : Int) (h1 : 1 ≤ d) (h3 : d ≤ 3) {w : World} (hr : Rd a p w) (hp : p ≤ 300000) :
    Calls Try.prog 63 #[.pointer (some ⟨a, 0, none⟩), .int .i64 d, .bool b, .string N] w (DrP a p 1 152 347 w) := by
  have : d = 1 ∨ d = 2 ∨ d = 3 := by omega
  rcases this with rfl | rfl | rfl
  · exact (dP_1 N hN hN2 b hr (by omega)).mono fun e w' h => h.wide (by omega) (by omega)
  · exact (dP_2 N hN hN2 b hr (by omega)).mono fun e w' h => h.wide (by omega) (by omega)
  · exact dP_3 N hN hN2 b hr hp

set_option maxRecDepth 100000 in
set_option maxHeartbeats 8000000 in
theorem some3 {a p : Nat} {w : World} (hr : Rd a p w) (hp : p ≤ 200000) :
    Calls Try.prog 45 #[.pointer (some ⟨a, 0, none⟩)] w (DrP a p 1 152 349 w) := by
  have HR := Lib.hid hr
  clear hr
  have C := Lib.hid (pick_any 3 HR.out (by omega) (by omega) (by omega))
  go_enter Try.func45, Try.ntmps45
  go_wp2_with fail
  refine C.out.mono ?_
  rintro e w1 ⟨k, k0, k1, rfl, hr, hk⟩
  have HR1 := Lib.hid hr
  have HK1 := Lib.hid hk
  clear hr hk C
  have ew : IntKind.i64.wrap (1 + k) = 1 + k := IntWalk.i64_in _ (by omega)
  have C := Lib.hid (pick_any 2 HR1.out (by omega) (by omega) (by omega))
  go_wp2_with fail
  refine C.out.mono ?_
  rintro e w2 ⟨j, j0, j1, rfl, hr, hk⟩
  have HR2 := Lib.hid hr
  have HK2 := Lib.hid (HK1.out.trans hk)
  clear hr hk C
  have HC := Lib.hid (dP_any ⟨#[120, 121, 122]⟩ (by decide) (by decide) (j == 0) (1 + k) (by omega) (by omega) HR2.out (by omega))
  go_wp2_with fail
  refine HC.out.mono ?_
  rintro e w3 ⟨x, q, x1, x2, hq, rfl, hr, hk⟩
  have HR3 := Lib.hid hr
  have HK3 := Lib.hid (HK2.out.trans hk)
  clear hr hk HC
  go_wp2_with fail
  go_ret
  exact ⟨x, q, x1, x2, by omega, rfl, HR3.out, HK3.out⟩

/-- The reader has been asked at most p times, and all else is as it was in w. -/
def SB (a p : Nat) (w w' : World) : Prop := ∃ q : Nat, q ≤ p ∧ Rd a q w' ∧ Kp a w w'
theorem sb_done {a p hi : Nat} {w w' : World} {s : ByteArray} {e : Ending} (hs : s.size ≤ hi) (he : e = .returned (.string s)) (h : SB a (p + 3) w w') : DrP a p 0 hi 3 w e w' := by
  obtain ⟨q, hq, hr, hk⟩ := h
  exact ⟨s, q, Nat.zero_le _, hs, hq, he, hr, hk⟩
theorem szb {s x : Nat} (hs : s ≤ 100000) (hx : x = 1) : ¬ 9223372036854775807 < s + x := by omega
theorem szc {s x k : Nat} (hs : s ≤ 100000) (hx : x = 1) (hk : k + 1 ≤ s) : (¬ 9223372036854775807 < k + x) ∧ (¬ 9223372036854775807 < k + x + (s - (k + 1))) ∧ (¬ 9223372036854775807 < k + 1 + (s - (k + 1))) ∧ (¬ 9223372036854775807 < min k s + x) ∧ (¬ 9223372036854775807 < min k s + x + (s - (k + 1))) := by omega

set_option maxRecDepth 100000 in
set_option maxHeartbeats 8000000 in
theorem bad3 {a p : Nat} (t : ByteArray) (h1 : 1 ≤ t.size) (h2 : t.size ≤ 100000) {w : World} (hr : Rd a p w) (hp : p ≤ 900000) :
    Calls Try.prog 44 #[.pointer (some ⟨a, 0, none⟩), .string t] w (DrP a p 0 (t.size + 1) 3 w) := by
  have HR := Lib.hid hr
  have hlt := hr.lt
  clear hr
  have C := Lib.hid (pick_any 40 HR.out (by omega) (by omega) (by omega))
  go_enter Try.func44, Try.ntmps44
  go_wp2_with fail
  refine C.out.mono ?_
  rintro e w1 ⟨k, k0, k1, rfl, hr, hk⟩
  have HR1 := Lib.hid hr
  have HK1 := Lib.hid hk
  clear hr hk C
  by_cases e0 : k = 0
  · subst e0
    have hneL : w1.heap.size ≠ a := by have := HK1.out.size; omega
    have HL := Lib.hid (Blk.new w1 #[.string (⟨#[115]⟩), .string (⟨#[120]⟩), .string (⟨#[32]⟩)] 9)
    have hax := (Below.refl _ w1).alloc (Nat.le_refl _) (.cells #[.string (⟨#[115]⟩), .string (⟨#[120]⟩), .string (⟨#[32]⟩)] 9)
    have HRx := Lib.hid (HR1.out.kept hax)
    have HKx := Lib.hid (HK1.out.next hax)
    clear hax
    have HQ : Hid (∀ i, i < 3 → ∃ s, (#[.string (⟨#[115]⟩), .string (⟨#[120]⟩), .string (⟨#[32]⟩)] : Array Value)[i]? = some (.string s) ∧ s.size = 1) := fun i hi => by
      have hi : i = 0 ∨ i = 1 ∨ i = 2 := by omega
      rcases hi with rfl | rfl | rfl <;> exact ⟨_, rfl, by decide⟩
    go_wp2_with fail
    refine (of_any 3 3 (fun s => s.size = 1) HRx.out (by omega) HL.out hneL (by omega) (by omega) HQ.out).mono ?_
    rintro e w2 ⟨x, hx, rfl, hr, hk⟩
    have HR2 := Lib.hid hr
    have HK2 := Lib.hid (HKx.out.trans hk)
    clear hr hk
    have n1 := szb h2 hx
    go_wp2_with fail
    go_ret
    exact ⟨_, p + 1 + 1, Nat.zero_le _, by rw [ByteArray.size_append, hx]; exact Nat.le_refl _, by omega, rfl, HR2.out, HK2.out⟩
  have g0 : (k == 0) = false := by rw [beq_eq_false_iff_ne]; exact e0
  clear e0
  by_cases e1 : k = 1
  · subst e1
    have ew : IntKind.i64.wrap ((t.size : Int) - 1) = ((t.size - 1 : Nat) : Int) := (IntWalk.i64_in _ (by omega)).trans (by omega)
    go_wp2_with fail
    go_ret
    exact ⟨_, p + 1, Nat.zero_le _, by simp only [ByteArray.size_extract]; omega, by omega, rfl, HR1.out, HK1.out⟩
  have g1 : (k == 1) = false := by rw [beq_eq_false_iff_ne]; exact e1
  clear e1
  by_cases e2 : k = 2
  · subst e2
    have C := Lib.hid (pick_any (t.size : Int) HR1.out (by omega) (by omega) (by omega))
    go_wp2_with fail
    refine C.out.mono ?_
    rintro e w2 ⟨k, k0, k1, rfl, hr, hk⟩
    have HR2 := Lib.hid hr
    have HK2 := Lib.hid (HK1.out.trans hk)
    clear hr hk C g0 g1
    obtain ⟨k, rfl⟩ := Int.eq_ofNat_of_zero_le k0
    have hk1 : k + 1 ≤ t.size := by omega
    have hneL : w2.heap.size ≠ a := by have := HK2.out.size; omega
    have HL := Lib.hid (Blk.new w2 #[.string (⟨#[88]⟩), .string (⟨#[119]⟩), .string (⟨#[59]⟩), .string (⟨#[64]⟩)] 9)
    have hax := (Below.refl _ w2).alloc (Nat.le_refl _) (.cells #[.string (⟨#[88]⟩), .string (⟨#[119]⟩), .string (⟨#[59]⟩), .string (⟨#[64]⟩)] 9)
    have HRx := Lib.hid (HR2.out.kept hax)
    have HKx := Lib.hid (HK2.out.next hax)
    clear hax
    have HQ : Hid (∀ i, i < 4 → ∃ s, (#[.string (⟨#[88]⟩), .string (⟨#[119]⟩), .string (⟨#[59]⟩), .string (⟨#[64]⟩)] : Array Value)[i]? = some (.string s) ∧ s.size = 1) := fun i hi => by
      have hi : i = 0 ∨ i = 1 ∨ i = 2 ∨ i = 3 := by omega
      rcases hi with rfl | rfl | rfl | rfl <;> exact ⟨_, rfl, by decide⟩
    have hs0 : SB a (p + 3) w w2.drew := ⟨_, by omega, HR2.out.kept (Below.refl _ _).drew, HK2.out.next (Below.refl _ _).drew⟩
    have hs1 : SB a (p + 3) w (w2.alloc (.cells #[.string (⟨#[88]⟩), .string (⟨#[119]⟩), .string (⟨#[59]⟩), .string (⟨#[64]⟩)] 9)).drew := ⟨_, by omega, HRx.out.kept (Below.refl _ _).drew, HKx.out.next (Below.refl _ _).drew⟩
    have HRy := Lib.hid (HRx.out.kept (Below.refl _ _).drew)
    have HKy := Lib.hid (HKx.out.next (Below.refl _ _).drew)
    have HLy := Lib.hid HL.out.drew
    have C := Lib.hid (of_any 4 4 (fun s => s.size = 1) HRy.out (by omega) HLy.out hneL (by omega) (by omega) HQ.out)
    have ew : IntKind.i64.wrap ((k : Int) + 1) = (k : Int) + 1 := IntWalk.i64_in _ (by omega)
    have hq0 : (0 : Int) ≤ (k : Int) + 1 := by omega
    have hq1 : (k : Int) ≤ (t.size : Int) := by omega
    have hq2 : (k : Int) + 1 ≤ (t.size : Int) := by omega
    have hq3 : k ≤ t.size := by omega
    have hq4 : ((k : Int) + 1).toNat = k + 1 := by omega
    have hq5 : min k t.size = k := by omega
    clear HR HR1 HK1 HL HRx HQ HLy HKx
    go_wp2_with fail
    go_region_held3 (fun w' => SB a (p + 3) w w')
      (first | assumption | (go_split_ands; assumption))
      (first
        | (go_at_call 60; (with_reducible refine C.out.mono ?_); rintro e w6 ⟨s, hs, rfl, hr, hk⟩; have hbw3 : SB a (p + 3) w w6 := ⟨_, by omega, hr, HKy.out.trans hk⟩; obtain ⟨n0, n1, n2, n3, n4⟩ := szc h2 hs hk1; replace hs := Lib.hid hs))
    all_goals
      go_split_ands
      go_wp2_with fail
      go_ret
      have hz : (t.extract 0 k ++ s ++ t.extract (k + 1) t.size).size ≤ t.size + 1 := by simp only [ByteArray.size_append, ByteArray.size_extract, hs.out]; omega
      exact sb_done hz rfl (by assumption)
  have g2 : (k == 2) = false := by rw [beq_eq_false_iff_ne]; exact e2
  clear e2
  go_wp2_with fail
  go_ret
  exact ⟨_, p + 1, Nat.zero_le _, by omega, by omega, rfl, HR1.out, HK1.out⟩

set_option maxHeartbeats 4000000 in
theorem open3 {a p : Nat} {w : World} (hr : Rd a p w) (hp : p ≤ 200000) :
    Calls Try.prog 27 #[.pointer (some ⟨a, 0, none⟩)] w (DrP a p 0 153 352 w) := by
  have HC := Lib.hid (some3 hr hp)
  clear hr
  go_enter Try.func27, Try.ntmps27
  go_wp2_with fail
  refine HC.out.mono ?_
  rintro e w1 ⟨x, q, x1, x2, hq, rfl, hr, hk⟩
  have HK1 := Lib.hid hk
  have HC := Lib.hid (bad3 x x1 (by omega) hr (by omega))
  clear hr hk
  go_wp2_with fail
  refine HC.out.mono ?_
  rintro e w2 ⟨y, q', y1, y2, hq', rfl, hr, hk⟩
  have HR2 := Lib.hid hr
  have HK2 := Lib.hid (HK1.out.trans hk)
  clear hr hk
  go_wp2_with fail
  go_ret
  exact ⟨y, q', y1, by omega, by omega, rfl, HR2.out, HK2.out⟩

set_option maxHeartbeats 4000000 in
theorem dDrawPartsOf {a : Option Addr} {len cap : Nat} {zs : List Int} {w : World} (h : IsRow w a len cap zs) :
    Calls Try.prog 7 #[.slice a len cap] w fun e w' => ∃ t : ByteArray, t.size ≤ 153 ∧ e = .returned (.string t) ∧ Below w.heap.size w w' := by
  have HO := Lib.hid (open_any h)
  clear h
  go_enter Try.func7, Try.ntmps7
  go_wp2_with fail
  refine HO.out.mono ?_
  rintro e w1 ⟨rfl, hr, hb⟩
  have HW1 := Lib.hid hb
  have HC := Lib.hid (open3 hr (by omega))
  clear hr hb
  go_wp2_with fail
  refine HC.out.mono ?_
  rintro e w2 ⟨t, q, t1, t2, hq, rfl, hr, hk⟩
  have HW2 := Lib.hid (HW1.out.trans (hk.below (Nat.le_refl _) HW1.out.size))
  clear hr hk
  go_wp2_with fail
  go_ret
  exact ⟨t, t2, rfl, HW2.out⟩

set_option maxHeartbeats 4000000 in
theorem dDrawReadsOf {a : Option Addr} {len cap : Nat} {zs : List Int} {w : World} (h : IsRow w a len cap zs) :
    Calls Try.prog 14 #[.slice a len cap] w fun e w' => ∃ t : ByteArray, t.size ≤ 153 ∧ e = .returned (.string t) ∧ Below w.heap.size w w' := by
  have HO := Lib.hid (open_any h)
  clear h
  go_enter Try.func14, Try.ntmps14
  go_wp2_with fail
  refine HO.out.mono ?_
  rintro e w1 ⟨rfl, hr, hb⟩
  have HW1 := Lib.hid hb
  have HC := Lib.hid (open3 hr (by omega))
  clear hr hb
  go_wp2_with fail
  refine HC.out.mono ?_
  rintro e w2 ⟨t, q, t1, t2, hq, rfl, hr, hk⟩
  have HW2 := Lib.hid (HW1.out.trans (hk.below (Nat.le_refl _) HW1.out.size))
  clear hr hk
  go_wp2_with fail
  go_ret
  exact ⟨t, t2, rfl, HW2.out⟩

set_option maxHeartbeats 4000000 in
theorem dDrawShowProgram {a : Option Addr} {len cap : Nat} {zs : List Int} {w : World} (h : IsRow w a len cap zs) :
    Calls Try.prog 20 #[.slice a len cap] w fun e w' => ∃ t : ByteArray, t.size ≤ 153 ∧ e = .returned (.string t) ∧ Below w.heap.size w w' := by
  have HO := Lib.hid (open_any h)
  clear h
  go_enter Try.func20, Try.ntmps20
  go_wp2_with fail
  refine HO.out.mono ?_
  rintro e w1 ⟨rfl, hr, hb⟩
  have HW1 := Lib.hid hb
  have HC := Lib.hid (open3 hr (by omega))
  clear hr hb
  go_wp2_with fail
  refine HC.out.mono ?_
  rintro e w2 ⟨t, q, t1, t2, hq, rfl, hr, hk⟩
  have HW2 := Lib.hid (HW1.out.trans (hk.below (Nat.le_refl _) HW1.out.size))
  clear hr hk
  go_wp2_with fail
  go_ret
  exact ⟨t, t2, rfl, HW2.out⟩
end Go.Proofs.Ytemkndpiljfefaa

namespace Go.Proofs.Ytemkndpiljfefaa
open Go.RowKit

set_option maxHeartbeats 4000000 in
theorem which_any {a p : Nat} {w : World} (hr : Rd a p w) (hp : p ≤ 900000) :
    Calls Try.prog 40 #[.pointer (some ⟨a, 0, none⟩)] w fun e w' => ∃ s : ByteArray, s.size ≤ 2 ∧ e = .returned (.string s) ∧ Rd a (p + 1) w' ∧ Kp a w w' := by
  have HL := Lib.hid (Blk.new w #[.string ⟨#[120]⟩, .string ⟨#[121]⟩, .string ⟨#[122]⟩, .string ⟨#[120]⟩, .string ⟨#[121]⟩, .string ⟨#[122]⟩, .string ⟨#[120]⟩, .string ⟨#[121]⟩, .string ⟨#[]⟩, .string ⟨#[88]⟩, .string ⟨#[119]⟩, .string ⟨#[120, 121]⟩] 9)
  have hax := (Below.refl _ w).alloc (Nat.le_refl _) (.cells #[.string ⟨#[120]⟩, .string ⟨#[121]⟩, .string ⟨#[122]⟩, .string ⟨#[120]⟩, .string ⟨#[121]⟩, .string ⟨#[122]⟩, .string ⟨#[120]⟩, .string ⟨#[121]⟩, .string ⟨#[]⟩, .string ⟨#[88]⟩, .string ⟨#[119]⟩, .string ⟨#[120, 121]⟩] 9)
  have HR := Lib.hid (hr.kept hax)
  have HK := Lib.hid ((Kp.refl a w).next hax)
  have hneL : w.heap.size ≠ a := by have := hr.lt; omega
  clear hax hr
  go_enter Try.func40, Try.ntmps40
  go_wp2_with fail
  refine (of_any 12 12 (fun s => s.size ≤ 2) HR.out (by omega) HL.out hneL (by omega) (by omega) (fun i hi => by
    have hi : i = 0 ∨ i = 1 ∨ i = 2 ∨ i = 3 ∨ i = 4 ∨ i = 5 ∨ i = 6 ∨ i = 7 ∨ i = 8 ∨ i = 9 ∨ i = 10 ∨ i = 11 := by omega
    rcases hi with rfl | rfl | rfl | rfl | rfl | rfl | rfl | rfl | rfl | rfl | rfl | rfl <;> exact ⟨_, rfl, by decide⟩)).mono ?_
  rintro e w1 ⟨s, hs, rfl, hr, hk⟩
  have HR1 := Lib.hid hr
  have HK1 := Lib.hid (HK.out.trans hk)
  clear hr hk
  go_wp2_with fail
  go_ret
  exact ⟨s, hs, rfl, HR1.out, HK1.out⟩

end Go.Proofs.Ytemkndpiljfefaa

namespace Go.Proofs.Ytemkndpiljfefaa
open Go.RowKit

theorem ext1 (s : ByteArray) (i : Nat) (h : i < s.size) : s.extract i (i + 1) = ⟨#[s[i]]⟩ := by
  apply ByteArray.ext
  rw [ByteArray.data_extract]
  apply Array.ext
  · simp; have : s.data.size = s.size := rfl; omega
  · intro j h1 h2
    simp at h2
    subst h2
    simp; rfl

set_option maxHeartbeats 1000000 in
/-- ppHas(s, v) for a text v of one byte. -/
theorem has_any (s : ByteArray) (c : UInt8) (w : World) (hs : s.size ≤ 1000000) : Calls Try.prog 19 #[.string s, .string ⟨#[c]⟩] w fun e w' => e = .returned (.bool (decide (c ∈ s.data.toList))) ∧ w = w' := by
  obtain ⟨R, hR⟩ : ∃ R, decide (c ∈ s.data.toList) = R := ⟨_, rfl⟩
  have HR := Lib.hid hR
  rw [hR]
  clear hR
  go_enter Try.func19, Try.ntmps19
  go_wp2
  go_loop [5] (fun i => ∃ k : Nat, k ≤ s.size ∧ i = .int .i64 k ∧ Hid (∀ j, j < k → s.data.toList[j]? ≠ some c)) (fun i => s.size - (intOf i).toNat)
  case atStart => exact ⟨0, Nat.zero_le _, rfl, fun j hj => by omega⟩
  case round =>
    obtain ⟨k, hk, rfl, HH⟩ := hrel
    by_cases hlt : k < s.size
    · have hd : Hid (s.data.toList[k]? = some s[k]) := List.getElem?_eq_getElem (by simpa using hlt)
      have h1 : (k : Int) ≤ (s.size : Int) := by omega
      have h2 : (k : Int) + 1 ≤ (s.size : Int) := by omega
      by_cases hc : s[k] = c
      · have hfin : Hid (R = true) := HR.out.symm.trans <| decide_eq_true (List.mem_of_getElem? (hd.out.trans (by rw [hc])))
        have ht : ((s.extract k (k + 1)).toList == [c]) = true := by rw [ByteArray.toList_eq, ext1 s k hlt, hc]; simp
        clear hc
        go_wp2
        go_ret
        exact ⟨by rw [hfin.out]; rfl, rfl⟩
      · have ht : ((s.extract k (k + 1)).toList == [c]) = false := by
          rw [ByteArray.toList_eq, ext1 s k hlt]
          simpa using hc
        have H2 : Hid (∀ j, j < k + 1 → s.data.toList[j]? ≠ some c) := fun j hj => by
          by_cases e : j = k
          · subst e; rw [hd.out]; simpa using hc
          · exact HH.out j (by omega)
        clear hc
        go_wp2
        go_round
        case rel => exact ⟨k + 1, by omega, by go_num, H2⟩
        case measure => simp [intOf]; omega
    · have hfin : Hid (R = false) := HR.out.symm.trans <| decide_eq_false fun hm => by
        obtain ⟨j, hj, e⟩ := List.getElem_of_mem hm
        exact HH.out j (by simp at hj; have : s.data.size = s.size := rfl; omega) (by rw [List.getElem?_eq_getElem hj, e])
      go_wp2
      go_ret
      exact ⟨by rw [hfin.out]; rfl, rfl⟩
end Go.Proofs.Ytemkndpiljfefaa

namespace Go.Proofs.Ytemkndpiljfefaa
open Go.RowKit


end Go.Proofs.Ytemkndpiljfefaa

namespace Go.Proofs.Ytemkndpiljfefaa
open Go.RowKit

def plainB (p : Pg) : Bool := decide (fnd (p.all.map Pg.letter) 47 < 0) && decide (fnd (p.all.map Pg.letter) 126 < 0)
def BoolPost (b : Bool) (w : World) (e : Ending) (w' : World) : Prop := e = .returned (.bool b) ∧ Below w.heap.size w w'
end Go.Proofs.Ytemkndpiljfefaa

namespace Go.Proofs.Ytemkndpiljfefaa
open Go.RowKit

set_option maxHeartbeats 1000000 in
theorem implSize_yes (s : ByteArray) (w : World) {p : Pg} (hp : p.ok false) (hs : s.data.toList = p.ser) (hl : s.size ≤ 200) :
    Calls Try.prog 26 #[.string s] w (IntPost p.all.length w) := by
  have hsz : p.ser.length ≤ 1000 := by have := congrArg List.length hs; simp at this; omega
  have HC := fun w => Lib.hid (prog_yes s w hp hs hl)
  have HW := Lib.hid (win_any p hsz)
  clear hs
  go_enter Try.func26, Try.ntmps26
  go_wp2_with fail
  refine (HC _).out.mono ?_
  rintro e w1 ⟨T, u, rfl, hst, hb⟩
  have HB := Lib.hid hb
  have HST := Lib.hid hst
  clear hb hst
  go_wp2_with fail
  refine (HW.out w1 w.heap.size T u _ HST.out (Below.refl _ _)).mono ?_
  rintro e w2 ⟨sl, vs, rfl, hvs, hrow, hb⟩
  have hlen := hvs.len
  have HL := Lib.hid hlen
  obtain ⟨a, cap, rfl⟩ : ∃ a cap, sl = .slice a vs.length cap := by
    rcases hrow.cases with ⟨h1, h2⟩ | ⟨g, cap, h1, _⟩
    · rw [h2]; exact ⟨_, _, h1⟩
    · exact ⟨_, _, h1⟩
  clear hlen hvs hrow
  have HB2 := Lib.hid (bnext HB.out hb)
  clear hb
  go_wp2_with fail
  go_ret
  exact ⟨by rw [← HL.out]; rfl, HB2.out⟩
set_option maxHeartbeats 1000000 in
theorem implSize_no (s : ByteArray) (w : World) (h : ¬ (PValid false s.data.toList ∧ s.size ≤ 200)) :
    Calls Try.prog 26 #[.string s] w (IntPost (-1) w) := by
  have HC := fun w => Lib.hid (prog_no s w h)
  clear h
  go_enter Try.func26, Try.ntmps26
  go_wp2_with fail
  refine (HC _).out.mono ?_
  rintro e w1 ⟨rfl, hb⟩
  have HB := Lib.hid hb
  clear hb
  go_wp2_with fail
  go_ret
  exact ⟨rfl, HB.out⟩

/-- A row of statements, as the loops read it. -/
theorem stvs_ix {w0 w : World} {B B' : Nat} {T : TypeId} {v : Value} {ps : List Pg} {vs : List Value} (hv : StVs w0 B ps vs) (h : Row w B' T v vs) : ∃ a cap, v = .slice a ps.length cap ∧ ∀ (m : Nat) (hm : m < ps.length), ∃ g T u, a = some ⟨g, 0, none⟩ ∧ B' ≤ g ∧ w.cell? ⟨g, m, none⟩ = some (.iface T (.agg u)) ∧ StV w0 B ps[m] (.iface T (.agg u)) := by
  have hl := hv.len
  rcases h.cases with ⟨h1, h2⟩ | ⟨g, cap, h1, hb, _, h3⟩
  · have : ps = [] := by
      rw [h2] at hl
      exact List.eq_nil_of_length_eq_zero hl.symm
    subst this
    exact ⟨_, _, h1, fun m hm => by simp at hm⟩
  · rw [hl] at h1
    refine ⟨_, _, h1, fun m hm => ?_⟩
    obtain ⟨T, u, h4, h5⟩ := StVs.at m hm hv
    exact ⟨g, T, u, rfl, hb, h3 m _ h4, h5⟩

theorem cntB_le (c : UInt8) (l : List UInt8) : cntB c l ≤ l.length := List.countP_le_length
theorem cntB_snoc (c d : UInt8) (l : List UInt8) : cntB c (l ++ [d]) = cntB c l + if d == c then 1 else 0 := by
  unfold cntB
  rw [List.countP_append]
  by_cases h : d == c <;> simp [h]

theorem fnd_mem {l : List UInt8} {c : UInt8} : fnd l c < 0 ↔ c ∉ l := by
  unfold fnd
  cases h : l.findIdx? (· == c) with
  | none =>
    rw [List.findIdx?_eq_none_iff] at h
    simp
    intro hc; have := h c hc; simp at this
  | some i =>
    rw [List.findIdx?_eq_some_iff_getElem] at h
    obtain ⟨hi, h1, _⟩ := h
    simp at h1
    simp
    refine ⟨by omega, ?_⟩
    rw [← h1]; exact fun hn => absurd (List.getElem_mem hi) hn
def quietP (q : Pg) : Prop := q.letter ≠ 47 ∧ q.letter ≠ 126
theorem plainB_iff (p : Pg) : plainB p = true ↔ ∀ q ∈ p.all, quietP q := by
  unfold plainB quietP
  rw [Bool.and_eq_true, decide_eq_true_eq, decide_eq_true_eq, fnd_mem, fnd_mem]
  simp only [List.mem_map, not_exists, not_and]
  exact ⟨fun h q hq => ⟨h.1 q hq, h.2 q hq⟩, fun h => ⟨fun q hq => (h q hq).1, fun q hq => (h q hq).2⟩⟩

end Go.Proofs.Ytemkndpiljfefaa

namespace Go.Proofs.Ytemkndpiljfefaa
open Go.RowKit Tm

theorem text_eq {s : ByteArray} {p : Pg} (h : s.data.toList = p.ser) : s = bs p.ser := by
  apply ByteArray.ext
  apply Array.ext'
  exact h.trans (bs_list _).symm
/-- What the first two calls of l3Show give. -/
theorem ls_pre (wide : Bool) (p : Pg) (hp : p.ok wide) (hn : p.ser.length ≤ 1000) : ∃ h0 : 0 < (bs p.ser).size, (bs p.ser)[0] = p.letter ∧ (bs p.ser).extract 1 (1 + p.hd.length) = bs p.hd ∧ (1 : Int) ≤ 1 + (p.hd.length : Int) ∧ 1 + (p.hd.length : Int) ≤ ((bs p.ser).size : Int) ∧
    (∀ w, Calls Try.prog 32 #[.string (bs p.ser), .bool wide] w (Quiet (.int .i64 (1 + p.hd.length : Nat)) w)) ∧ (∀ w, Calls Try.prog 31 #[.string (bs p.ser), .bool wide] w (RowPost 9 (strs (p.pks.map Pg.ser)) w)) := by
  have hs : (bs p.ser).data.toList = p.letter :: (p.hd ++ p.pks.flatMap Pg.ser) := by rw [bs_list, p.ser_eq]
  obtain ⟨h0, hb⟩ := byte0 hs
  have hsz : (bs p.ser).size = 1 + p.hd.length + (p.pks.flatMap Pg.ser).length := by rw [bs_size, p.ser_eq, List.length_cons, List.length_append]; omega
  exact ⟨h0, hb, extract_bs (r := p.pks.flatMap Pg.ser) (by rw [hs]; rfl) rfl (by omega), by omega, by omega, fun w => lh_any wide p hp _ (bs_list _) (by rw [bs_size]; omega) w, fun w => parts_any wide p hp _ (bs_list _) (by rw [bs_size]; omega) w⟩

set_option maxRecDepth 100000 in
set_option maxHeartbeats 8000000 in
theorem ls_skip (wide : Bool)  (hp : (Pg.skip).ok wide) (hn : (Pg.skip).ser.length ≤ 1000) (w : World) (R : ByteArray) (hR : ⟨#[115, 107, 105, 112]⟩ = R) :
    Calls Try.prog 39 #[.string (bs (Pg.skip).ser), .bool wide] w (TextPost R w) := by
  have HR := Lib.hid hR
  clear hR 
  obtain ⟨h0, hb0, hx, hl1, hl2, hh, hpp⟩ := ls_pre wide (Pg.skip) hp hn
  have hc : ((bs (Pg.skip).ser)[0].toNat : Int) = 115 := by rw [hb0]; rfl
  have HH := fun w => Lib.hid (hh w)
  have HP := fun w => Lib.hid (hpp w)
  have HX := Lib.hid hx
  have h0i : (0 : Int) < ((bs (Pg.skip).ser).size : Int) := by omega
  clear hh hpp hx hb0
  generalize bs (Pg.skip).ser = S at *
  generalize (Pg.skip).hd.length = hn1 at *
  go_enter Try.func39, Try.ntmps39
  go_wp2_with fail
  refine (HH _).out.mono ?_
  rintro e w1 ⟨rfl, n0, rfl⟩
  go_wp2_with fail
  refine (HP _).out.mono ?_
  rintro e w2 ⟨sl, rfl, hrow, hb⟩
  have hB2 := bnext (bdrewN (Below.refl w.heap.size w) n0) hb
  obtain ⟨g, cap, rfl⟩ := Row.zero (show Row w2 _ _ sl [] from hrow)
  clear hb hrow
  go_wp2_with fail
  go_ret
  exact ⟨by rw [← HR.out]; rfl, hB2⟩

set_option maxRecDepth 100000 in
set_option maxHeartbeats 8000000 in
theorem ls_asg (wide : Bool) (v : UInt8) (e : Tm) (hp : (Pg.asg v e).ok wide) (hn : (Pg.asg v e).ser.length ≤ 1000) (w : World) (r0 : ByteArray) (zr0 : r0.size ≤ 100000) (R : ByteArray) (hR : bs [v] ++ ⟨#[58, 61]⟩ ++ r0 = R)
    (c0 : ∀ w, Calls Try.prog 58 #[.string (bs (Pg.asg v e).hd), .int .i64 1] w fun e w' => (∃ k : Int, e = .returned (.tuple #[.string r0, .int .i64 k])) ∧ w' = w) :
    Calls Try.prog 39 #[.string (bs (Pg.asg v e).ser), .bool wide] w (TextPost R w) := by
  have C0 := Lib.hid c0
  have HR := Lib.hid hR
  clear hR c0
  obtain ⟨h0, hb0, hx, hl1, hl2, hh, hpp⟩ := ls_pre wide (Pg.asg v e) hp hn
  have hc : ((bs (Pg.asg v e).ser)[0].toNat : Int) = 97 := by rw [hb0]; rfl
  have HH := fun w => Lib.hid (hh w)
  have HP := fun w => Lib.hid (hpp w)
  have HX := Lib.hid hx
  have h0i : (0 : Int) < ((bs (Pg.asg v e).ser).size : Int) := by omega
  have hxv : Hid ((bs (Pg.asg v e).hd).extract 0 1 = bs [v]) := extract_bs (s := bs (Pg.asg v e).hd) (a := 0) (n := 1) (x := [v]) (r := e.ser) (by rw [bs_list]; rfl) rfl (Nat.zero_le _)
  have hsv : (1 : Int) ≤ ((bs (Pg.asg v e).hd).size : Int) := by rw [bs_size]; simp [Pg.hd]; omega
  have zV : (bs [v]).size ≤ 100000 := by rw [bs_size]; simp
  clear hh hpp hx hb0
  generalize bs (Pg.asg v e).ser = S at *
  generalize (Pg.asg v e).hd.length = hn1 at *
  go_enter Try.func39, Try.ntmps39
  go_wp2_with fail
  refine (HH _).out.mono ?_
  rintro e w1 ⟨rfl, n0, rfl⟩
  go_wp2_with fail
  refine (HP _).out.mono ?_
  rintro e w2 ⟨sl, rfl, hrow, hb⟩
  have hB2 := bnext (bdrewN (Below.refl w.heap.size w) n0) hb
  obtain ⟨g, cap, rfl⟩ := Row.zero (show Row w2 _ _ sl [] from hrow)
  clear hb hrow
  have hHD := HX.out
  clear HX
  generalize bs (Pg.asg v e).hd = HD at *
  generalize bs [v] = V at *
  have f1 : ¬ (9223372036854775807 < V.size + 2) := by omega
  have f2 : ¬ (9223372036854775807 < V.size + 2 + r0.size) := by omega
  go_wp2_with fail
  have hxv' := hxv.out
  refine (C0.out _).mono ?_
  rintro e w3 ⟨⟨k, rfl⟩, rfl⟩
  go_wp2_with fail
  go_ret
  exact ⟨by rw [← HR.out]; rfl, hB2⟩

set_option maxRecDepth 100000 in
set_option maxHeartbeats 8000000 in
theorem ls_seq (wide : Bool) (a b : Pg) (hp : (Pg.seq a b).ok wide) (hn : (Pg.seq a b).ser.length ≤ 1000) (w : World) (r1 r2 : ByteArray) (zr1 : r1.size ≤ 100000) (zr2 : r2.size ≤ 100000) (R : ByteArray) (hR : r1 ++ ⟨#[59, 32]⟩ ++ r2 = R)
    (c1 : ∀ w, Calls Try.prog 39 #[.string (bs a.ser), .bool wide] w (TextPost r1 w))
    (c2 : ∀ w, Calls Try.prog 39 #[.string (bs b.ser), .bool wide] w (TextPost r2 w)) :
    Calls Try.prog 39 #[.string (bs (Pg.seq a b).ser), .bool wide] w (TextPost R w) := by
  have C1 := Lib.hid c1
  have C2 := Lib.hid c2
  have HR := Lib.hid hR
  clear hR c1 c2
  obtain ⟨h0, hb0, hx, hl1, hl2, hh, hpp⟩ := ls_pre wide (Pg.seq a b) hp hn
  have hc : ((bs (Pg.seq a b).ser)[0].toNat : Int) = 59 := by rw [hb0]; rfl
  have HH := fun w => Lib.hid (hh w)
  have HP := fun w => Lib.hid (hpp w)
  have HX := Lib.hid hx
  have h0i : (0 : Int) < ((bs (Pg.seq a b).ser).size : Int) := by omega
  clear hh hpp hx hb0
  generalize bs (Pg.seq a b).ser = S at *
  generalize (Pg.seq a b).hd.length = hn1 at *
  go_enter Try.func39, Try.ntmps39
  go_wp2_with fail
  refine (HH _).out.mono ?_
  rintro e w1 ⟨rfl, n0, rfl⟩
  go_wp2_with fail
  refine (HP _).out.mono ?_
  rintro e w2 ⟨sl, rfl, hrow, hb⟩
  have hB2 := bnext (bdrewN (Below.refl w.heap.size w) n0) hb
  obtain ⟨g, cap, rfl, hg, k1, k2⟩ := Row.two' (show Row w2 _ _ sl [_, _] from hrow)
  clear hb hrow hg
  have f1 : ¬ (9223372036854775807 < r1.size + 2) := by omega
  have f2 : ¬ (9223372036854775807 < r1.size + 2 + r2.size) := by omega
  go_wp2_with fail
  have hB' := hB2.drew
  go_region_held3 (fun w' => Below w.heap.size w w' ∧ w'.cell? ⟨g, 0, none⟩ = some (.string (bs a.ser)) ∧ w'.cell? ⟨g, 1, none⟩ = some (.string (bs b.ser)))
    ((go_split_ands; refine ⟨?_, ?_, ?_⟩ <;> first | assumption | exact ckeep hq (by assumption) | exact Below.trans (by assumption) (hq.mono (by have := Below.size (by assumption : Below w.heap.size w _); omega))))
    (first | (go_at_call 39; (with_reducible refine (C1.out _).mono ?_); rintro e w2 ⟨rfl, hq⟩) | (go_at_call 39; (with_reducible refine (C2.out _).mono ?_); rintro e w2 ⟨rfl, hq⟩))
  all_goals
    go_wp2_with fail
    go_split_ands
    go_ret
    exact ⟨by rw [← HR.out]; rfl, by assumption⟩

set_option maxRecDepth 100000 in
set_option maxHeartbeats 8000000 in
theorem ls_cho (wide : Bool) (a b : Pg) (hp : (Pg.cho a b).ok wide) (hn : (Pg.cho a b).ser.length ≤ 1000) (w : World) (r1 r2 : ByteArray) (zr1 : r1.size ≤ 100000) (zr2 : r2.size ≤ 100000) (R : ByteArray) (hR : ⟨#[101, 105, 116, 104, 101, 114, 32, 123]⟩ ++ r1 ++ ⟨#[125, 32, 111, 114, 32, 123]⟩ ++ r2 ++ ⟨#[125]⟩ = R)
    (c1 : ∀ w, Calls Try.prog 39 #[.string (bs a.ser), .bool wide] w (TextPost r1 w))
    (c2 : ∀ w, Calls Try.prog 39 #[.string (bs b.ser), .bool wide] w (TextPost r2 w)) :
    Calls Try.prog 39 #[.string (bs (Pg.cho a b).ser), .bool wide] w (TextPost R w) := by
  have C1 := Lib.hid c1
  have C2 := Lib.hid c2
  have HR := Lib.hid hR
  clear hR c1 c2
  obtain ⟨h0, hb0, hx, hl1, hl2, hh, hpp⟩ := ls_pre wide (Pg.cho a b) hp hn
  have hc : ((bs (Pg.cho a b).ser)[0].toNat : Int) = 47 := by rw [hb0]; rfl
  have HH := fun w => Lib.hid (hh w)
  have HP := fun w => Lib.hid (hpp w)
  have HX := Lib.hid hx
  have h0i : (0 : Int) < ((bs (Pg.cho a b).ser).size : Int) := by omega
  clear hh hpp hx hb0
  generalize bs (Pg.cho a b).ser = S at *
  generalize (Pg.cho a b).hd.length = hn1 at *
  go_enter Try.func39, Try.ntmps39
  go_wp2_with fail
  refine (HH _).out.mono ?_
  rintro e w1 ⟨rfl, n0, rfl⟩
  go_wp2_with fail
  refine (HP _).out.mono ?_
  rintro e w2 ⟨sl, rfl, hrow, hb⟩
  have hB2 := bnext (bdrewN (Below.refl w.heap.size w) n0) hb
  obtain ⟨g, cap, rfl, hg, k1, k2⟩ := Row.two' (show Row w2 _ _ sl [_, _] from hrow)
  clear hb hrow hg
  have f1 : ¬ (9223372036854775807 < 8 + r1.size) := by omega
  have f2 : ¬ (9223372036854775807 < 8 + r1.size + 6) := by omega
  have f3 : ¬ (9223372036854775807 < 8 + r1.size + 6 + r2.size) := by omega
  have f4 : ¬ (9223372036854775807 < 8 + r1.size + 6 + r2.size + 1) := by omega
  go_wp2_with fail
  have hB' := hB2.drew
  go_region_held3 (fun w' => Below w.heap.size w w' ∧ w'.cell? ⟨g, 0, none⟩ = some (.string (bs a.ser)) ∧ w'.cell? ⟨g, 1, none⟩ = some (.string (bs b.ser)))
    ((go_split_ands; refine ⟨?_, ?_, ?_⟩ <;> first | assumption | exact ckeep hq (by assumption) | exact Below.trans (by assumption) (hq.mono (by have := Below.size (by assumption : Below w.heap.size w _); omega))))
    (first | (go_at_call 39; (with_reducible refine (C1.out _).mono ?_); rintro e w2 ⟨rfl, hq⟩) | (go_at_call 39; (with_reducible refine (C2.out _).mono ?_); rintro e w2 ⟨rfl, hq⟩))
  all_goals
    go_wp2_with fail
    go_split_ands
    go_ret
    exact ⟨by rw [← HR.out]; rfl, by assumption⟩

set_option maxRecDepth 100000 in
set_option maxHeartbeats 8000000 in
theorem ls_ite (wide : Bool) (t : Tm) (a b : Pg) (hp : (Pg.ite t a b).ok wide) (hn : (Pg.ite t a b).ser.length ≤ 1000) (w : World) (r0 r1 r2 : ByteArray) (zr0 : r0.size ≤ 100000) (zr1 : r1.size ≤ 100000) (zr2 : r2.size ≤ 100000) (R : ByteArray) (hR : ⟨#[105, 102, 32]⟩ ++ r0 ++ ⟨#[32, 123]⟩ ++ r1 ++ ⟨#[125, 32, 101, 108, 115, 101, 32, 123]⟩ ++ r2 ++ ⟨#[125]⟩ = R)
    (c0 : ∀ w, Calls Try.prog 59 #[.string (bs (Pg.ite t a b).hd), .int .i64 0] w fun e w' => (∃ k : Int, e = .returned (.tuple #[.string r0, .int .i64 k])) ∧ w' = w)
    (c1 : ∀ w, Calls Try.prog 39 #[.string (bs a.ser), .bool wide] w (TextPost r1 w))
    (c2 : ∀ w, Calls Try.prog 39 #[.string (bs b.ser), .bool wide] w (TextPost r2 w)) :
    Calls Try.prog 39 #[.string (bs (Pg.ite t a b).ser), .bool wide] w (TextPost R w) := by
  have C0 := Lib.hid c0
  have C1 := Lib.hid c1
  have C2 := Lib.hid c2
  have HR := Lib.hid hR
  clear hR c0 c1 c2
  obtain ⟨h0, hb0, hx, hl1, hl2, hh, hpp⟩ := ls_pre wide (Pg.ite t a b) hp hn
  have hc : ((bs (Pg.ite t a b).ser)[0].toNat : Int) = 63 := by rw [hb0]; rfl
  have HH := fun w => Lib.hid (hh w)
  have HP := fun w => Lib.hid (hpp w)
  have HX := Lib.hid hx
  have h0i : (0 : Int) < ((bs (Pg.ite t a b).ser).size : Int) := by omega
  clear hh hpp hx hb0
  generalize bs (Pg.ite t a b).ser = S at *
  generalize (Pg.ite t a b).hd.length = hn1 at *
  go_enter Try.func39, Try.ntmps39
  go_wp2_with fail
  refine (HH _).out.mono ?_
  rintro e w1 ⟨rfl, n0, rfl⟩
  go_wp2_with fail
  refine (HP _).out.mono ?_
  rintro e w2 ⟨sl, rfl, hrow, hb⟩
  have hB2 := bnext (bdrewN (Below.refl w.heap.size w) n0) hb
  obtain ⟨g, cap, rfl, hg, k1, k2⟩ := Row.two' (show Row w2 _ _ sl [_, _] from hrow)
  clear hb hrow hg
  have hHD := HX.out
  clear HX
  generalize bs (Pg.ite t a b).hd = HD at *
  have f1 : ¬ (9223372036854775807 < 3 + r0.size) := by omega
  have f2 : ¬ (9223372036854775807 < 3 + r0.size + 2) := by omega
  have f3 : ¬ (9223372036854775807 < 3 + r0.size + 2 + r1.size) := by omega
  have f4 : ¬ (9223372036854775807 < 3 + r0.size + 2 + r1.size + 8) := by omega
  have f5 : ¬ (9223372036854775807 < 3 + r0.size + 2 + r1.size + 8 + r2.size) := by omega
  have f6 : ¬ (9223372036854775807 < 3 + r0.size + 2 + r1.size + 8 + r2.size + 1) := by omega
  go_wp2_with fail
  refine (C0.out _).mono ?_
  rintro e w3 ⟨⟨k, rfl⟩, rfl⟩
  go_wp2_with fail
  have hB' := hB2.drew
  go_region_held3 (fun w' => Below w.heap.size w w' ∧ w'.cell? ⟨g, 0, none⟩ = some (.string (bs a.ser)) ∧ w'.cell? ⟨g, 1, none⟩ = some (.string (bs b.ser)))
    ((go_split_ands; refine ⟨?_, ?_, ?_⟩ <;> first | assumption | exact ckeep hq (by assumption) | exact Below.trans (by assumption) (hq.mono (by have := Below.size (by assumption : Below w.heap.size w _); omega))))
    (first | (go_at_call 39; (with_reducible refine (C1.out _).mono ?_); rintro e w2 ⟨rfl, hq⟩) | (go_at_call 39; (with_reducible refine (C2.out _).mono ?_); rintro e w2 ⟨rfl, hq⟩))
  all_goals
    go_wp2_with fail
    go_split_ands
    go_ret
    exact ⟨by rw [← HR.out]; rfl, by assumption⟩

set_option maxRecDepth 100000 in
set_option maxHeartbeats 8000000 in
theorem ls_whl (wide : Bool) (t : Tm) (a : Pg) (hp : (Pg.whl t a).ok wide) (hn : (Pg.whl t a).ser.length ≤ 1000) (w : World) (r0 r1 : ByteArray) (zr0 : r0.size ≤ 100000) (zr1 : r1.size ≤ 100000) (R : ByteArray) (hR : ⟨#[119, 104, 105, 108, 101, 32]⟩ ++ r0 ++ ⟨#[32, 123]⟩ ++ r1 ++ ⟨#[125]⟩ = R)
    (c0 : ∀ w, Calls Try.prog 59 #[.string (bs (Pg.whl t a).hd), .int .i64 0] w fun e w' => (∃ k : Int, e = .returned (.tuple #[.string r0, .int .i64 k])) ∧ w' = w)
    (c1 : ∀ w, Calls Try.prog 39 #[.string (bs a.ser), .bool wide] w (TextPost r1 w)) :
    Calls Try.prog 39 #[.string (bs (Pg.whl t a).ser), .bool wide] w (TextPost R w) := by
  have C0 := Lib.hid c0
  have C1 := Lib.hid c1
  have HR := Lib.hid hR
  clear hR c0 c1
  obtain ⟨h0, hb0, hx, hl1, hl2, hh, hpp⟩ := ls_pre wide (Pg.whl t a) hp hn
  have hc : ((bs (Pg.whl t a).ser)[0].toNat : Int) = 64 := by rw [hb0]; rfl
  have HH := fun w => Lib.hid (hh w)
  have HP := fun w => Lib.hid (hpp w)
  have HX := Lib.hid hx
  have h0i : (0 : Int) < ((bs (Pg.whl t a).ser).size : Int) := by omega
  clear hh hpp hx hb0
  generalize bs (Pg.whl t a).ser = S at *
  generalize (Pg.whl t a).hd.length = hn1 at *
  go_enter Try.func39, Try.ntmps39
  go_wp2_with fail
  refine (HH _).out.mono ?_
  rintro e w1 ⟨rfl, n0, rfl⟩
  go_wp2_with fail
  refine (HP _).out.mono ?_
  rintro e w2 ⟨sl, rfl, hrow, hb⟩
  have hB2 := bnext (bdrewN (Below.refl w.heap.size w) n0) hb
  obtain ⟨g, cap, rfl, hg, k1⟩ := Row.one' (show Row w2 _ _ sl [_] from hrow)
  clear hb hrow hg
  have hHD := HX.out
  clear HX
  generalize bs (Pg.whl t a).hd = HD at *
  have f1 : ¬ (9223372036854775807 < 6 + r0.size) := by omega
  have f2 : ¬ (9223372036854775807 < 6 + r0.size + 2) := by omega
  have f3 : ¬ (9223372036854775807 < 6 + r0.size + 2 + r1.size) := by omega
  have f4 : ¬ (9223372036854775807 < 6 + r0.size + 2 + r1.size + 1) := by omega
  go_wp2_with fail
  refine (C0.out _).mono ?_
  rintro e w3 ⟨⟨k, rfl⟩, rfl⟩
  go_wp2_with fail
  refine (C1.out _).mono ?_
  rintro e w4 ⟨rfl, hb⟩
  have HB := Lib.hid (bnext hB2 hb)
  clear hb k1
  go_wp2_with fail
  go_ret
  exact ⟨by rw [← HR.out]; rfl, HB.out⟩

set_option maxRecDepth 100000 in
set_option maxHeartbeats 8000000 in
theorem ls_asm (wide : Bool) (t : Tm) (hp : (Pg.asm t).ok wide) (hn : (Pg.asm t).ser.length ≤ 1000) (w : World) (r0 : ByteArray) (zr0 : r0.size ≤ 100000) (R : ByteArray) (hR : ⟨#[97, 115, 115, 117, 109, 101, 32]⟩ ++ r0 = R)
    (c0 : ∀ w, Calls Try.prog 59 #[.string (bs (Pg.asm t).hd), .int .i64 0] w fun e w' => (∃ k : Int, e = .returned (.tuple #[.string r0, .int .i64 k])) ∧ w' = w) :
    Calls Try.prog 39 #[.string (bs (Pg.asm t).ser), .bool wide] w (TextPost R w) := by
  have C0 := Lib.hid c0
  have HR := Lib.hid hR
  clear hR c0
  obtain ⟨h0, hb0, hx, hl1, hl2, hh, hpp⟩ := ls_pre wide (Pg.asm t) hp hn
  have hc : ((bs (Pg.asm t).ser)[0].toNat : Int) = 126 := by rw [hb0]; rfl
  have HH := fun w => Lib.hid (hh w)
  have HP := fun w => Lib.hid (hpp w)
  have HX := Lib.hid hx
  have h0i : (0 : Int) < ((bs (Pg.asm t).ser).size : Int) := by omega
  clear hh hpp hx hb0
  generalize bs (Pg.asm t).ser = S at *
  generalize (Pg.asm t).hd.length = hn1 at *
  go_enter Try.func39, Try.ntmps39
  go_wp2_with fail
  refine (HH _).out.mono ?_
  rintro e w1 ⟨rfl, n0, rfl⟩
  go_wp2_with fail
  refine (HP _).out.mono ?_
  rintro e w2 ⟨sl, rfl, hrow, hb⟩
  have hB2 := bnext (bdrewN (Below.refl w.heap.size w) n0) hb
  obtain ⟨g, cap, rfl⟩ := Row.zero (show Row w2 _ _ sl [] from hrow)
  clear hb hrow
  have hHD := HX.out
  clear HX
  generalize bs (Pg.asm t).hd = HD at *
  have f1 : ¬ (9223372036854775807 < 7 + r0.size) := by omega
  go_wp2_with fail
  refine (C0.out _).mono ?_
  rintro e w3 ⟨⟨k, rfl⟩, rfl⟩
  go_wp2_with fail
  go_ret
  exact ⟨by rw [← HR.out]; rfl, hB2⟩

theorem ls_any (wide : Bool) : ∀ (p : Pg), p.ok wide → p.ser.length ≤ 1000 → ∀ w, Calls Try.prog 39 #[.string (bs p.ser), .bool wide] w (TextPost (bs (shP p)) w) := by
  have zz : ∀ {p : Pg}, p.ok wide → p.ser.length ≤ 1000 → (bs (shP p)).size ≤ 100000 := fun h hn => by rw [bs_size]; have := shP_len h; omega
  have zt : ∀ {t : Tm} {k : Bool}, Ok wide k t → t.ser.length ≤ 1000 → (bs (shw t)).size ≤ 100000 := fun h hn => by rw [bs_size]; have := shw_len' h; omega
  have st : ∀ {t : Tm} (hd : List UInt8), Ok wide true t → t.ser.length ≤ 1000 → hd = t.ser → ∀ w, Calls Try.prog 59 #[.string (bs hd), .int .i64 0] w fun e w' => (∃ k : Int, e = .returned (.tuple #[.string (bs (shw t)), .int .i64 k])) ∧ w' = w := fun hd h hn e w => by
    subst e
    exact (spx_any (bs _) (by rw [bs_size]; exact hn) _ 0 [] w h (by rw [bs_list]; simp)).mono fun _ _ ⟨h1, h2⟩ => ⟨⟨_, h1⟩, h2⟩
  intro p
  induction p with
  | skip => intro hp hn w; exact ls_skip wide hp hn w _ rfl
  | asg v e =>
    intro hp hn w
    have hn2 := hn
    simp [Pg.ser] at hn2
    exact ls_asg wide v e hp hn w (bs (shw e)) (zt hp.2 (by omega)) _ (by simp only [shP, ← bs_append]; rfl) fun w =>
      (spw_any (bs (Pg.asg v e).hd) (by rw [bs_size]; simp [Pg.hd]; omega) e 1 [] w hp.2 (by rw [bs_list]; simp [Pg.hd])).mono fun _ _ ⟨h1, h2⟩ => ⟨⟨_, h1⟩, h2⟩
  | seq a b ia ib =>
    intro hp hn w
    have hn2 := hn
    simp [Pg.ser] at hn2
    exact ls_seq wide a b hp hn w _ _ (zz hp.1 (by omega)) (zz hp.2 (by omega)) _ (by simp only [shP, ← bs_append]; rfl) (ia hp.1 (by omega)) (ib hp.2 (by omega))
  | cho a b ia ib =>
    intro hp hn w
    have hn2 := hn
    simp [Pg.ser] at hn2
    exact ls_cho wide a b hp hn w _ _ (zz hp.1 (by omega)) (zz hp.2 (by omega)) _ (by simp only [shP, ← bs_append]; rfl) (ia hp.1 (by omega)) (ib hp.2 (by omega))
  | ite t a b ia ib =>
    intro hp hn w
    have hn2 := hn
    simp [Pg.ser] at hn2
    exact ls_ite wide t a b hp hn w _ _ _ (zt hp.1 (by omega)) (zz hp.2.1 (by omega)) (zz hp.2.2 (by omega)) _ (by simp only [shP, ← bs_append]; rfl) (st _ hp.1 (by omega) rfl) (ia hp.2.1 (by omega)) (ib hp.2.2 (by omega))
  | whl t a ia =>
    intro hp hn w
    have hn2 := hn
    simp [Pg.ser] at hn2
    exact ls_whl wide t a hp hn w _ _ (zt hp.1 (by omega)) (zz hp.2 (by omega)) _ (by simp only [shP, ← bs_append]; rfl) (st _ hp.1 (by omega) rfl) (ia hp.2 (by omega))
  | asm t =>
    intro hp hn w
    have hn2 := hn
    simp [Pg.ser] at hn2
    exact ls_asm wide t hp hn w _ (zt (k := true) hp (by omega)) _ (by simp only [shP, ← bs_append]; rfl) (st _ hp (by omega) rfl)

set_option maxHeartbeats 1000000 in
theorem specShow_yes (s : ByteArray) (w : World) {p : Pg} (hp : p.ok false) (hs : s.data.toList = p.ser) (hl : s.size ≤ 200) :
    Calls Try.prog 22 #[.string s] w (TextPost (bs (shP p)) w) := by
  have hsz : p.ser.length ≤ 1000 := by have := congrArg List.length hs; simp at this; omega
  obtain rfl := text_eq hs
  have HV := fun w => Lib.hid (specPV_yes (bs p.ser) w ⟨p, hp, hs⟩ hl)
  have HC := fun w => Lib.hid (ls_any false p hp hsz w)
  clear hs hl
  generalize bs p.ser = S at *
  go_enter Try.func22, Try.ntmps22
  go_wp2_with fail
  refine (HV _).out.mono ?_
  rintro e w1 ⟨rfl, n, rfl⟩
  go_wp2_with fail
  refine (HC _).out.mono ?_
  rintro e w2 ⟨rfl, hb⟩
  have HB := Lib.hid (bnext (bdrewN (Below.refl w.heap.size w) n) hb)
  clear hb
  go_wp2_with fail
  go_ret
  exact ⟨rfl, HB.out⟩
set_option maxHeartbeats 1000000 in
theorem specShow_no (s : ByteArray) (w : World) (h : ¬ (PValid false s.data.toList ∧ s.size ≤ 200)) :
    Calls Try.prog 22 #[.string s] w (TextPost (bs []) w) := by
  have HV := fun w => Lib.hid (specPV_no s w h)
  clear h
  go_enter Try.func22, Try.ntmps22
  go_wp2_with fail
  refine (HV _).out.mono ?_
  rintro e w1 ⟨rfl, n, rfl⟩
  go_wp2_with fail
  go_ret
  exact ⟨rfl, bdrewN (Below.refl w.heap.size w) n⟩
end Go.Proofs.Ytemkndpiljfefaa



namespace Go.Proofs.Ytemkndpiljfefaa
open Go.RowKit Tm

theorem fndIn (l : List UInt8) (c : UInt8) : 0 ≤ fnd l c ↔ c ∈ l := by
  induction l with
  | nil => rw [fnd_nil]; simp
  | cons d l ih => rw [fnd_cons, ih]; simp
theorem vlistIn (l : List UInt8) (c : UInt8) (hc : c = 120 ∨ c = 121 ∨ c = 122) : c ∈ vlist [120, 121, 122] l ↔ c ∈ l := by
  unfold vlist
  rw [List.mem_filter, decide_eq_true_eq, fndIn]
  exact ⟨fun h => h.2, fun h => ⟨by rcases hc with rfl | rfl | rfl <;> simp, h⟩⟩
theorem vlistSize (l : List UInt8) : (bs (vlist [120, 121, 122] l)).size ≤ 3 := by
  rw [bs_size]; unfold vlist
  exact Nat.le_trans (List.length_filter_le _ _) (by simp)
theorem bsl (l : List UInt8) : (bs l).data.toList = l := by simp [bs]

/-! ### Letters exchanged -/
theorem exch_exch (v u c : UInt8) : exch v u (exch v u c) = c := by
  unfold exch
  by_cases h1 : c = v
  · subst h1
    by_cases h2 : u = c
    · subst h2; simp
    · simp [h2]
  · by_cases h2 : c = u
    · subst h2; simp [h1]
    · simp [h1, h2]
theorem exch_flip (v u c : UInt8) : exch u v c = exch v u c := by
  unfold exch
  by_cases h1 : c = v
  · subst h1
    by_cases h2 : c = u
    · subst h2; simp
    · simp [h2]
  · by_cases h2 : c = u
    · subst h2; simp [h1]
    · simp [h1, h2]
theorem opk_exch : ∀ v ∈ [(120 : UInt8), 121, 122], ∀ u ∈ [(120 : UInt8), 121, 122], ∀ k : Bool, ∀ n, n < 256 → opk false k (exch v u (UInt8.ofNat n)) = opk false k (UInt8.ofNat n) := by decide +kernel
theorem opkx {v u : UInt8} (hv : v ∈ [(120 : UInt8), 121, 122]) (hu : u ∈ [(120 : UInt8), 121, 122]) (k : Bool) (c : UInt8) : opk false k (exch v u c) = opk false k c := by
  have := opk_exch v hv u hu k c.toNat c.toNat_lt
  rwa [UInt8.ofNat_toNat] at this
def tmx (f : UInt8 → UInt8) : Tm → Tm
  | .leaf c => .leaf (f c)
  | .un c a => .un (f c) (tmx f a)
  | .bin c a b => .bin (f c) (tmx f a) (tmx f b)
theorem tmx_ser (f : UInt8 → UInt8) : ∀ t : Tm, (tmx f t).ser = t.ser.map f := by
  intro t
  induction t with
  | leaf c => rfl
  | un c a ih => simp [tmx, ser, ih]
  | bin c a b iha ihb => simp [tmx, ser, iha, ihb]
theorem tmx_ok {v u : UInt8} (hv : v ∈ [(120 : UInt8), 121, 122]) (hu : u ∈ [(120 : UInt8), 121, 122]) : ∀ (t : Tm) (k : Bool), Ok false k t → Ok false k (tmx (exch v u) t) := by
  intro t
  induction t with
  | leaf c => intro k h; show opk false k (exch v u c) = _; rw [opkx hv hu]; exact h
  | un c a ih =>
    rintro k ⟨k1, h1, h2⟩
    exact ⟨k1, by rw [opkx hv hu]; exact h1, ih k1 h2⟩
  | bin c a b iha ihb =>
    rintro k ⟨k1, k2, h1, h2, h3⟩
    exact ⟨k1, k2, by rw [opkx hv hu]; exact h1, iha k1 h2, ihb k2 h3⟩
def pgx (f : UInt8 → UInt8) : Pg → Pg
  | .skip => .skip
  | .asg v e => .asg (f v) (tmx f e)
  | .seq a b => .seq (pgx f a) (pgx f b)
  | .ite t a b => .ite (tmx f t) (pgx f a) (pgx f b)
  | .whl t a => .whl (tmx f t) (pgx f a)
  | .cho a b => .cho (pgx f a) (pgx f b)
  | .asm t => .asm (tmx f t)
theorem exch_letters {v u : UInt8} (hv : v ∈ [(120 : UInt8), 121, 122]) (hu : u ∈ [(120 : UInt8), 121, 122]) : ∀ c ∈ [(115 : UInt8), 97, 59, 63, 64, 47, 126], exch v u c = c := by
  have k : ∀ v ∈ [(120 : UInt8), 121, 122], ∀ u ∈ [(120 : UInt8), 121, 122], ∀ c ∈ [(115 : UInt8), 97, 59, 63, 64, 47, 126], exch v u c = c := by decide +kernel
  exact k v hv u hu
theorem pgx_ser {v u : UInt8} (hv : v ∈ [(120 : UInt8), 121, 122]) (hu : u ∈ [(120 : UInt8), 121, 122]) : ∀ p : Pg, (pgx (exch v u) p).ser = p.ser.map (exch v u) := by
  have L := exch_letters hv hu
  intro p
  induction p with
  | skip => simp [pgx, Pg.ser, L 115 (by simp)]
  | asg x e => simp [pgx, Pg.ser, tmx_ser, L 97 (by simp)]
  | seq a b ia ib => simp [pgx, Pg.ser, ia, ib, L 59 (by simp)]
  | ite t a b ia ib => simp [pgx, Pg.ser, tmx_ser, ia, ib, L 63 (by simp)]
  | whl t a ia => simp [pgx, Pg.ser, tmx_ser, ia, L 64 (by simp)]
  | cho a b ia ib => simp [pgx, Pg.ser, ia, ib, L 47 (by simp)]
  | asm t => simp [pgx, Pg.ser, tmx_ser, L 126 (by simp)]
theorem isVar_exch {v u : UInt8} (hv : v ∈ [(120 : UInt8), 121, 122]) (hu : u ∈ [(120 : UInt8), 121, 122]) (c : UInt8) (h : isVarB false c = true) : isVarB false (exch v u c) = true := by
  have k : ∀ v ∈ [(120 : UInt8), 121, 122], ∀ u ∈ [(120 : UInt8), 121, 122], ∀ n, n < 256 → isVarB false (UInt8.ofNat n) = true → isVarB false (exch v u (UInt8.ofNat n)) = true := by decide +kernel
  have := k v hv u hu c.toNat c.toNat_lt
  rw [UInt8.ofNat_toNat] at this
  exact this h
theorem pgx_ok {v u : UInt8} (hv : v ∈ [(120 : UInt8), 121, 122]) (hu : u ∈ [(120 : UInt8), 121, 122]) : ∀ p : Pg, p.ok false → (pgx (exch v u) p).ok false := by
  intro p
  induction p with
  | skip => intro _; trivial
  | asg x e => rintro ⟨h1, h2⟩; exact ⟨isVar_exch hv hu x h1, tmx_ok hv hu e false h2⟩
  | seq a b ia ib => rintro ⟨h1, h2⟩; exact ⟨ia h1, ib h2⟩
  | ite t a b ia ib => rintro ⟨h0, h1, h2⟩; exact ⟨tmx_ok hv hu t true h0, ia h1, ib h2⟩
  | whl t a ia => rintro ⟨h0, h1⟩; exact ⟨tmx_ok hv hu t true h0, ia h1⟩
  | cho a b ia ib => rintro ⟨h1, h2⟩; exact ⟨ia h1, ib h2⟩
  | asm t => intro h; exact tmx_ok hv hu t true h
theorem pgx_len (f : UInt8 → UInt8) : ∀ p : Pg, (pgx f p).all.length = p.all.length := by
  intro p
  induction p with
  | skip => rfl
  | asg x e => rfl
  | seq a b ia ib => simp [pgx, Pg.all, ia, ib]
  | ite t a b ia ib => simp [pgx, Pg.all, ia, ib]
  | whl t a ia => simp [pgx, Pg.all, ia]
  | cho a b ia ib => simp [pgx, Pg.all, ia, ib]
  | asm t => rfl
theorem pgx_rw (f : UInt8 → UInt8) (wr : Bool) : ∀ p : Pg, (pgx f p).all.flatMap (Pg.rwq wr) = (p.all.flatMap (Pg.rwq wr)).map f := by
  intro p
  induction p with
  | skip => cases wr <;> rfl
  | asg x e => cases wr <;> simp [pgx, Pg.all, Pg.rwq, tmx_ser]
  | seq a b ia ib => cases wr <;> simp [pgx, Pg.all, Pg.rwq, Pg.hd, ia, ib]
  | ite t a b ia ib => cases wr <;> simp [pgx, Pg.all, Pg.rwq, Pg.hd, ia, ib, tmx_ser]
  | whl t a ia => cases wr <;> simp [pgx, Pg.all, Pg.rwq, Pg.hd, ia, tmx_ser]
  | cho a b ia ib => cases wr <;> simp [pgx, Pg.all, Pg.rwq, Pg.hd, ia, ib]
  | asm t => cases wr <;> simp [pgx, Pg.all, Pg.rwq, Pg.hd, tmx_ser]
theorem map_exch (v u : UInt8) (l : List UInt8) (c : UInt8) : c ∈ l.map (exch v u) ↔ exch v u c ∈ l := by
  rw [List.mem_map]
  constructor
  · rintro ⟨d, hd, rfl⟩; rwa [exch_exch]
  · intro h; exact ⟨_, h, exch_exch v u c⟩

/-! ### Braces -/
def ob (l : List UInt8) : Nat := l.countP (· == 123)
def cb (l : List UInt8) : Nat := l.countP (· == 125)
def brc (l : List UInt8) : Nat := l.countP (· == 64) + 2 * (l.countP (· == 63) + l.countP (· == 47))
theorem ob_app (a b : List UInt8) : ob (a ++ b) = ob a + ob b := List.countP_append
theorem cb_app (a b : List UInt8) : cb (a ++ b) = cb a + cb b := List.countP_append
theorem brc_app (a b : List UInt8) : brc (a ++ b) = brc a + brc b := by unfold brc; simp only [List.countP_append]; omega
/-- Nothing of a text closes what it has not opened, and all is closed. -/
def Bal (l : List UInt8) : Prop := ob l = cb l ∧ ∀ k, cb (l.take k) ≤ ob (l.take k)
theorem Bal.app {a b : List UInt8} (ha : Bal a) (hb : Bal b) : Bal (a ++ b) := by
  refine ⟨by rw [ob_app, cb_app, ha.1, hb.1], fun k => ?_⟩
  rw [List.take_append, ob_app, cb_app]
  have h1 := ha.2 k
  have h2 := hb.2 (k - a.length)
  omega
theorem Bal.of {l : List UInt8} (h : ∀ c ∈ l, c ≠ 123 ∧ c ≠ 125) : Bal l := by
  have z1 : ∀ m : List UInt8, (∀ c ∈ m, c ≠ 123 ∧ c ≠ 125) → ob m = 0 ∧ cb m = 0 := fun m hm => by
    constructor
    · exact List.countP_eq_zero.2 fun c hc => by simpa using (hm c hc).1
    · exact List.countP_eq_zero.2 fun c hc => by simpa using (hm c hc).2
  refine ⟨by rw [(z1 l h).1, (z1 l h).2], fun k => ?_⟩
  have := z1 (l.take k) fun c hc => h c (List.mem_of_mem_take hc)
  omega
theorem Bal.wrap {l : List UInt8} (h : Bal l) : Bal ([123] ++ l ++ [125]) := by
  have o1 : ob [123] = 1 := rfl
  have c1 : cb [123] = 0 := rfl
  have o2 : ob [125] = 0 := rfl
  have c2 : cb [125] = 1 := rfl
  refine ⟨by rw [ob_app, ob_app, cb_app, cb_app, h.1, o1, c1, o2, c2]; omega, fun k => ?_⟩
  rw [List.append_assoc, List.take_append, List.take_append, ob_app, ob_app, cb_app, cb_app]
  rcases Nat.eq_zero_or_pos k with rfl | hk
  · simp [ob, cb]
  · have e1 : [(123 : UInt8)].take k = [123] := List.take_of_length_le (by show 1 ≤ k; omega)
    have h2 := h.2 (k - [(123 : UInt8)].length)
    rw [e1, o1, c1]
    have h3 : cb ([(125 : UInt8)].take (k - [(123 : UInt8)].length - l.length)) ≤ 1 := by
      unfold cb
      exact Nat.le_trans List.countP_le_length (by simp; omega)
    omega
theorem shw_plain {wide : Bool} : ∀ (t : Tm) (k : Bool), Ok wide k t → ∀ c ∈ shw t, c ≠ 123 ∧ c ≠ 125 := by
  have kk : ∀ wide : Bool, ∀ k : Bool, ∀ n, n < 256 → (opk wide k (UInt8.ofNat n)).isSome = true → UInt8.ofNat n ≠ 123 ∧ UInt8.ofNat n ≠ 125 := by decide +kernel
  have kc : ∀ (k : Bool) (c : UInt8) (l : List Bool), opk wide k c = some l → c ≠ 123 ∧ c ≠ 125 := fun k c l h => by
    have := kk wide k c.toNat c.toNat_lt
    rw [UInt8.ofNat_toNat, h] at this
    exact this rfl
  intro t
  induction t with
  | leaf c =>
    intro k h d hd
    have h1 := kc k c _ h
    unfold shw at hd
    by_cases e1 : c = 116
    · rw [if_pos e1] at hd; revert d; decide
    · by_cases e2 : c = 102
      · rw [if_neg e1, if_pos e2] at hd; revert d; decide
      · rw [if_neg e1, if_neg e2] at hd
        simp at hd; subst hd; exact h1
  | un c a ih =>
    rintro k ⟨k1, h1, h2⟩ d hd
    simp only [shw, List.mem_append] at hd
    rcases hd with (hd | hd) | hd
    · revert d; decide
    · exact ih k1 h2 d hd
    · revert d; decide
  | bin c a b iha ihb =>
    rintro k ⟨k1, k2, h1, h2, h3⟩ d hd
    have hc := kc k c _ h1
    unfold shw at hd
    by_cases e : c = 61 ∨ c = 60
    · rw [if_pos e] at hd
      simp only [List.mem_append] at hd
      rcases hd with (hd | hd) | hd
      · exact iha k1 h2 d hd
      · simp at hd; subst hd; exact hc
      · exact ihb k2 h3 d hd
    · rw [if_neg e] at hd
      simp only [List.mem_append] at hd
      rcases hd with (((hd | hd) | hd) | hd) | hd
      · revert d; decide
      · exact iha k1 h2 d hd
      · simp at hd; subst hd; exact hc
      · exact ihb k2 h3 d hd
      · revert d; decide
theorem ser_plain {wide : Bool} : ∀ (t : Tm) (k : Bool), Ok wide k t → brc t.ser = 0 := by
  have kk : ∀ wide : Bool, ∀ k : Bool, ∀ n, n < 256 → (opk wide k (UInt8.ofNat n)).isSome = true → brc [UInt8.ofNat n] = 0 := by decide +kernel
  have kc : ∀ (k : Bool) (c : UInt8) (l : List Bool), opk wide k c = some l → brc [c] = 0 := fun k c l h => by
    have := kk wide k c.toNat c.toNat_lt
    rw [UInt8.ofNat_toNat, h] at this
    exact this rfl
  intro t
  induction t with
  | leaf c => intro k h; exact kc k c _ h
  | un c a ih =>
    rintro k ⟨k1, h1, h2⟩
    rw [show (Tm.un c a).ser = [c] ++ a.ser from rfl, brc_app, kc k c _ h1, ih k1 h2]
  | bin c a b iha ihb =>
    rintro k ⟨k1, k2, h1, h2, h3⟩
    rw [show (Tm.bin c a b).ser = [c] ++ (a.ser ++ b.ser) from rfl, brc_app, brc_app, kc k c _ h1, iha k1 h2, ihb k2 h3]
theorem lit_bal (l : List UInt8) (h : (l.all fun c => c != 123 && c != 125) = true) : Bal l := Bal.of fun c hc => by
  have := List.all_eq_true.1 h c hc
  simpa using this
theorem ob_plain {l : List UInt8} (h : ∀ c ∈ l, c ≠ 123 ∧ c ≠ 125) : ob l = 0 := List.countP_eq_zero.2 fun c hc => by simpa using (h c hc).1
/-- What is shown of a program is balanced, with a pair of braces for each loop, and two for each if and choice. -/
theorem shP_bal : ∀ p : Pg, p.ok false → Bal (shP p) ∧ ob (shP p) = brc p.ser := by
  have v1 : ∀ n, n < 256 → isVarB false (UInt8.ofNat n) = true → (UInt8.ofNat n ≠ 123 ∧ UInt8.ofNat n ≠ 125) ∧ brc [UInt8.ofNat n] = 0 := by decide +kernel
  intro p
  induction p with
  | skip => intro _; exact ⟨lit_bal _ (by decide), by decide⟩
  | asg x e =>
    rintro ⟨h1, h2⟩
    have hx := v1 x.toNat x.toNat_lt
    rw [UInt8.ofNat_toNat] at hx
    obtain ⟨hx1, hx2⟩ := hx h1
    have hb : ∀ c ∈ shP (.asg x e), c ≠ 123 ∧ c ≠ 125 := by
      intro c hc
      simp only [shP, List.mem_append] at hc
      rcases hc with (hc | hc) | hc
      · simp at hc; subst hc; exact hx1
      · revert c; decide
      · exact shw_plain e false h2 c hc
    refine ⟨Bal.of hb, ?_⟩
    rw [ob_plain hb, show (Pg.asg x e).ser = [97] ++ ([x] ++ e.ser) from rfl, brc_app, brc_app, hx2, ser_plain e false h2]; rfl
  | seq a b ia ib =>
    rintro ⟨h1, h2⟩
    obtain ⟨a1, a2⟩ := ia h1
    obtain ⟨b1, b2⟩ := ib h2
    refine ⟨(a1.app (lit_bal [59, 32] (by decide))).app b1, ?_⟩
    rw [show (Pg.seq a b).ser = [59] ++ (a.ser ++ b.ser) from rfl, brc_app, brc_app, ← a2, ← b2]
    simp only [shP, ob_app]
    rw [show ob [59, 32] = 0 from rfl, show brc [59] = 0 from rfl]; omega
  | ite t a b ia ib =>
    rintro ⟨h0, h1, h2⟩
    obtain ⟨a1, a2⟩ := ia h1
    obtain ⟨b1, b2⟩ := ib h2
    have ht := shw_plain t true h0
    have e : shP (.ite t a b) = [105, 102, 32] ++ shw t ++ [32] ++ ([123] ++ shP a ++ [125]) ++ [32, 101, 108, 115, 101, 32] ++ ([123] ++ shP b ++ [125]) := by simp [shP]
    rw [e]
    refine ⟨(((((lit_bal [105, 102, 32] (by decide)).app (Bal.of ht)).app (lit_bal [32] (by decide))).app a1.wrap).app (lit_bal [32, 101, 108, 115, 101, 32] (by decide))).app b1.wrap, ?_⟩
    rw [show (Pg.ite t a b).ser = [63] ++ (t.ser ++ (a.ser ++ b.ser)) from rfl, brc_app, brc_app, brc_app, ← a2, ← b2, ser_plain t true h0]
    simp only [ob_app, ob_plain ht]
    rw [show ob [105, 102, 32] = 0 from rfl, show ob [32] = 0 from rfl, show ob [123] = 1 from rfl, show ob [125] = 0 from rfl, show ob [32, 101, 108, 115, 101, 32] = 0 from rfl, show brc [63] = 2 from rfl]; omega
  | whl t a ia =>
    rintro ⟨h0, h1⟩
    obtain ⟨a1, a2⟩ := ia h1
    have ht := shw_plain t true h0
    have e : shP (.whl t a) = [119, 104, 105, 108, 101, 32] ++ shw t ++ [32] ++ ([123] ++ shP a ++ [125]) := by simp [shP]
    rw [e]
    refine ⟨(((lit_bal [119, 104, 105, 108, 101, 32] (by decide)).app (Bal.of ht)).app (lit_bal [32] (by decide))).app a1.wrap, ?_⟩
    rw [show (Pg.whl t a).ser = [64] ++ (t.ser ++ a.ser) from rfl, brc_app, brc_app, ← a2, ser_plain t true h0]
    simp only [ob_app, ob_plain ht]
    rw [show ob [119, 104, 105, 108, 101, 32] = 0 from rfl, show ob [32] = 0 from rfl, show ob [123] = 1 from rfl, show ob [125] = 0 from rfl, show brc [64] = 1 from rfl]; omega
  | cho a b ia ib =>
    rintro ⟨h1, h2⟩
    obtain ⟨a1, a2⟩ := ia h1
    obtain ⟨b1, b2⟩ := ib h2
    have e : shP (.cho a b) = [101, 105, 116, 104, 101, 114, 32] ++ ([123] ++ shP a ++ [125]) ++ [32, 111, 114, 32] ++ ([123] ++ shP b ++ [125]) := by simp [shP]
    rw [e]
    refine ⟨(((lit_bal [101, 105, 116, 104, 101, 114, 32] (by decide)).app a1.wrap).app (lit_bal [32, 111, 114, 32] (by decide))).app b1.wrap, ?_⟩
    rw [show (Pg.cho a b).ser = [47] ++ (a.ser ++ b.ser) from rfl, brc_app, brc_app, ← a2, ← b2]
    simp only [ob_app]
    rw [show ob [101, 105, 116, 104, 101, 114, 32] = 0 from rfl, show ob [32, 111, 114, 32] = 0 from rfl, show ob [123] = 1 from rfl, show ob [125] = 0 from rfl, show brc [47] = 2 from rfl]; omega
  | asm t =>
    intro h0
    have ht := shw_plain t true h0
    refine ⟨(lit_bal [97, 115, 115, 117, 109, 101, 32] (by decide)).app (Bal.of ht), ?_⟩
    rw [show (Pg.asm t).ser = [126] ++ t.ser from rfl, brc_app, ser_plain t true h0]
    simp only [shP, ob_app, ob_plain ht]
    rfl
theorem take_step {x : ByteArray} {k : Nat} (h : k < x.size) : x.data.toList.take (k + 1) = x.data.toList.take k ++ [x[k]] := by
  have e : x.data.toList[k]? = some x[k] := List.getElem?_eq_getElem (by simpa using h)
  rw [List.take_add_one, e]; rfl

/-! ### What is read and written, by head and parts -/
theorem rw_parts (wr : Bool) (p : Pg) : p.all.flatMap (Pg.rwq wr) = Pg.rwq wr p ++ p.pks.flatMap fun q => q.all.flatMap (Pg.rwq wr) := by
  cases p <;> simp [Pg.all, Pg.pks]
end Go.Proofs.Ytemkndpiljfefaa


