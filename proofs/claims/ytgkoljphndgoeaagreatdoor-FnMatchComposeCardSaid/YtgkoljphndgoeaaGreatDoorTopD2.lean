import Derived.Test.YtgkoljphndgoeaaGreatDoorTopD
import Derived.Test.YtgkoljphndgoeaaGreatDoorPure
import Derived.Test.YtgkoljphndgoeaaGreatDoorTopP
import Derived.Test.YtgkoljphndgoeaaGreatDoorTopU
import Derived.Test.YtgkoljphndgoeaaGreatDoorTopY
import Derived.Test.YtgkoljphndgoeaaGreatDoorTopQ1
import Derived.Test.YtgkoljphndgoeaaGreatDoorMo
import Derived.Test.YtgkoljphndgoeaaGreatDoorTopR1
import Derived.Test.YtgkoljphndgoeaaGreatDoorTopP2
namespace Go.Proofs.YtgkoljphndgoeaaGreatDoor
open Go.RowKit
def DrQ (Q : ByteArray → Prop) (a p lo hi c : Nat) (w : World) (e : Ending) (w' : World) : Prop := ∃ (s : ByteArray) (q : Nat), lo ≤ s.size ∧ s.size ≤ hi ∧ q ≤ p + c ∧ Q s ∧ e = .returned (.string s) ∧ Rd a q w' ∧ Kp a w w'
def IsX (k : Bool) (s : ByteArray) : Prop := Valid false k s.data.toList
def IsA (s : ByteArray) : Prop := s = ⟨#[43]⟩ ∨ s = ⟨#[45]⟩ ∨ s = ⟨#[42]⟩
def IsCm (s : ByteArray) : Prop := s = ⟨#[61]⟩ ∨ s = ⟨#[60]⟩
def IsJ (s : ByteArray) : Prop := s = ⟨#[38]⟩ ∨ s = ⟨#[124]⟩
def IsTF (s : ByteArray) : Prop := s = ⟨#[116]⟩ ∨ s = ⟨#[102]⟩
theorem IsA.size {s : ByteArray} (h : IsA s) : s.size = 1 := by rcases h with rfl | rfl | rfl <;> rfl
theorem IsCm.size {s : ByteArray} (h : IsCm s) : s.size = 1 := by rcases h with rfl | rfl <;> rfl
theorem IsJ.size {s : ByteArray} (h : IsJ s) : s.size = 1 := by rcases h with rfl | rfl <;> rfl
theorem IsTF.size {s : ByteArray} (h : IsTF s) : s.size = 1 := by rcases h with rfl | rfl <;> rfl
theorem isX_bin {c : UInt8} {k k1 k2 : Bool} (hc : opk false k c = some [k1, k2]) {x y : ByteArray} (hx : IsX k1 x) (hy : IsX k2 y) : IsX k ((⟨#[c]⟩ : ByteArray) ++ x ++ y) := by
 obtain ⟨t, ht, et⟩ := hx
 obtain ⟨u, hu, eu⟩ := hy
 exact ⟨.bin c t u, ⟨k1, k2, hc, ht, hu⟩, by simp [ByteArray.data_append, et, eu, Tm.ser]⟩
theorem IsA.bin {s x y : ByteArray} (h : IsA s) (hx : IsX false x) (hy : IsX false y) : IsX false (s ++ x ++ y) := by
 rcases h with rfl | rfl | rfl <;> exact isX_bin rfl hx hy
theorem IsCm.bin {s x y : ByteArray} (h : IsCm s) (hx : IsX false x) (hy : IsX false y) : IsX true (s ++ x ++ y) := by
 rcases h with rfl | rfl <;> exact isX_bin rfl hx hy
theorem IsJ.bin {s x y : ByteArray} (h : IsJ s) (hx : IsX true x) (hy : IsX true y) : IsX true (s ++ x ++ y) := by
 rcases h with rfl | rfl <;> exact isX_bin rfl hx hy
theorem IsTF.ok {s : ByteArray} (h : IsTF s) : IsX true s := by
 rcases h with rfl | rfl
 ·exact ⟨.leaf 116, rfl, rfl⟩
 ·exact ⟨.leaf 102, rfl, rfl⟩
theorem isX_not {x : ByteArray} (hx : IsX true x) : IsX true ((⟨#[33]⟩ : ByteArray) ++ x) := by
 obtain ⟨t, ht, et⟩ := hx
 exact ⟨.un 33 t, ⟨true, rfl, ht⟩, by simp [ByteArray.data_append, et, Tm.ser]⟩
def Nm (N : ByteArray) : Prop := ∀ k, k + 1 ≤ N.size → IsX false (N.extract k (k + 1))
theorem vdec_one (k : Int) (h0 : 0 ≤ k) (h1 : k < 3) (w : World) : Calls Tryz.prog 134 #[.int .i64 k] w fun e w' => ∃ s : ByteArray, s.size = 1 ∧ IsX false s ∧ e = .returned (.string s) ∧ Below w.heap.size w w' := by
 have : k = 0 ∨ k = 1 ∨ k = 2 := by omega
 rcases this with rfl | rfl | rfl
 ·exact (dec_0 w).mono fun e w' h => ⟨_, bs_size _, ⟨.leaf 48, rfl, rfl⟩, h.1, h.2⟩
 ·exact (dec_1 w).mono fun e w' h => ⟨_, bs_size _, ⟨.leaf 49, rfl, rfl⟩, h.1, h.2⟩
 ·exact (dec_2 w).mono fun e w' h => ⟨_, bs_size _, ⟨.leaf 50, rfl, rfl⟩, h.1, h.2⟩
set_option maxRecDepth 100000 in
set_option maxHeartbeats 4000000 in
theorem vE_zero {a p : Nat} (N : ByteArray) (hN : 1 ≤ N.size) (hN2 : N.size ≤ 6) (hNv : Nm N) (d : Int) (hd : d ≤ 0) {w : World} (hr : Rd a p w) (hp : p ≤ 900000) :
  Calls Tryz.prog 205 #[.pointer (some ⟨a, 0, none⟩), .int .i64 d, .string N] w (DrQ (IsX false) a p 1 1 2 w) := by
 have HR := Lib.hid hr
 have HNV := Lib.hid hNv
 clear hr hNv
 go_enter Tryz.func205, Tryz.ntmps205
 go_wp2_with fail
 refine (pick_any ((N.size : Int) + 2) HR.out (by omega) (by omega) (by omega)).mono ?_
 rintro e w1 ⟨k, k0, k1, rfl, hr, hk⟩
 have HR1 := Lib.hid hr
 have HK1 := Lib.hid hk
 clear hr hk
 obtain ⟨k, rfl⟩ := Int.eq_ofNat_of_zero_le k0
 by_cases hlt : k < N.size
 ·have h1 : (k : Int) < (N.size : Int) := by omega
  have h2 : (k : Int) + 1 ≤ (N.size : Int) := by omega
  have hz : (N.extract k (k + 1)).size = 1 := by simp [ByteArray.size_extract]; omega
  have HZ := Lib.hid hz
  clear hz
  go_wp2_with fail
  go_ret
  exact ⟨_, p + 1, Nat.le_of_eq HZ.out.symm, Nat.le_of_eq HZ.out, by omega, HNV.out k (by omega), rfl, HR1.out, HK1.out⟩
 ·have h1 : ¬ (k : Int) < (N.size : Int) := by omega
  go_wp2_with fail
  refine (pick_any 3 HR1.out (by omega) (by omega) (by omega)).mono ?_
  rintro e w2 ⟨j, j0, j1, rfl, hr, hk⟩
  have HR2 := Lib.hid hr
  have HK2 := Lib.hid (HK1.out.trans hk)
  have HD := Lib.hid (vdec_one j j0 j1 w2)
  clear hr hk
  go_wp2_with fail
  refine HD.out.mono ?_
  rintro e w3 ⟨s, hs, hv, rfl, hb⟩
  have HV := Lib.hid hv
  clear hv
  have HR3 := Lib.hid (HR2.out.kept hb)
  have HK3 := Lib.hid (HK2.out.next hb)
  clear hb
  go_wp2_with fail
  go_ret
  exact ⟨s, p + 1 + 1, Nat.le_of_eq hs.symm, Nat.le_of_eq hs, by omega, HV.out, rfl, HR3.out, HK3.out⟩
set_option maxRecDepth 100000 in
set_option maxHeartbeats 8000000 in
theorem vE_succ {a p : Nat} (N : ByteArray) (hN : 1 ≤ N.size) (hN2 : N.size ≤ 6) (hNv : Nm N) (d m : Int) (hd : ¬ d ≤ 0) (hm : IntKind.i64.wrap (d - 1) = m) (hi c : Nat) (hh : hi ≤ 100000) (h1i : 1 ≤ hi) {w : World} (hr : Rd a p w) (hp : p + (2 * c + 3) ≤ 900000)
  (IH : ∀ (q : Nat) (w1 : World), q ≤ p + (c + 2) → Rd a q w1 → Calls Tryz.prog 205 #[.pointer (some ⟨a, 0, none⟩), .int .i64 m, .string N] w1 (DrQ (IsX false) a q 1 hi c w1)) :
  Calls Tryz.prog 205 #[.pointer (some ⟨a, 0, none⟩), .int .i64 d, .string N] w (DrQ (IsX false) a p 1 (2 * hi + 1) (2 * c + 3) w) := by
 have HR := Lib.hid hr
 have HI := Lib.hid IH
 have HNV := Lib.hid hNv
 clear hr IH hNv
 have C := Lib.hid (pick_any 3 HR.out (by omega) (by omega) (by omega))
 go_enter Tryz.func205, Tryz.ntmps205
 go_wp2_with fail
 refine C.out.mono ?_
 rintro e w1 ⟨k, k0, k1, rfl, hr, hk⟩
 have HR1 := Lib.hid hr
 have HK1 := Lib.hid hk
 clear hr hk C
 by_cases e0 : k = 0
 ·subst e0
  go_wp2_with fail
  refine (pick_any ((N.size : Int) + 2) HR1.out (by omega) (by omega) (by omega)).mono ?_
  rintro e w2 ⟨k, k0, k1, rfl, hr, hk⟩
  have HR2 := Lib.hid hr
  have HK2 := Lib.hid (HK1.out.trans hk)
  clear hr hk
  obtain ⟨k, rfl⟩ := Int.eq_ofNat_of_zero_le k0
  by_cases hlt : k < N.size
  ·have h1 : (k : Int) < (N.size : Int) := by omega
   have h2 : (k : Int) + 1 ≤ (N.size : Int) := by omega
   have hz : (N.extract k (k + 1)).size = 1 := by simp [ByteArray.size_extract]; omega
   have HZ := Lib.hid hz
   clear hz
   go_wp2_with fail
   go_ret
   exact ⟨_, p + 1 + 1, Nat.le_of_eq HZ.out.symm, by rw [HZ.out]; omega, by omega, HNV.out k (by omega), rfl, HR2.out, HK2.out⟩
  ·have h1 : ¬ (k : Int) < (N.size : Int) := by omega
   go_wp2_with fail
   refine (pick_any 3 HR2.out (by omega) (by omega) (by omega)).mono ?_
   rintro e w3 ⟨j, j0, j1, rfl, hr, hk⟩
   have HR3 := Lib.hid hr
   have HK3 := Lib.hid (HK2.out.trans hk)
   have HD := Lib.hid (vdec_one j j0 j1 w3)
   clear hr hk
   go_wp2_with fail
   refine HD.out.mono ?_
   rintro e w4 ⟨s, hs, hv, rfl, hb⟩
   have HV := Lib.hid hv
   clear hv
   have HR4 := Lib.hid (HR3.out.kept hb)
   have HK4 := Lib.hid (HK3.out.next hb)
   clear hb
   go_wp2_with fail
   go_ret
   exact ⟨s, p + 1 + 1 + 1, Nat.le_of_eq hs.symm, by omega, by omega, HV.out, rfl, HR4.out, HK4.out⟩
 ·have g0 : (k == 0) = false := by rw [beq_eq_false_iff_ne]; exact e0
  clear e0
  have hlt := HR.out.lt
  have hne : w1.heap.size ≠ a := by have := HK1.out.size; omega
  have HL := Lib.hid (Blk.new w1 #[.string (⟨#[43]⟩), .string (⟨#[45]⟩), .string (⟨#[42]⟩), .string (⟨#[43]⟩)] 9)
  have hax := (Below.refl _ w1).alloc (Nat.le_refl _) (.cells #[.string (⟨#[43]⟩), .string (⟨#[45]⟩), .string (⟨#[42]⟩), .string (⟨#[43]⟩)] 9)
  have HR1x := Lib.hid (HR1.out.kept hax)
  have HK1x := Lib.hid (HK1.out.next hax)
  clear hax
  have HQ : Hid (∀ i, i < 4 → ∃ s, (#[.string (⟨#[43]⟩), .string (⟨#[45]⟩), .string (⟨#[42]⟩), .string (⟨#[43]⟩)] : Array Value)[i]? = some (.string s) ∧ IsA s) := fun i hi => by
   have hi : i = 0 ∨ i = 1 ∨ i = 2 ∨ i = 3 := by omega
   rcases hi with rfl | rfl | rfl | rfl <;> exact ⟨_, rfl, by simp [IsA]⟩
  go_wp2_with fail
  refine (of_any 4 4 IsA HR1x.out (by omega) HL.out hne (by omega) (by omega) HQ.out).mono ?_
  rintro e w2 ⟨o, hoA, rfl, hr, hk⟩
  have HO := Lib.hid hoA
  have ho := hoA.size
  clear hoA
  have HR2 := Lib.hid hr
  have HK2 := Lib.hid (HK1x.out.trans hk)
  clear hr hk HL HQ
  have HC := Lib.hid (HI.out (p + 1 + 1) w2 (by omega) HR2.out)
  go_wp2_with fail
  refine HC.out.mono ?_
  rintro e w3 ⟨x, q, x1, x2, hq, hxv, rfl, hr, hk⟩
  have HX := Lib.hid hxv
  clear hxv
  have HR3 := Lib.hid hr
  have HK3 := Lib.hid (HK2.out.trans hk)
  clear hr hk HC
  have HC := Lib.hid (HI.out q w3 (by omega) HR3.out)
  go_wp2_with fail
  refine HC.out.mono ?_
  rintro e w4 ⟨y, q', y1, y2, hq', hyv, rfl, hr, hk⟩
  have HY := Lib.hid hyv
  clear hyv
  have HR4 := Lib.hid hr
  have HK4 := Lib.hid (HK3.out.trans hk)
  clear hr hk HC
  obtain ⟨n1, n2⟩ := szd (Nat.le_of_eq ho) x2 y2 hh
  have hs : (o ++ x ++ y).size = 1 + x.size + y.size := by simp [ByteArray.size_append, ho]
  have HS := Lib.hid hs
  clear hs
  go_wp2_with fail
  go_ret
  exact ⟨o ++ x ++ y, q', by rw [HS.out]; omega, by rw [HS.out]; omega, by omega, HO.out.bin HX.out HY.out, rfl, HR4.out, HK4.out⟩
theorem vE_1 {a p : Nat} (N : ByteArray) (hN : 1 ≤ N.size) (hN2 : N.size ≤ 6) (hNv : Nm N) {w : World} (hr : Rd a p w) (hp : p ≤ 800000) :
  Calls Tryz.prog 205 #[.pointer (some ⟨a, 0, none⟩), .int .i64 1, .string N] w (DrQ (IsX false) a p 1 3 7 w) :=
 vE_succ N hN hN2 hNv 1 0 (by omega) rfl 1 2 (by omega) (by omega) hr (by omega) fun q w1 hq h => vE_zero N hN hN2 hNv 0 (by omega) h (by omega)
set_option maxRecDepth 100000 in
set_option maxHeartbeats 8000000 in
theorem vT_zero {a p : Nat} (N : ByteArray) (hN : 1 ≤ N.size) (hN2 : N.size ≤ 6) (hNv : Nm N) (d : Int) (hd : d ≤ 0) {w : World} (hr : Rd a p w) (hp : p ≤ 700000) :
  Calls Tryz.prog 151 #[.pointer (some ⟨a, 0, none⟩), .int .i64 d, .string N] w (DrQ (IsX true) a p 1 7 17 w) := by
 have HR := Lib.hid hr
 have hlt := hr.lt
 have HNV := Lib.hid hNv
 clear hr hNv
 have C := Lib.hid (pick_any 8 HR.out (by omega) (by omega) (by omega))
 go_enter Tryz.func151, Tryz.ntmps151
 go_wp2_with fail
 refine C.out.mono ?_
 rintro e w1 ⟨k, k0, k1, rfl, hr, hk⟩
 have HR1 := Lib.hid hr
 have HK1 := Lib.hid hk
 clear hr hk C
 go_wp2_with fail
 refine (pick_any 10 HR1.out (by omega) (by omega) (by omega)).mono ?_
 rintro e w2 ⟨j, j0, j1, rfl, hr, hk⟩
 have HR2 := Lib.hid hr
 have HK2 := Lib.hid (HK1.out.trans hk)
 clear hr hk
 by_cases e0 : j = 0
 ·subst e0
  have hneL : w2.heap.size ≠ a := by have := HK2.out.size; omega
  have HL := Lib.hid (Blk.new w2 #[.string (⟨#[116]⟩), .string (⟨#[102]⟩)] 9)
  have hax := (Below.refl _ w2).alloc (Nat.le_refl _) (.cells #[.string (⟨#[116]⟩), .string (⟨#[102]⟩)] 9)
  have HRx := Lib.hid (HR2.out.kept hax)
  have HKx := Lib.hid (HK2.out.next hax)
  clear hax
  have HQ : Hid (∀ i, i < 2 → ∃ s, (#[.string (⟨#[116]⟩), .string (⟨#[102]⟩)] : Array Value)[i]? = some (.string s) ∧ IsTF s) := fun i hi => by
   have hi : i = 0 ∨ i = 1 := by omega
   rcases hi with rfl | rfl <;> exact ⟨_, rfl, by simp [IsTF]⟩
  go_wp2_with fail
  refine (of_any 2 2 IsTF HRx.out (by omega) HL.out hneL (by omega) (by omega) HQ.out).mono ?_
  rintro e w3 ⟨o, hoA, rfl, hr, hk⟩
  have HOV := Lib.hid hoA
  have ho := hoA.size
  clear hoA
  have HR3 := Lib.hid hr
  have HK3 := Lib.hid (HKx.out.trans hk)
  clear hr hk HL HQ HRx HKx
  have HO := Lib.hid ho
  go_wp2_with fail
  go_ret
  exact ⟨o, p + 1 + 1 + 1, by rw [HO.out]; omega, by rw [HO.out]; omega, by omega, HOV.out.ok, rfl, HR3.out, HK3.out⟩
 ·have g0 : (j == 0) = false := by rw [beq_eq_false_iff_ne]; exact e0
  clear e0
  have hneL : w2.heap.size ≠ a := by have := HK2.out.size; omega
  have HL := Lib.hid (Blk.new w2 #[.string (⟨#[61]⟩), .string (⟨#[60]⟩)] 9)
  have hax := (Below.refl _ w2).alloc (Nat.le_refl _) (.cells #[.string (⟨#[61]⟩), .string (⟨#[60]⟩)] 9)
  have HRx := Lib.hid (HR2.out.kept hax)
  have HKx := Lib.hid (HK2.out.next hax)
  clear hax
  have HQ : Hid (∀ i, i < 2 → ∃ s, (#[.string (⟨#[61]⟩), .string (⟨#[60]⟩)] : Array Value)[i]? = some (.string s) ∧ IsCm s) := fun i hi => by
   have hi : i = 0 ∨ i = 1 := by omega
   rcases hi with rfl | rfl <;> exact ⟨_, rfl, by simp [IsCm]⟩
  go_wp2_with fail
  refine (of_any 2 2 IsCm HRx.out (by omega) HL.out hneL (by omega) (by omega) HQ.out).mono ?_
  rintro e w3 ⟨o, hoA, rfl, hr, hk⟩
  have HOV := Lib.hid hoA
  have ho := hoA.size
  clear hoA
  have HR3 := Lib.hid hr
  have HK3 := Lib.hid (HKx.out.trans hk)
  clear hr hk HL HQ HRx HKx
  have HC := Lib.hid (vE_1 N hN hN2 HNV.out HR3.out (by omega))
  go_wp2_with fail
  refine HC.out.mono ?_
  rintro e w4 ⟨x, q, x1, x2, hq, hvv, rfl, hr, hk⟩
  have HX := Lib.hid hvv
  clear hvv
  have HR4 := Lib.hid hr
  have HK4 := Lib.hid (HK3.out.trans hk)
  clear hr hk HC
  have HC := Lib.hid (vE_1 N hN hN2 HNV.out HR4.out (by omega))
  go_wp2_with fail
  refine HC.out.mono ?_
  rintro e w5 ⟨y, q', y1, y2, hq', hvv, rfl, hr, hk⟩
  have HY := Lib.hid hvv
  clear hvv
  have HR5 := Lib.hid hr
  have HK5 := Lib.hid (HK4.out.trans hk)
  clear hr hk HC
  obtain ⟨n1, n2⟩ := szd (Nat.le_of_eq ho) x2 y2 (by omega)
  have hs : (o ++ x ++ y).size = 1 + x.size + y.size := by simp [ByteArray.size_append, ho]
  have HS := Lib.hid hs
  clear hs
  go_wp2_with fail
  go_ret
  exact ⟨o ++ x ++ y, q', by rw [HS.out]; omega, by rw [HS.out]; omega, by omega, HOV.out.bin HX.out HY.out, rfl, HR5.out, HK5.out⟩
set_option maxRecDepth 100000 in
set_option maxHeartbeats 8000000 in
theorem vT_succ {a p : Nat} (N : ByteArray) (hN : 1 ≤ N.size) (hN2 : N.size ≤ 6) (hNv : Nm N) (d m : Int) (hd : ¬ d ≤ 0) (hm : IntKind.i64.wrap (d - 1) = m) (hi c : Nat) (hh : hi ≤ 100000) (h7 : 7 ≤ hi) (h17 : 17 ≤ c) {w : World} (hr : Rd a p w) (hp : p + (2 * c + 2) ≤ 700000)
  (IH : ∀ (q : Nat) (w1 : World), q ≤ p + (c + 2) → Rd a q w1 → Calls Tryz.prog 151 #[.pointer (some ⟨a, 0, none⟩), .int .i64 m, .string N] w1 (DrQ (IsX true) a q 1 hi c w1)) :
  Calls Tryz.prog 151 #[.pointer (some ⟨a, 0, none⟩), .int .i64 d, .string N] w (DrQ (IsX true) a p 1 (2 * hi + 1) (2 * c + 2) w) := by
 have HR := Lib.hid hr
 have hlt := hr.lt
 have HI := Lib.hid IH
 have HNV := Lib.hid hNv
 clear hr IH hNv
 have C := Lib.hid (pick_any 8 HR.out (by omega) (by omega) (by omega))
 go_enter Tryz.func151, Tryz.ntmps151
 go_wp2_with fail
 refine C.out.mono ?_
 rintro e w1 ⟨k, k0, k1, rfl, hr, hk⟩
 have HR1 := Lib.hid hr
 have HK1 := Lib.hid hk
 clear hr hk C
 by_cases h4 : k < 4
 ·go_wp2_with fail
  refine (pick_any 10 HR1.out (by omega) (by omega) (by omega)).mono ?_
  rintro e w2 ⟨j, j0, j1, rfl, hr, hk⟩
  have HR2 := Lib.hid hr
  have HK2 := Lib.hid (HK1.out.trans hk)
  clear hr hk
  by_cases e0 : j = 0
  ·subst e0
   have hneL : w2.heap.size ≠ a := by have := HK2.out.size; omega
   have HL := Lib.hid (Blk.new w2 #[.string (⟨#[116]⟩), .string (⟨#[102]⟩)] 9)
   have hax := (Below.refl _ w2).alloc (Nat.le_refl _) (.cells #[.string (⟨#[116]⟩), .string (⟨#[102]⟩)] 9)
   have HRx := Lib.hid (HR2.out.kept hax)
   have HKx := Lib.hid (HK2.out.next hax)
   clear hax
   have HQ : Hid (∀ i, i < 2 → ∃ s, (#[.string (⟨#[116]⟩), .string (⟨#[102]⟩)] : Array Value)[i]? = some (.string s) ∧ IsTF s) := fun i hi => by
    have hi : i = 0 ∨ i = 1 := by omega
    rcases hi with rfl | rfl <;> exact ⟨_, rfl, by simp [IsTF]⟩
   go_wp2_with fail
   refine (of_any 2 2 IsTF HRx.out (by omega) HL.out hneL (by omega) (by omega) HQ.out).mono ?_
   rintro e w3 ⟨o, hoA, rfl, hr, hk⟩
   have HOV := Lib.hid hoA
   have ho := hoA.size
   clear hoA
   have HR3 := Lib.hid hr
   have HK3 := Lib.hid (HKx.out.trans hk)
   clear hr hk HL HQ HRx HKx
   have HO := Lib.hid ho
   go_wp2_with fail
   go_ret
   exact ⟨o, p + 1 + 1 + 1, by rw [HO.out]; omega, by rw [HO.out]; omega, by omega, HOV.out.ok, rfl, HR3.out, HK3.out⟩
  ·have g0 : (j == 0) = false := by rw [beq_eq_false_iff_ne]; exact e0
   clear e0
   have hneL : w2.heap.size ≠ a := by have := HK2.out.size; omega
   have HL := Lib.hid (Blk.new w2 #[.string (⟨#[61]⟩), .string (⟨#[60]⟩)] 9)
   have hax := (Below.refl _ w2).alloc (Nat.le_refl _) (.cells #[.string (⟨#[61]⟩), .string (⟨#[60]⟩)] 9)
   have HRx := Lib.hid (HR2.out.kept hax)
   have HKx := Lib.hid (HK2.out.next hax)
   clear hax
   have HQ : Hid (∀ i, i < 2 → ∃ s, (#[.string (⟨#[61]⟩), .string (⟨#[60]⟩)] : Array Value)[i]? = some (.string s) ∧ IsCm s) := fun i hi => by
    have hi : i = 0 ∨ i = 1 := by omega
    rcases hi with rfl | rfl <;> exact ⟨_, rfl, by simp [IsCm]⟩
   go_wp2_with fail
   refine (of_any 2 2 IsCm HRx.out (by omega) HL.out hneL (by omega) (by omega) HQ.out).mono ?_
   rintro e w3 ⟨o, hoA, rfl, hr, hk⟩
   have HOV := Lib.hid hoA
   have ho := hoA.size
   clear hoA
   have HR3 := Lib.hid hr
   have HK3 := Lib.hid (HKx.out.trans hk)
   clear hr hk HL HQ HRx HKx
   have HC := Lib.hid (vE_1 N hN hN2 HNV.out HR3.out (by omega))
   go_wp2_with fail
   refine HC.out.mono ?_
   rintro e w4 ⟨x, q, x1, x2, hq, hvv, rfl, hr, hk⟩
   have HX := Lib.hid hvv
   clear hvv
   have HR4 := Lib.hid hr
   have HK4 := Lib.hid (HK3.out.trans hk)
   clear hr hk HC
   have HC := Lib.hid (vE_1 N hN hN2 HNV.out HR4.out (by omega))
   go_wp2_with fail
   refine HC.out.mono ?_
   rintro e w5 ⟨y, q', y1, y2, hq', hvv, rfl, hr, hk⟩
   have HY := Lib.hid hvv
   clear hvv
   have HR5 := Lib.hid hr
   have HK5 := Lib.hid (HK4.out.trans hk)
   clear hr hk HC
   obtain ⟨n1, n2⟩ := szd (Nat.le_of_eq ho) x2 y2 (by omega)
   have hs : (o ++ x ++ y).size = 1 + x.size + y.size := by simp [ByteArray.size_append, ho]
   have HS := Lib.hid hs
   clear hs
   go_wp2_with fail
   go_ret
   exact ⟨o ++ x ++ y, q', by rw [HS.out]; omega, by rw [HS.out]; omega, by omega, HOV.out.bin HX.out HY.out, rfl, HR5.out, HK5.out⟩
 ·by_cases h5 : k < 5
  ·have HC := Lib.hid (HI.out (p + 1) w1 (by omega) HR1.out)
   go_wp2_with fail
   refine HC.out.mono ?_
   rintro e w2 ⟨x, q, x1, x2, hq, hvv, rfl, hr, hk⟩
   have HX := Lib.hid hvv
   clear hvv
   have HR2 := Lib.hid hr
   have HK2 := Lib.hid (HK1.out.trans hk)
   clear hr hk HC
   obtain ⟨n1, n2⟩ := szd (x := 1) (z := x.size) (Nat.le_refl _) x2 x2 hh
   go_wp2_with fail
   go_ret
   exact ⟨_, q, by rw [ByteArray.size_append]; omega, by rw [ByteArray.size_append, show ByteArray.size ⟨#[33]⟩ = 1 from rfl]; omega, by omega, isX_not HX.out, rfl, HR2.out, HK2.out⟩
  ·have hneL : w1.heap.size ≠ a := by have := HK1.out.size; omega
   have HL := Lib.hid (Blk.new w1 #[.string (⟨#[38]⟩), .string (⟨#[124]⟩)] 9)
   have hax := (Below.refl _ w1).alloc (Nat.le_refl _) (.cells #[.string (⟨#[38]⟩), .string (⟨#[124]⟩)] 9)
   have HRx := Lib.hid (HR1.out.kept hax)
   have HKx := Lib.hid (HK1.out.next hax)
   clear hax
   have HQ : Hid (∀ i, i < 2 → ∃ s, (#[.string (⟨#[38]⟩), .string (⟨#[124]⟩)] : Array Value)[i]? = some (.string s) ∧ IsJ s) := fun i hi => by
    have hi : i = 0 ∨ i = 1 := by omega
    rcases hi with rfl | rfl <;> exact ⟨_, rfl, by simp [IsJ]⟩
   go_wp2_with fail
   refine (of_any 2 2 IsJ HRx.out (by omega) HL.out hneL (by omega) (by omega) HQ.out).mono ?_
   rintro e w3 ⟨o, hoA, rfl, hr, hk⟩
   have HOV := Lib.hid hoA
   have ho := hoA.size
   clear hoA
   have HR3 := Lib.hid hr
   have HK3 := Lib.hid (HKx.out.trans hk)
   clear hr hk HL HQ HRx HKx
   have HC := Lib.hid (HI.out (p + 1 + 1) w3 (by omega) HR3.out)
   go_wp2_with fail
   refine HC.out.mono ?_
   rintro e w4 ⟨x, q, x1, x2, hq, hvv, rfl, hr, hk⟩
   have HX := Lib.hid hvv
   clear hvv
   have HR4 := Lib.hid hr
   have HK4 := Lib.hid (HK3.out.trans hk)
   clear hr hk HC
   have HC := Lib.hid (HI.out q w4 (by omega) HR4.out)
   go_wp2_with fail
   refine HC.out.mono ?_
   rintro e w5 ⟨y, q', y1, y2, hq', hvv, rfl, hr, hk⟩
   have HY := Lib.hid hvv
   clear hvv
   have HR5 := Lib.hid hr
   have HK5 := Lib.hid (HK4.out.trans hk)
   clear hr hk HC
   obtain ⟨n1, n2⟩ := szd (Nat.le_of_eq ho) x2 y2 hh
   have hs : (o ++ x ++ y).size = 1 + x.size + y.size := by simp [ByteArray.size_append, ho]
   have HS := Lib.hid hs
   clear hs
   go_wp2_with fail
   go_ret
   exact ⟨o ++ x ++ y, q', by rw [HS.out]; omega, by rw [HS.out]; omega, by omega, HOV.out.bin HX.out HY.out, rfl, HR5.out, HK5.out⟩
theorem vT_1 {a p : Nat} (N : ByteArray) (hN : 1 ≤ N.size) (hN2 : N.size ≤ 6) (hNv : Nm N) {w : World} (hr : Rd a p w) (hp : p ≤ 600000) :
  Calls Tryz.prog 151 #[.pointer (some ⟨a, 0, none⟩), .int .i64 1, .string N] w (DrQ (IsX true) a p 1 15 36 w) :=
 vT_succ N hN hN2 hNv 1 0 (by omega) rfl 7 17 (by omega) (by omega) (by omega) hr (by omega) fun q w1 hq h => vT_zero N hN hN2 hNv 0 (by omega) h (by omega)
def IsPg (s : ByteArray) : Prop := PValid false s.data.toList
def NmV (N : ByteArray) : Prop := ∀ k, k + 1 ≤ N.size → ∃ c, isVarB false c = true ∧ N.extract k (k + 1) = ⟨#[c]⟩
theorem nmv_xyz : NmV ⟨#[120, 121, 122]⟩ := by
 intro k hk
 have hk : k + 1 ≤ 3 := hk
 have : k = 0 ∨ k = 1 ∨ k = 2 := by omega
 rcases this with rfl | rfl | rfl
 ·exact ⟨120, rfl, by decide +kernel⟩
 ·exact ⟨121, rfl, by decide +kernel⟩
 ·exact ⟨122, rfl, by decide +kernel⟩
theorem NmV.nm {N : ByteArray} (h : NmV N) : Nm N := by
 intro k hk
 obtain ⟨c, hc, e⟩ := h k hk
 rw [e]
 exact ⟨.leaf c, by simp [Ok, opk, hc], rfl⟩
theorem isPg_skip : IsPg ⟨#[115]⟩ := ⟨.skip, trivial, rfl⟩
def IsV (v : ByteArray) : Prop := ∃ c, isVarB false c = true ∧ v = ⟨#[c]⟩
theorem isPg_asg {v x : ByteArray} (hv : IsV v) (hx : IsX false x) : IsPg ((⟨#[97]⟩ : ByteArray) ++ v ++ x) := by
 obtain ⟨c, hc, rfl⟩ := hv
 obtain ⟨t, ht, et⟩ := hx
 exact ⟨.asg c t, ⟨hc, ht⟩, by simp [ByteArray.data_append, et, Pg.ser]⟩
theorem IsV.x {v : ByteArray} (hv : IsV v) : IsX false v := by
 obtain ⟨c, hc, rfl⟩ := hv
 exact ⟨.leaf c, by simp [Ok, opk, hc], rfl⟩
def IsPm (s : ByteArray) : Prop := s = ⟨#[43]⟩ ∨ s = ⟨#[45]⟩
theorem IsPm.size {s : ByteArray} (h : IsPm s) : s.size = 1 := by rcases h with rfl | rfl <;> rfl
theorem isPg_asg3 {v o s : ByteArray} (hv : IsV v) (ho : IsPm o) (hs : IsX false s) : IsPg ((⟨#[97]⟩ : ByteArray) ++ v ++ o ++ v ++ s) := by
 have e : (⟨#[97]⟩ : ByteArray) ++ v ++ o ++ v ++ s = (⟨#[97]⟩ : ByteArray) ++ v ++ (o ++ v ++ s) := by simp only [ByteArray.append_assoc]
 rw [e]
 refine isPg_asg hv (IsA.bin ?_ hv.x hs)
 rcases ho with rfl | rfl <;> simp [IsA]
theorem isPg_two {c : UInt8} (hc : c = 59 ∨ c = 47) {x y : ByteArray} (hx : IsPg x) (hy : IsPg y) : IsPg ((⟨#[c]⟩ : ByteArray) ++ x ++ y) := by
 obtain ⟨t, ht, et⟩ := hx
 obtain ⟨u, hu, eu⟩ := hy
 rcases hc with rfl | rfl
 ·exact ⟨.seq t u, ⟨ht, hu⟩, by simp [ByteArray.data_append, et, eu, Pg.ser]⟩
 ·exact ⟨.cho t u, ⟨ht, hu⟩, by simp [ByteArray.data_append, et, eu, Pg.ser]⟩
theorem isPg_ite {z x y : ByteArray} (hz : IsX true z) (hx : IsPg x) (hy : IsPg y) : IsPg ((⟨#[63]⟩ : ByteArray) ++ z ++ x ++ y) := by
 obtain ⟨b, hb, eb⟩ := hz
 obtain ⟨t, ht, et⟩ := hx
 obtain ⟨u, hu, eu⟩ := hy
 exact ⟨.ite b t u, ⟨hb, ht, hu⟩, by simp [ByteArray.data_append, eb, et, eu, Pg.ser]⟩
theorem isPg_whl {z x : ByteArray} (hz : IsX true z) (hx : IsPg x) : IsPg ((⟨#[64]⟩ : ByteArray) ++ z ++ x) := by
 obtain ⟨b, hb, eb⟩ := hz
 obtain ⟨t, ht, et⟩ := hx
 exact ⟨.whl b t, ⟨hb, ht⟩, by simp [ByteArray.data_append, eb, et, Pg.ser]⟩
theorem isPg_asm {z : ByteArray} (hz : IsX true z) : IsPg ((⟨#[126]⟩ : ByteArray) ++ z) := by
 obtain ⟨b, hb, eb⟩ := hz
 exact ⟨.asm b, hb, by simp [ByteArray.data_append, eb, Pg.ser]⟩
set_option maxRecDepth 100000 in
set_option maxHeartbeats 8000000 in
theorem vS_any {a p : Nat} (N : ByteArray) (hN : 1 ≤ N.size) (hN2 : N.size ≤ 6) (hNv : NmV N) {w : World} (hr : Rd a p w) (hp : p ≤ 700000) :
  Calls Tryz.prog 150 #[.pointer (some ⟨a, 0, none⟩), .string N] w (DrQ IsPg a p 1 5 9 w) := by
 have HR := Lib.hid hr
 have hlt := hr.lt
 have HNV := Lib.hid hNv
 clear hr hNv
 have C := Lib.hid (pick_any (N.size : Int) HR.out (by omega) (by omega) (by omega))
 go_enter Tryz.func150, Tryz.ntmps150
 go_wp2_with fail
 refine C.out.mono ?_
 rintro e w1 ⟨k, k0, k1, rfl, hr, hk⟩
 have HR1 := Lib.hid hr
 have HK1 := Lib.hid hk
 clear hr hk C
 obtain ⟨k, rfl⟩ := Int.eq_ofNat_of_zero_le k0
 have h1 : (k : Int) < (N.size : Int) := by omega
 have h2 : (k : Int) + 1 ≤ (N.size : Int) := by omega
 have hz : (N.extract k (k + 1)).size = 1 := by simp [ByteArray.size_extract]; omega
 have HZ := Lib.hid hz
 clear hz
 have HVV : Hid (IsV (N.extract k (k + 1))) := HNV.out k (by omega)
 have C := Lib.hid (pick_any 4 HR1.out (by omega) (by omega) (by omega))
 go_wp2_with fail
 refine C.out.mono ?_
 rintro e w2 ⟨j, j0, j1, rfl, hr, hk⟩
 have HR2 := Lib.hid hr
 have HK2 := Lib.hid (HK1.out.trans hk)
 clear hr hk C
 generalize N.extract k (k + 1) = v at *
 have n1 : ¬ 9223372036854775807 < 1 + v.size := by rw [HZ.out]; omega
 by_cases e0 : j = 0
 ·subst e0
  have hneL : w2.heap.size ≠ a := by have := HK2.out.size; omega
  have HL := Lib.hid (Blk.new w2 #[.string (⟨#[43]⟩), .string (⟨#[45]⟩)] 9)
  have hax := (Below.refl _ w2).alloc (Nat.le_refl _) (.cells #[.string (⟨#[43]⟩), .string (⟨#[45]⟩)] 9)
  have HRx := Lib.hid (HR2.out.kept hax)
  have HKx := Lib.hid (HK2.out.next hax)
  clear hax
  have HQ : Hid (∀ i, i < 2 → ∃ s, (#[.string (⟨#[43]⟩), .string (⟨#[45]⟩)] : Array Value)[i]? = some (.string s) ∧ IsPm s) := fun i hi => by
   have hi : i = 0 ∨ i = 1 := by omega
   rcases hi with rfl | rfl <;> exact ⟨_, rfl, by simp [IsPm]⟩
  go_wp2_with fail
  refine (of_any 2 2 IsPm HRx.out (by omega) HL.out hneL (by omega) (by omega) HQ.out).mono ?_
  rintro e w3 ⟨o, hoA, rfl, hr, hk⟩
  have HOP := Lib.hid hoA
  have ho := hoA.size
  clear hoA
  have HR3 := Lib.hid hr
  have HK3 := Lib.hid (HKx.out.trans hk)
  clear hr hk HL HQ HRx HKx
  have n2 : ¬ 9223372036854775807 < 1 + v.size + o.size := by rw [HZ.out, ho]; omega
  have n3 : ¬ 9223372036854775807 < 1 + v.size + o.size + v.size := by rw [HZ.out, ho]; omega
  have HO := Lib.hid ho
  clear ho
  have C := Lib.hid (pick_any 2 HR3.out (by omega) (by omega) (by omega))
  go_wp2_with fail
  refine C.out.mono ?_
  rintro e w4 ⟨i, i0, i1, rfl, hr, hk⟩
  have HR4 := Lib.hid hr
  have HK4 := Lib.hid (HK3.out.trans hk)
  clear hr hk C
  have ew : IntKind.i64.wrap (1 + i) = 1 + i := IntWalk.i64_in _ (by omega)
  have HD := Lib.hid (vdec_one (1 + i) (by omega) (by omega) w4)
  go_wp2_with fail
  refine HD.out.mono ?_
  rintro e w5 ⟨s, hs, hvv, rfl, hb⟩
  have HSV := Lib.hid hvv
  clear hvv
  have HR5 := Lib.hid (HR4.out.kept hb)
  have HK5 := Lib.hid (HK4.out.next hb)
  clear hb HD
  have n4 : ¬ 9223372036854775807 < 1 + v.size + o.size + v.size + s.size := by rw [HZ.out, HO.out, hs]; omega
  have hz : ((⟨#[97]⟩ : ByteArray) ++ v ++ o ++ v ++ s).size = 5 := by simp only [ByteArray.size_append, HZ.out, HO.out, hs, one_size]
  have HS := Lib.hid hz
  clear hz hs
  go_wp2_with fail
  go_ret
  exact ⟨(⟨#[97]⟩ : ByteArray) ++ v ++ o ++ v ++ s, _, by rw [HS.out]; omega, by rw [HS.out]; omega, by omega, isPg_asg3 HVV.out HOP.out HSV.out, rfl, HR5.out, HK5.out⟩
 have g0 : (j == 0) = false := by rw [beq_eq_false_iff_ne]; exact e0
 clear e0
 by_cases e1 : j = 1
 ·subst e1
  have C := Lib.hid (pick_any 3 HR2.out (by omega) (by omega) (by omega))
  go_wp2_with fail
  refine C.out.mono ?_
  rintro e w4 ⟨i, i0, i1, rfl, hr, hk⟩
  have HR4 := Lib.hid hr
  have HK4 := Lib.hid (HK2.out.trans hk)
  clear hr hk C
  have HD := Lib.hid (vdec_one i (by omega) (by omega) w4)
  go_wp2_with fail
  refine HD.out.mono ?_
  rintro e w5 ⟨s, hs, hvv, rfl, hb⟩
  have HSV := Lib.hid hvv
  clear hvv
  have HR5 := Lib.hid (HR4.out.kept hb)
  have HK5 := Lib.hid (HK4.out.next hb)
  clear hb HD
  have n4 : ¬ 9223372036854775807 < 1 + v.size + s.size := by rw [HZ.out, hs]; omega
  have hz : ((⟨#[97]⟩ : ByteArray) ++ v ++ s).size = 3 := by simp only [ByteArray.size_append, HZ.out, hs, one_size]
  have HS := Lib.hid hz
  clear hz hs
  go_wp2_with fail
  go_ret
  exact ⟨(⟨#[97]⟩ : ByteArray) ++ v ++ s, _, by rw [HS.out]; omega, by rw [HS.out]; omega, by omega, isPg_asg HVV.out HSV.out, rfl, HR5.out, HK5.out⟩
 have g1 : (j == 1) = false := by rw [beq_eq_false_iff_ne]; exact e1
 clear e1
 have HC := Lib.hid (vE_1 N hN hN2 HNV.out.nm HR2.out (by omega))
 go_wp2_with fail
 refine HC.out.mono ?_
 rintro e w3 ⟨x, q, x1, x2, hq, hvv, rfl, hr, hk⟩
 have HVx := Lib.hid hvv
 clear hvv
 have HR3 := Lib.hid hr
 have HK3 := Lib.hid (HK2.out.trans hk)
 clear hr hk HC
 have n4 : ¬ 9223372036854775807 < 1 + v.size + x.size := by rw [HZ.out]; omega
 have hz : ((⟨#[97]⟩ : ByteArray) ++ v ++ x).size = 2 + x.size := by simp only [ByteArray.size_append, HZ.out, one_size]
 have HS := Lib.hid hz
 clear hz
 go_wp2_with fail
 go_ret
 exact ⟨(⟨#[97]⟩ : ByteArray) ++ v ++ x, _, by rw [HS.out]; omega, by rw [HS.out]; omega, by omega, isPg_asg HVV.out HVx.out, rfl, HR3.out, HK3.out⟩
set_option maxRecDepth 100000 in
set_option maxHeartbeats 8000000 in
theorem vP_zero {a p : Nat} (N : ByteArray) (hN : 1 ≤ N.size) (hN2 : N.size ≤ 6) (hNv : NmV N) (d : Int) (b : Bool) (hd : d ≤ 0) {w : World} (hr : Rd a p w) (hp : p ≤ 600000) :
  Calls Tryz.prog 79 #[.pointer (some ⟨a, 0, none⟩), .int .i64 d, .bool b, .string N] w (DrQ IsPg a p 1 5 11 w) := by
 have HR := Lib.hid hr
 have HNV := Lib.hid hNv
 clear hr hNv
 have C := Lib.hid (pick_any 12 HR.out (by omega) (by omega) (by omega))
 go_enter Tryz.func79, Tryz.ntmps79
 go_wp2_with fail
 refine C.out.mono ?_
 rintro e w1 ⟨k, k0, k1, rfl, hr, hk⟩
 have HR1 := Lib.hid hr
 have HK1 := Lib.hid hk
 clear hr hk C
 have C := Lib.hid (pick_any 8 HR1.out (by omega) (by omega) (by omega))
 go_wp2_with fail
 refine C.out.mono ?_
 rintro e w2 ⟨j, j0, j1, rfl, hr, hk⟩
 have HR2 := Lib.hid hr
 have HK2 := Lib.hid (HK1.out.trans hk)
 clear hr hk C
 by_cases e0 : j = 0
 ·subst e0
  go_wp2_with fail
  go_ret
  exact ⟨⟨#[115]⟩, _, by rw [one_size]; omega, by rw [one_size]; omega, by omega, isPg_skip, rfl, HR2.out, HK2.out⟩
 ·have g0 : (j == 0) = false := by rw [beq_eq_false_iff_ne]; exact e0
  clear e0
  have HC := Lib.hid (vS_any N hN hN2 HNV.out HR2.out (by omega))
  go_wp2_with fail
  refine HC.out.mono ?_
  rintro e w3 ⟨x, q, x1, x2, hq, hvv, rfl, hr, hk⟩
  have HVx := Lib.hid hvv
  clear hvv
  have HR3 := Lib.hid hr
  have HK3 := Lib.hid (HK2.out.trans hk)
  clear hr hk HC
  go_wp2_with fail
  go_ret
  exact ⟨x, q, x1, by omega, by omega, HVx.out, rfl, HR3.out, HK3.out⟩
set_option maxRecDepth 100000 in
set_option maxHeartbeats 16000000 in
theorem vP_succ {a p : Nat} (N : ByteArray) (hN : 1 ≤ N.size) (hN2 : N.size ≤ 6) (hNv : NmV N) (d m : Int) (b : Bool) (hd : ¬ d ≤ 0) (hm : IntKind.i64.wrap (d - 1) = m) (hi c : Nat) (hh : hi ≤ 10000) (h5 : 5 ≤ hi) (h11 : 11 ≤ c) {w : World} (hr : Rd a p w) (hp : p + (2 * c + 37) ≤ 600000)
  (IH : ∀ (q : Nat) (w1 : World), q ≤ p + (c + 37) → Rd a q w1 → Calls Tryz.prog 79 #[.pointer (some ⟨a, 0, none⟩), .int .i64 m, .bool b, .string N] w1 (DrQ IsPg a q 1 hi c w1)) :
  Calls Tryz.prog 79 #[.pointer (some ⟨a, 0, none⟩), .int .i64 d, .bool b, .string N] w (DrQ IsPg a p 1 (2 * hi + 16) (2 * c + 37) w) := by
 have HR := Lib.hid hr
 have HI := Lib.hid IH
 have HNV := Lib.hid hNv
 clear hr IH hNv
 have C := Lib.hid (pick_any 12 HR.out (by omega) (by omega) (by omega))
 go_enter Tryz.func79, Tryz.ntmps79
 go_wp2_with fail
 refine C.out.mono ?_
 rintro e w1 ⟨k, k0, k1, rfl, hr, hk⟩
 have HR1 := Lib.hid hr
 have HK1 := Lib.hid hk
 clear hr hk C
 by_cases h2 : k < 2
 ·have C := Lib.hid (pick_any 8 HR1.out (by omega) (by omega) (by omega))
  go_wp2_with fail
  refine C.out.mono ?_
  rintro e w2 ⟨j, j0, j1, rfl, hr, hk⟩
  have HR2 := Lib.hid hr
  have HK2 := Lib.hid (HK1.out.trans hk)
  clear hr hk C
  by_cases e0 : j = 0
  ·subst e0
   go_wp2_with fail
   go_ret
   exact ⟨⟨#[115]⟩, _, by rw [one_size]; omega, by rw [one_size]; omega, by omega, isPg_skip, rfl, HR2.out, HK2.out⟩
  ·have g0 : (j == 0) = false := by rw [beq_eq_false_iff_ne]; exact e0
   clear e0
   have HC := Lib.hid (vS_any N hN hN2 HNV.out HR2.out (by omega))
   go_wp2_with fail
   refine HC.out.mono ?_
   rintro e w3 ⟨x, q, x1, x2, hq, hvv, rfl, hr, hk⟩
   have HVx := Lib.hid hvv
   clear hvv
   have HR3 := Lib.hid hr
   have HK3 := Lib.hid (HK2.out.trans hk)
   clear hr hk HC
   go_wp2_with fail
   go_ret
   exact ⟨x, q, x1, by omega, by omega, HVx.out, rfl, HR3.out, HK3.out⟩
 by_cases h6 : k < 6
 ·have HC := Lib.hid (HI.out (p + 1) w1 (by omega) HR1.out)
  go_wp2_with fail
  refine HC.out.mono ?_
  rintro e w2 ⟨x, q2, x1, x2, hq2, hvv, rfl, hr, hk⟩
  have HVx := Lib.hid hvv
  clear hvv
  have HR2 := Lib.hid hr
  have HK2 := Lib.hid (HK1.out.trans hk)
  clear hr hk HC
  have HC := Lib.hid (HI.out (q2) w2 (by omega) HR2.out)
  go_wp2_with fail
  refine HC.out.mono ?_
  rintro e w3 ⟨y, q3, y1, y2, hq3, hvv, rfl, hr, hk⟩
  have HVy := Lib.hid hvv
  clear hvv
  have HR3 := Lib.hid hr
  have HK3 := Lib.hid (HK2.out.trans hk)
  clear hr hk HC
  obtain ⟨m1, m2, m3⟩ := szt (by omega : x.size ≤ 100000) (by omega : y.size ≤ 100000) (Nat.zero_le _ : (0 : Nat) ≤ 100000)
  have hz : ((⟨#[59]⟩ : ByteArray) ++ x ++ y).size = 1 + x.size + y.size := by simp only [ByteArray.size_append, one_size]
  have HS := Lib.hid hz
  clear hz
  go_wp2_with fail
  go_ret
  exact ⟨(⟨#[59]⟩ : ByteArray) ++ x ++ y, _, by rw [HS.out]; omega, by rw [HS.out]; omega, by omega, isPg_two (.inl rfl) HVx.out HVy.out, rfl, HR3.out, HK3.out⟩
 by_cases h8 : k < 8
 ·have HC := Lib.hid (vT_1 N hN hN2 HNV.out.nm HR1.out (by omega))
  go_wp2_with fail
  refine HC.out.mono ?_
  rintro e w2 ⟨t, q2, t1, t2, hq2, hvv, rfl, hr, hk⟩
  have HVt := Lib.hid hvv
  clear hvv
  have HR2 := Lib.hid hr
  have HK2 := Lib.hid (HK1.out.trans hk)
  clear hr hk HC
  have HC := Lib.hid (HI.out (q2) w2 (by omega) HR2.out)
  go_wp2_with fail
  refine HC.out.mono ?_
  rintro e w3 ⟨x, q3, x1, x2, hq3, hvv, rfl, hr, hk⟩
  have HVx := Lib.hid hvv
  clear hvv
  have HR3 := Lib.hid hr
  have HK3 := Lib.hid (HK2.out.trans hk)
  clear hr hk HC
  have HC := Lib.hid (HI.out (q3) w3 (by omega) HR3.out)
  go_wp2_with fail
  refine HC.out.mono ?_
  rintro e w4 ⟨y, q4, y1, y2, hq4, hvv, rfl, hr, hk⟩
  have HVy := Lib.hid hvv
  clear hvv
  have HR4 := Lib.hid hr
  have HK4 := Lib.hid (HK3.out.trans hk)
  clear hr hk HC
  obtain ⟨m1, m2, m3⟩ := szt (by omega : t.size ≤ 100000) (by omega : x.size ≤ 100000) (by omega : y.size ≤ 100000)
  have hz : ((⟨#[63]⟩ : ByteArray) ++ t ++ x ++ y).size = 1 + t.size + x.size + y.size := by simp only [ByteArray.size_append, one_size]
  have HS := Lib.hid hz
  clear hz
  go_wp2_with fail
  go_ret
  exact ⟨(⟨#[63]⟩ : ByteArray) ++ t ++ x ++ y, _, by rw [HS.out]; omega, by rw [HS.out]; omega, by omega, isPg_ite HVt.out HVx.out HVy.out, rfl, HR4.out, HK4.out⟩
 by_cases h10 : k < 10
 ·have HC := Lib.hid (vT_1 N hN hN2 HNV.out.nm HR1.out (by omega))
  go_wp2_with fail
  refine HC.out.mono ?_
  rintro e w2 ⟨t, q2, t1, t2, hq2, hvv, rfl, hr, hk⟩
  have HVt := Lib.hid hvv
  clear hvv
  have HR2 := Lib.hid hr
  have HK2 := Lib.hid (HK1.out.trans hk)
  clear hr hk HC
  have HC := Lib.hid (HI.out (q2) w2 (by omega) HR2.out)
  go_wp2_with fail
  refine HC.out.mono ?_
  rintro e w3 ⟨x, q3, x1, x2, hq3, hvv, rfl, hr, hk⟩
  have HVx := Lib.hid hvv
  clear hvv
  have HR3 := Lib.hid hr
  have HK3 := Lib.hid (HK2.out.trans hk)
  clear hr hk HC
  obtain ⟨m1, m2, m3⟩ := szt (by omega : t.size ≤ 100000) (by omega : x.size ≤ 100000) (Nat.zero_le _ : (0 : Nat) ≤ 100000)
  have hz : ((⟨#[64]⟩ : ByteArray) ++ t ++ x).size = 1 + t.size + x.size := by simp only [ByteArray.size_append, one_size]
  have HS := Lib.hid hz
  clear hz
  go_wp2_with fail
  go_ret
  exact ⟨(⟨#[64]⟩ : ByteArray) ++ t ++ x, _, by rw [HS.out]; omega, by rw [HS.out]; omega, by omega, isPg_whl HVt.out HVx.out, rfl, HR3.out, HK3.out⟩
 cases b
 case true =>
  have HC := Lib.hid (vT_1 N hN hN2 HNV.out.nm HR1.out (by omega))
  go_wp2_with fail
  refine HC.out.mono ?_
  rintro e w2 ⟨t, q2, t1, t2, hq2, hvv, rfl, hr, hk⟩
  have HVt := Lib.hid hvv
  clear hvv
  have HR2 := Lib.hid hr
  have HK2 := Lib.hid (HK1.out.trans hk)
  clear hr hk HC
  have HC := Lib.hid (HI.out (q2) w2 (by omega) HR2.out)
  go_wp2_with fail
  refine HC.out.mono ?_
  rintro e w3 ⟨x, q3, x1, x2, hq3, hvv, rfl, hr, hk⟩
  have HVx := Lib.hid hvv
  clear hvv
  have HR3 := Lib.hid hr
  have HK3 := Lib.hid (HK2.out.trans hk)
  clear hr hk HC
  obtain ⟨m1, m2, m3⟩ := szt (by omega : t.size ≤ 100000) (by omega : x.size ≤ 100000) (Nat.zero_le _ : (0 : Nat) ≤ 100000)
  have hz : ((⟨#[64]⟩ : ByteArray) ++ t ++ x).size = 1 + t.size + x.size := by simp only [ByteArray.size_append, one_size]
  have HS := Lib.hid hz
  clear hz
  go_wp2_with fail
  go_ret
  exact ⟨(⟨#[64]⟩ : ByteArray) ++ t ++ x, _, by rw [HS.out]; omega, by rw [HS.out]; omega, by omega, isPg_whl HVt.out HVx.out, rfl, HR3.out, HK3.out⟩
 case false =>
  by_cases h12 : k < 11
  ·have HC := Lib.hid (HI.out (p + 1) w1 (by omega) HR1.out)
   go_wp2_with fail
   refine HC.out.mono ?_
   rintro e w2 ⟨x, q2, x1, x2, hq2, hvv, rfl, hr, hk⟩
   have HVx := Lib.hid hvv
   clear hvv
   have HR2 := Lib.hid hr
   have HK2 := Lib.hid (HK1.out.trans hk)
   clear hr hk HC
   have HC := Lib.hid (HI.out (q2) w2 (by omega) HR2.out)
   go_wp2_with fail
   refine HC.out.mono ?_
   rintro e w3 ⟨y, q3, y1, y2, hq3, hvv, rfl, hr, hk⟩
   have HVy := Lib.hid hvv
   clear hvv
   have HR3 := Lib.hid hr
   have HK3 := Lib.hid (HK2.out.trans hk)
   clear hr hk HC
   obtain ⟨m1, m2, m3⟩ := szt (by omega : x.size ≤ 100000) (by omega : y.size ≤ 100000) (Nat.zero_le _ : (0 : Nat) ≤ 100000)
   have hz : ((⟨#[47]⟩ : ByteArray) ++ x ++ y).size = 1 + x.size + y.size := by simp only [ByteArray.size_append, one_size]
   have HS := Lib.hid hz
   clear hz
   go_wp2_with fail
   go_ret
   exact ⟨(⟨#[47]⟩ : ByteArray) ++ x ++ y, _, by rw [HS.out]; omega, by rw [HS.out]; omega, by omega, isPg_two (.inr rfl) HVx.out HVy.out, rfl, HR3.out, HK3.out⟩
  ·have HC := Lib.hid (vT_1 N hN hN2 HNV.out.nm HR1.out (by omega))
   go_wp2_with fail
   refine HC.out.mono ?_
   rintro e w2 ⟨t, q2, t1, t2, hq2, hvv, rfl, hr, hk⟩
   have HVt := Lib.hid hvv
   clear hvv
   have HR2 := Lib.hid hr
   have HK2 := Lib.hid (HK1.out.trans hk)
   clear hr hk HC
   obtain ⟨m1, m2, m3⟩ := szt (by omega : t.size ≤ 100000) (Nat.zero_le _ : (0 : Nat) ≤ 100000) (Nat.zero_le _ : (0 : Nat) ≤ 100000)
   have hz : ((⟨#[126]⟩ : ByteArray) ++ t).size = 1 + t.size := by simp only [ByteArray.size_append, one_size]
   have HS := Lib.hid hz
   clear hz
   go_wp2_with fail
   go_ret
   exact ⟨(⟨#[126]⟩ : ByteArray) ++ t, _, by rw [HS.out]; omega, by rw [HS.out]; omega, by omega, isPg_asm HVt.out, rfl, HR2.out, HK2.out⟩
theorem vP_1 {a p : Nat} (N : ByteArray) (hN : 1 ≤ N.size) (hN2 : N.size ≤ 6) (hNv : NmV N) (b : Bool) {w : World} (hr : Rd a p w) (hp : p ≤ 500000) :
  Calls Tryz.prog 79 #[.pointer (some ⟨a, 0, none⟩), .int .i64 1, .bool b, .string N] w (DrQ IsPg a p 1 26 59 w) :=
 vP_succ N hN hN2 hNv 1 0 b (by omega) rfl 5 11 (by omega) (by omega) (by omega) hr (by omega) fun q w1 hq h => vP_zero N hN hN2 hNv 0 b (by omega) h (by omega)
theorem vP_2 {a p : Nat} (N : ByteArray) (hN : 1 ≤ N.size) (hN2 : N.size ≤ 6) (hNv : NmV N) (b : Bool) {w : World} (hr : Rd a p w) (hp : p ≤ 400000) :
  Calls Tryz.prog 79 #[.pointer (some ⟨a, 0, none⟩), .int .i64 2, .bool b, .string N] w (DrQ IsPg a p 1 68 155 w) :=
 vP_succ N hN hN2 hNv 2 1 b (by omega) rfl 26 59 (by omega) (by omega) (by omega) hr (by omega) fun q w1 hq h => vP_1 N hN hN2 hNv b h (by omega)
def IsXw (k : Bool) (s : ByteArray) : Prop := Valid true k s.data.toList
theorem IsX.w {k : Bool} {s : ByteArray} (h : IsX k s) : IsXw k s := by
 obtain ⟨t, ht, et⟩ := h
 exact ⟨t, ok_wide ht, et⟩
theorem isXw_bin {c : UInt8} {k k1 k2 : Bool} (hc : opk true k c = some [k1, k2]) {x y : ByteArray} (hx : IsXw k1 x) (hy : IsXw k2 y) : IsXw k ((⟨#[c]⟩ : ByteArray) ++ x ++ y) := by
 obtain ⟨t, ht, et⟩ := hx
 obtain ⟨u, hu, eu⟩ := hy
 exact ⟨.bin c t u, ⟨k1, k2, hc, ht, hu⟩, by simp [ByteArray.data_append, et, eu, Tm.ser]⟩
theorem IsA.binw {s x y : ByteArray} (h : IsA s) (hx : IsXw false x) (hy : IsXw false y) : IsXw false (s ++ x ++ y) := by
 rcases h with rfl | rfl | rfl <;> exact isXw_bin rfl hx hy
theorem IsCm.binw {s x y : ByteArray} (h : IsCm s) (hx : IsXw false x) (hy : IsXw false y) : IsXw true (s ++ x ++ y) := by
 rcases h with rfl | rfl <;> exact isXw_bin rfl hx hy
theorem IsJ.binw {s x y : ByteArray} (h : IsJ s) (hx : IsXw true x) (hy : IsXw true y) : IsXw true (s ++ x ++ y) := by
 rcases h with rfl | rfl <;> exact isXw_bin rfl hx hy
theorem isXw_not {x : ByteArray} (hx : IsXw true x) : IsXw true ((⟨#[33]⟩ : ByteArray) ++ x) := by
 obtain ⟨t, ht, et⟩ := hx
 exact ⟨.un 33 t, ⟨true, rfl, ht⟩, by simp [ByteArray.data_append, et, Tm.ser]⟩
def NmW (N : ByteArray) : Prop := ∀ k, k + 1 ≤ N.size → IsXw false (N.extract k (k + 1))
theorem nmw_six : NmW ⟨#[120, 121, 122, 88, 89, 90]⟩ := by
 intro k hk
 have hk : k + 1 ≤ 6 := hk
 have : k = 0 ∨ k = 1 ∨ k = 2 ∨ k = 3 ∨ k = 4 ∨ k = 5 := by omega
 rcases this with rfl | rfl | rfl | rfl | rfl | rfl
 ·exact ⟨.leaf 120, rfl, by decide +kernel⟩
 ·exact ⟨.leaf 121, rfl, by decide +kernel⟩
 ·exact ⟨.leaf 122, rfl, by decide +kernel⟩
 ·exact ⟨.leaf 88, rfl, by decide +kernel⟩
 ·exact ⟨.leaf 89, rfl, by decide +kernel⟩
 ·exact ⟨.leaf 90, rfl, by decide +kernel⟩
set_option maxRecDepth 100000 in
set_option maxHeartbeats 4000000 in
theorem wE_zero {a p : Nat} (N : ByteArray) (hN : 1 ≤ N.size) (hN2 : N.size ≤ 6) (hNv : NmW N) (d : Int) (hd : d ≤ 0) {w : World} (hr : Rd a p w) (hp : p ≤ 900000) :
  Calls Tryz.prog 205 #[.pointer (some ⟨a, 0, none⟩), .int .i64 d, .string N] w (DrQ (IsXw false) a p 1 1 2 w) := by
 have HR := Lib.hid hr
 have HNV := Lib.hid hNv
 clear hr hNv
 go_enter Tryz.func205, Tryz.ntmps205
 go_wp2_with fail
 refine (pick_any ((N.size : Int) + 2) HR.out (by omega) (by omega) (by omega)).mono ?_
 rintro e w1 ⟨k, k0, k1, rfl, hr, hk⟩
 have HR1 := Lib.hid hr
 have HK1 := Lib.hid hk
 clear hr hk
 obtain ⟨k, rfl⟩ := Int.eq_ofNat_of_zero_le k0
 by_cases hlt : k < N.size
 ·have h1 : (k : Int) < (N.size : Int) := by omega
  have h2 : (k : Int) + 1 ≤ (N.size : Int) := by omega
  have hz : (N.extract k (k + 1)).size = 1 := by simp [ByteArray.size_extract]; omega
  have HZ := Lib.hid hz
  clear hz
  go_wp2_with fail
  go_ret
  exact ⟨_, p + 1, Nat.le_of_eq HZ.out.symm, Nat.le_of_eq HZ.out, by omega, HNV.out k (by omega), rfl, HR1.out, HK1.out⟩
 ·have h1 : ¬ (k : Int) < (N.size : Int) := by omega
  go_wp2_with fail
  refine (pick_any 3 HR1.out (by omega) (by omega) (by omega)).mono ?_
  rintro e w2 ⟨j, j0, j1, rfl, hr, hk⟩
  have HR2 := Lib.hid hr
  have HK2 := Lib.hid (HK1.out.trans hk)
  have HD := Lib.hid (vdec_one j j0 j1 w2)
  clear hr hk
  go_wp2_with fail
  refine HD.out.mono ?_
  rintro e w3 ⟨s, hs, hv, rfl, hb⟩
  replace hv := hv.w
  have HV := Lib.hid hv
  clear hv
  have HR3 := Lib.hid (HR2.out.kept hb)
  have HK3 := Lib.hid (HK2.out.next hb)
  clear hb
  go_wp2_with fail
  go_ret
  exact ⟨s, p + 1 + 1, Nat.le_of_eq hs.symm, Nat.le_of_eq hs, by omega, HV.out, rfl, HR3.out, HK3.out⟩
set_option maxRecDepth 100000 in
set_option maxHeartbeats 8000000 in
theorem wE_succ {a p : Nat} (N : ByteArray) (hN : 1 ≤ N.size) (hN2 : N.size ≤ 6) (hNv : NmW N) (d m : Int) (hd : ¬ d ≤ 0) (hm : IntKind.i64.wrap (d - 1) = m) (hi c : Nat) (hh : hi ≤ 100000) (h1i : 1 ≤ hi) {w : World} (hr : Rd a p w) (hp : p + (2 * c + 3) ≤ 900000)
  (IH : ∀ (q : Nat) (w1 : World), q ≤ p + (c + 2) → Rd a q w1 → Calls Tryz.prog 205 #[.pointer (some ⟨a, 0, none⟩), .int .i64 m, .string N] w1 (DrQ (IsXw false) a q 1 hi c w1)) :
  Calls Tryz.prog 205 #[.pointer (some ⟨a, 0, none⟩), .int .i64 d, .string N] w (DrQ (IsXw false) a p 1 (2 * hi + 1) (2 * c + 3) w) := by
 have HR := Lib.hid hr
 have HI := Lib.hid IH
 have HNV := Lib.hid hNv
 clear hr IH hNv
 have C := Lib.hid (pick_any 3 HR.out (by omega) (by omega) (by omega))
 go_enter Tryz.func205, Tryz.ntmps205
 go_wp2_with fail
 refine C.out.mono ?_
 rintro e w1 ⟨k, k0, k1, rfl, hr, hk⟩
 have HR1 := Lib.hid hr
 have HK1 := Lib.hid hk
 clear hr hk C
 by_cases e0 : k = 0
 ·subst e0
  go_wp2_with fail
  refine (pick_any ((N.size : Int) + 2) HR1.out (by omega) (by omega) (by omega)).mono ?_
  rintro e w2 ⟨k, k0, k1, rfl, hr, hk⟩
  have HR2 := Lib.hid hr
  have HK2 := Lib.hid (HK1.out.trans hk)
  clear hr hk
  obtain ⟨k, rfl⟩ := Int.eq_ofNat_of_zero_le k0
  by_cases hlt : k < N.size
  ·have h1 : (k : Int) < (N.size : Int) := by omega
   have h2 : (k : Int) + 1 ≤ (N.size : Int) := by omega
   have hz : (N.extract k (k + 1)).size = 1 := by simp [ByteArray.size_extract]; omega
   have HZ := Lib.hid hz
   clear hz
   go_wp2_with fail
   go_ret
   exact ⟨_, p + 1 + 1, Nat.le_of_eq HZ.out.symm, by rw [HZ.out]; omega, by omega, HNV.out k (by omega), rfl, HR2.out, HK2.out⟩
  ·have h1 : ¬ (k : Int) < (N.size : Int) := by omega
   go_wp2_with fail
   refine (pick_any 3 HR2.out (by omega) (by omega) (by omega)).mono ?_
   rintro e w3 ⟨j, j0, j1, rfl, hr, hk⟩
   have HR3 := Lib.hid hr
   have HK3 := Lib.hid (HK2.out.trans hk)
   have HD := Lib.hid (vdec_one j j0 j1 w3)
   clear hr hk
   go_wp2_with fail
   refine HD.out.mono ?_
   rintro e w4 ⟨s, hs, hv, rfl, hb⟩
   replace hv := hv.w
   have HV := Lib.hid hv
   clear hv
   have HR4 := Lib.hid (HR3.out.kept hb)
   have HK4 := Lib.hid (HK3.out.next hb)
   clear hb
   go_wp2_with fail
   go_ret
   exact ⟨s, p + 1 + 1 + 1, Nat.le_of_eq hs.symm, by omega, by omega, HV.out, rfl, HR4.out, HK4.out⟩
 ·have g0 : (k == 0) = false := by rw [beq_eq_false_iff_ne]; exact e0
  clear e0
  have hlt := HR.out.lt
  have hne : w1.heap.size ≠ a := by have := HK1.out.size; omega
  have HL := Lib.hid (Blk.new w1 #[.string (⟨#[43]⟩), .string (⟨#[45]⟩), .string (⟨#[42]⟩), .string (⟨#[43]⟩)] 9)
  have hax := (Below.refl _ w1).alloc (Nat.le_refl _) (.cells #[.string (⟨#[43]⟩), .string (⟨#[45]⟩), .string (⟨#[42]⟩), .string (⟨#[43]⟩)] 9)
  have HR1x := Lib.hid (HR1.out.kept hax)
  have HK1x := Lib.hid (HK1.out.next hax)
  clear hax
  have HQ : Hid (∀ i, i < 4 → ∃ s, (#[.string (⟨#[43]⟩), .string (⟨#[45]⟩), .string (⟨#[42]⟩), .string (⟨#[43]⟩)] : Array Value)[i]? = some (.string s) ∧ IsA s) := fun i hi => by
   have hi : i = 0 ∨ i = 1 ∨ i = 2 ∨ i = 3 := by omega
   rcases hi with rfl | rfl | rfl | rfl <;> exact ⟨_, rfl, by simp [IsA]⟩
  go_wp2_with fail
  refine (of_any 4 4 IsA HR1x.out (by omega) HL.out hne (by omega) (by omega) HQ.out).mono ?_
  rintro e w2 ⟨o, hoA, rfl, hr, hk⟩
  have HO := Lib.hid hoA
  have ho := hoA.size
  clear hoA
  have HR2 := Lib.hid hr
  have HK2 := Lib.hid (HK1x.out.trans hk)
  clear hr hk HL HQ
  have HC := Lib.hid (HI.out (p + 1 + 1) w2 (by omega) HR2.out)
  go_wp2_with fail
  refine HC.out.mono ?_
  rintro e w3 ⟨x, q, x1, x2, hq, hxv, rfl, hr, hk⟩
  have HX := Lib.hid hxv
  clear hxv
  have HR3 := Lib.hid hr
  have HK3 := Lib.hid (HK2.out.trans hk)
  clear hr hk HC
  have HC := Lib.hid (HI.out q w3 (by omega) HR3.out)
  go_wp2_with fail
  refine HC.out.mono ?_
  rintro e w4 ⟨y, q', y1, y2, hq', hyv, rfl, hr, hk⟩
  have HY := Lib.hid hyv
  clear hyv
  have HR4 := Lib.hid hr
  have HK4 := Lib.hid (HK3.out.trans hk)
  clear hr hk HC
  obtain ⟨n1, n2⟩ := szd (Nat.le_of_eq ho) x2 y2 hh
  have hs : (o ++ x ++ y).size = 1 + x.size + y.size := by simp [ByteArray.size_append, ho]
  have HS := Lib.hid hs
  clear hs
  go_wp2_with fail
  go_ret
  exact ⟨o ++ x ++ y, q', by rw [HS.out]; omega, by rw [HS.out]; omega, by omega, HO.out.binw HX.out HY.out, rfl, HR4.out, HK4.out⟩
theorem wE_1 {a p : Nat} (N : ByteArray) (hN : 1 ≤ N.size) (hN2 : N.size ≤ 6) (hNv : NmW N) {w : World} (hr : Rd a p w) (hp : p ≤ 800000) :
  Calls Tryz.prog 205 #[.pointer (some ⟨a, 0, none⟩), .int .i64 1, .string N] w (DrQ (IsXw false) a p 1 3 7 w) :=
 wE_succ N hN hN2 hNv 1 0 (by omega) rfl 1 2 (by omega) (by omega) hr (by omega) fun q w1 hq h => wE_zero N hN hN2 hNv 0 (by omega) h (by omega)
set_option maxRecDepth 100000 in
set_option maxHeartbeats 8000000 in
theorem wT_zero {a p : Nat} (N : ByteArray) (hN : 1 ≤ N.size) (hN2 : N.size ≤ 6) (hNv : NmW N) (d : Int) (hd : d ≤ 0) {w : World} (hr : Rd a p w) (hp : p ≤ 700000) :
  Calls Tryz.prog 151 #[.pointer (some ⟨a, 0, none⟩), .int .i64 d, .string N] w (DrQ (IsXw true) a p 1 7 17 w) := by
 have HR := Lib.hid hr
 have hlt := hr.lt
 have HNV := Lib.hid hNv
 clear hr hNv
 have C := Lib.hid (pick_any 8 HR.out (by omega) (by omega) (by omega))
 go_enter Tryz.func151, Tryz.ntmps151
 go_wp2_with fail
 refine C.out.mono ?_
 rintro e w1 ⟨k, k0, k1, rfl, hr, hk⟩
 have HR1 := Lib.hid hr
 have HK1 := Lib.hid hk
 clear hr hk C
 go_wp2_with fail
 refine (pick_any 10 HR1.out (by omega) (by omega) (by omega)).mono ?_
 rintro e w2 ⟨j, j0, j1, rfl, hr, hk⟩
 have HR2 := Lib.hid hr
 have HK2 := Lib.hid (HK1.out.trans hk)
 clear hr hk
 by_cases e0 : j = 0
 ·subst e0
  have hneL : w2.heap.size ≠ a := by have := HK2.out.size; omega
  have HL := Lib.hid (Blk.new w2 #[.string (⟨#[116]⟩), .string (⟨#[102]⟩)] 9)
  have hax := (Below.refl _ w2).alloc (Nat.le_refl _) (.cells #[.string (⟨#[116]⟩), .string (⟨#[102]⟩)] 9)
  have HRx := Lib.hid (HR2.out.kept hax)
  have HKx := Lib.hid (HK2.out.next hax)
  clear hax
  have HQ : Hid (∀ i, i < 2 → ∃ s, (#[.string (⟨#[116]⟩), .string (⟨#[102]⟩)] : Array Value)[i]? = some (.string s) ∧ IsTF s) := fun i hi => by
   have hi : i = 0 ∨ i = 1 := by omega
   rcases hi with rfl | rfl <;> exact ⟨_, rfl, by simp [IsTF]⟩
  go_wp2_with fail
  refine (of_any 2 2 IsTF HRx.out (by omega) HL.out hneL (by omega) (by omega) HQ.out).mono ?_
  rintro e w3 ⟨o, hoA, rfl, hr, hk⟩
  have HOV := Lib.hid hoA
  have ho := hoA.size
  clear hoA
  have HR3 := Lib.hid hr
  have HK3 := Lib.hid (HKx.out.trans hk)
  clear hr hk HL HQ HRx HKx
  have HO := Lib.hid ho
  go_wp2_with fail
  go_ret
  exact ⟨o, p + 1 + 1 + 1, by rw [HO.out]; omega, by rw [HO.out]; omega, by omega, HOV.out.ok.w, rfl, HR3.out, HK3.out⟩
 ·have g0 : (j == 0) = false := by rw [beq_eq_false_iff_ne]; exact e0
  clear e0
  have hneL : w2.heap.size ≠ a := by have := HK2.out.size; omega
  have HL := Lib.hid (Blk.new w2 #[.string (⟨#[61]⟩), .string (⟨#[60]⟩)] 9)
  have hax := (Below.refl _ w2).alloc (Nat.le_refl _) (.cells #[.string (⟨#[61]⟩), .string (⟨#[60]⟩)] 9)
  have HRx := Lib.hid (HR2.out.kept hax)
  have HKx := Lib.hid (HK2.out.next hax)
  clear hax
  have HQ : Hid (∀ i, i < 2 → ∃ s, (#[.string (⟨#[61]⟩), .string (⟨#[60]⟩)] : Array Value)[i]? = some (.string s) ∧ IsCm s) := fun i hi => by
   have hi : i = 0 ∨ i = 1 := by omega
   rcases hi with rfl | rfl <;> exact ⟨_, rfl, by simp [IsCm]⟩
  go_wp2_with fail
  refine (of_any 2 2 IsCm HRx.out (by omega) HL.out hneL (by omega) (by omega) HQ.out).mono ?_
  rintro e w3 ⟨o, hoA, rfl, hr, hk⟩
  have HOV := Lib.hid hoA
  have ho := hoA.size
  clear hoA
  have HR3 := Lib.hid hr
  have HK3 := Lib.hid (HKx.out.trans hk)
  clear hr hk HL HQ HRx HKx
  have HC := Lib.hid (wE_1 N hN hN2 HNV.out HR3.out (by omega))
  go_wp2_with fail
  refine HC.out.mono ?_
  rintro e w4 ⟨x, q, x1, x2, hq, hvv, rfl, hr, hk⟩
  have HX := Lib.hid hvv
  clear hvv
  have HR4 := Lib.hid hr
  have HK4 := Lib.hid (HK3.out.trans hk)
  clear hr hk HC
  have HC := Lib.hid (wE_1 N hN hN2 HNV.out HR4.out (by omega))
  go_wp2_with fail
  refine HC.out.mono ?_
  rintro e w5 ⟨y, q', y1, y2, hq', hvv, rfl, hr, hk⟩
  have HY := Lib.hid hvv
  clear hvv
  have HR5 := Lib.hid hr
  have HK5 := Lib.hid (HK4.out.trans hk)
  clear hr hk HC
  obtain ⟨n1, n2⟩ := szd (Nat.le_of_eq ho) x2 y2 (by omega)
  have hs : (o ++ x ++ y).size = 1 + x.size + y.size := by simp [ByteArray.size_append, ho]
  have HS := Lib.hid hs
  clear hs
  go_wp2_with fail
  go_ret
  exact ⟨o ++ x ++ y, q', by rw [HS.out]; omega, by rw [HS.out]; omega, by omega, HOV.out.binw HX.out HY.out, rfl, HR5.out, HK5.out⟩
set_option maxRecDepth 100000 in
set_option maxHeartbeats 8000000 in
theorem wT_succ {a p : Nat} (N : ByteArray) (hN : 1 ≤ N.size) (hN2 : N.size ≤ 6) (hNv : NmW N) (d m : Int) (hd : ¬ d ≤ 0) (hm : IntKind.i64.wrap (d - 1) = m) (hi c : Nat) (hh : hi ≤ 100000) (h7 : 7 ≤ hi) (h17 : 17 ≤ c) {w : World} (hr : Rd a p w) (hp : p + (2 * c + 2) ≤ 700000)
  (IH : ∀ (q : Nat) (w1 : World), q ≤ p + (c + 2) → Rd a q w1 → Calls Tryz.prog 151 #[.pointer (some ⟨a, 0, none⟩), .int .i64 m, .string N] w1 (DrQ (IsXw true) a q 1 hi c w1)) :
  Calls Tryz.prog 151 #[.pointer (some ⟨a, 0, none⟩), .int .i64 d, .string N] w (DrQ (IsXw true) a p 1 (2 * hi + 1) (2 * c + 2) w) := by
 have HR := Lib.hid hr
 have hlt := hr.lt
 have HI := Lib.hid IH
 have HNV := Lib.hid hNv
 clear hr IH hNv
 have C := Lib.hid (pick_any 8 HR.out (by omega) (by omega) (by omega))
 go_enter Tryz.func151, Tryz.ntmps151
 go_wp2_with fail
 refine C.out.mono ?_
 rintro e w1 ⟨k, k0, k1, rfl, hr, hk⟩
 have HR1 := Lib.hid hr
 have HK1 := Lib.hid hk
 clear hr hk C
 by_cases h4 : k < 4
 ·go_wp2_with fail
  refine (pick_any 10 HR1.out (by omega) (by omega) (by omega)).mono ?_
  rintro e w2 ⟨j, j0, j1, rfl, hr, hk⟩
  have HR2 := Lib.hid hr
  have HK2 := Lib.hid (HK1.out.trans hk)
  clear hr hk
  by_cases e0 : j = 0
  ·subst e0
   have hneL : w2.heap.size ≠ a := by have := HK2.out.size; omega
   have HL := Lib.hid (Blk.new w2 #[.string (⟨#[116]⟩), .string (⟨#[102]⟩)] 9)
   have hax := (Below.refl _ w2).alloc (Nat.le_refl _) (.cells #[.string (⟨#[116]⟩), .string (⟨#[102]⟩)] 9)
   have HRx := Lib.hid (HR2.out.kept hax)
   have HKx := Lib.hid (HK2.out.next hax)
   clear hax
   have HQ : Hid (∀ i, i < 2 → ∃ s, (#[.string (⟨#[116]⟩), .string (⟨#[102]⟩)] : Array Value)[i]? = some (.string s) ∧ IsTF s) := fun i hi => by
    have hi : i = 0 ∨ i = 1 := by omega
    rcases hi with rfl | rfl <;> exact ⟨_, rfl, by simp [IsTF]⟩
   go_wp2_with fail
   refine (of_any 2 2 IsTF HRx.out (by omega) HL.out hneL (by omega) (by omega) HQ.out).mono ?_
   rintro e w3 ⟨o, hoA, rfl, hr, hk⟩
   have HOV := Lib.hid hoA
   have ho := hoA.size
   clear hoA
   have HR3 := Lib.hid hr
   have HK3 := Lib.hid (HKx.out.trans hk)
   clear hr hk HL HQ HRx HKx
   have HO := Lib.hid ho
   go_wp2_with fail
   go_ret
   exact ⟨o, p + 1 + 1 + 1, by rw [HO.out]; omega, by rw [HO.out]; omega, by omega, HOV.out.ok.w, rfl, HR3.out, HK3.out⟩
  ·have g0 : (j == 0) = false := by rw [beq_eq_false_iff_ne]; exact e0
   clear e0
   have hneL : w2.heap.size ≠ a := by have := HK2.out.size; omega
   have HL := Lib.hid (Blk.new w2 #[.string (⟨#[61]⟩), .string (⟨#[60]⟩)] 9)
   have hax := (Below.refl _ w2).alloc (Nat.le_refl _) (.cells #[.string (⟨#[61]⟩), .string (⟨#[60]⟩)] 9)
   have HRx := Lib.hid (HR2.out.kept hax)
   have HKx := Lib.hid (HK2.out.next hax)
   clear hax
   have HQ : Hid (∀ i, i < 2 → ∃ s, (#[.string (⟨#[61]⟩), .string (⟨#[60]⟩)] : Array Value)[i]? = some (.string s) ∧ IsCm s) := fun i hi => by
    have hi : i = 0 ∨ i = 1 := by omega
    rcases hi with rfl | rfl <;> exact ⟨_, rfl, by simp [IsCm]⟩
   go_wp2_with fail
   refine (of_any 2 2 IsCm HRx.out (by omega) HL.out hneL (by omega) (by omega) HQ.out).mono ?_
   rintro e w3 ⟨o, hoA, rfl, hr, hk⟩
   have HOV := Lib.hid hoA
   have ho := hoA.size
   clear hoA
   have HR3 := Lib.hid hr
   have HK3 := Lib.hid (HKx.out.trans hk)
   clear hr hk HL HQ HRx HKx
   have HC := Lib.hid (wE_1 N hN hN2 HNV.out HR3.out (by omega))
   go_wp2_with fail
   refine HC.out.mono ?_
   rintro e w4 ⟨x, q, x1, x2, hq, hvv, rfl, hr, hk⟩
   have HX := Lib.hid hvv
   clear hvv
   have HR4 := Lib.hid hr
   have HK4 := Lib.hid (HK3.out.trans hk)
   clear hr hk HC
   have HC := Lib.hid (wE_1 N hN hN2 HNV.out HR4.out (by omega))
   go_wp2_with fail
   refine HC.out.mono ?_
   rintro e w5 ⟨y, q', y1, y2, hq', hvv, rfl, hr, hk⟩
   have HY := Lib.hid hvv
   clear hvv
   have HR5 := Lib.hid hr
   have HK5 := Lib.hid (HK4.out.trans hk)
   clear hr hk HC
   obtain ⟨n1, n2⟩ := szd (Nat.le_of_eq ho) x2 y2 (by omega)
   have hs : (o ++ x ++ y).size = 1 + x.size + y.size := by simp [ByteArray.size_append, ho]
   have HS := Lib.hid hs
   clear hs
   go_wp2_with fail
   go_ret
   exact ⟨o ++ x ++ y, q', by rw [HS.out]; omega, by rw [HS.out]; omega, by omega, HOV.out.binw HX.out HY.out, rfl, HR5.out, HK5.out⟩
 ·by_cases h5 : k < 5
  ·have HC := Lib.hid (HI.out (p + 1) w1 (by omega) HR1.out)
   go_wp2_with fail
   refine HC.out.mono ?_
   rintro e w2 ⟨x, q, x1, x2, hq, hvv, rfl, hr, hk⟩
   have HX := Lib.hid hvv
   clear hvv
   have HR2 := Lib.hid hr
   have HK2 := Lib.hid (HK1.out.trans hk)
   clear hr hk HC
   obtain ⟨n1, n2⟩ := szd (x := 1) (z := x.size) (Nat.le_refl _) x2 x2 hh
   go_wp2_with fail
   go_ret
   exact ⟨_, q, by rw [ByteArray.size_append]; omega, by rw [ByteArray.size_append, show ByteArray.size ⟨#[33]⟩ = 1 from rfl]; omega, by omega, isXw_not HX.out, rfl, HR2.out, HK2.out⟩
  ·have hneL : w1.heap.size ≠ a := by have := HK1.out.size; omega
   have HL := Lib.hid (Blk.new w1 #[.string (⟨#[38]⟩), .string (⟨#[124]⟩)] 9)
   have hax := (Below.refl _ w1).alloc (Nat.le_refl _) (.cells #[.string (⟨#[38]⟩), .string (⟨#[124]⟩)] 9)
   have HRx := Lib.hid (HR1.out.kept hax)
   have HKx := Lib.hid (HK1.out.next hax)
   clear hax
   have HQ : Hid (∀ i, i < 2 → ∃ s, (#[.string (⟨#[38]⟩), .string (⟨#[124]⟩)] : Array Value)[i]? = some (.string s) ∧ IsJ s) := fun i hi => by
    have hi : i = 0 ∨ i = 1 := by omega
    rcases hi with rfl | rfl <;> exact ⟨_, rfl, by simp [IsJ]⟩
   go_wp2_with fail
   refine (of_any 2 2 IsJ HRx.out (by omega) HL.out hneL (by omega) (by omega) HQ.out).mono ?_
   rintro e w3 ⟨o, hoA, rfl, hr, hk⟩
   have HOV := Lib.hid hoA
   have ho := hoA.size
   clear hoA
   have HR3 := Lib.hid hr
   have HK3 := Lib.hid (HKx.out.trans hk)
   clear hr hk HL HQ HRx HKx
   have HC := Lib.hid (HI.out (p + 1 + 1) w3 (by omega) HR3.out)
   go_wp2_with fail
   refine HC.out.mono ?_
   rintro e w4 ⟨x, q, x1, x2, hq, hvv, rfl, hr, hk⟩
   have HX := Lib.hid hvv
   clear hvv
   have HR4 := Lib.hid hr
   have HK4 := Lib.hid (HK3.out.trans hk)
   clear hr hk HC
   have HC := Lib.hid (HI.out q w4 (by omega) HR4.out)
   go_wp2_with fail
   refine HC.out.mono ?_
   rintro e w5 ⟨y, q', y1, y2, hq', hvv, rfl, hr, hk⟩
   have HY := Lib.hid hvv
   clear hvv
   have HR5 := Lib.hid hr
   have HK5 := Lib.hid (HK4.out.trans hk)
   clear hr hk HC
   obtain ⟨n1, n2⟩ := szd (Nat.le_of_eq ho) x2 y2 hh
   have hs : (o ++ x ++ y).size = 1 + x.size + y.size := by simp [ByteArray.size_append, ho]
   have HS := Lib.hid hs
   clear hs
   go_wp2_with fail
   go_ret
   exact ⟨o ++ x ++ y, q', by rw [HS.out]; omega, by rw [HS.out]; omega, by omega, HOV.out.binw HX.out HY.out, rfl, HR5.out, HK5.out⟩
theorem wT_1 {a p : Nat} (N : ByteArray) (hN : 1 ≤ N.size) (hN2 : N.size ≤ 6) (hNv : NmW N) {w : World} (hr : Rd a p w) (hp : p ≤ 600000) :
  Calls Tryz.prog 151 #[.pointer (some ⟨a, 0, none⟩), .int .i64 1, .string N] w (DrQ (IsXw true) a p 1 15 36 w) :=
 wT_succ N hN hN2 hNv 1 0 (by omega) rfl 7 17 (by omega) (by omega) (by omega) hr (by omega) fun q w1 hq h => wT_zero N hN hN2 hNv 0 (by omega) h (by omega)
theorem wT_2 {a p : Nat} (N : ByteArray) (hN : 1 ≤ N.size) (hN2 : N.size ≤ 6) (hNv : NmW N) {w : World} (hr : Rd a p w) (hp : p ≤ 500000) :
  Calls Tryz.prog 151 #[.pointer (some ⟨a, 0, none⟩), .int .i64 2, .string N] w (DrQ (IsXw true) a p 1 31 74 w) :=
 wT_succ N hN hN2 hNv 2 1 (by omega) rfl 15 36 (by omega) (by omega) (by omega) hr (by omega) fun q w1 hq h => wT_1 N hN hN2 hNv h (by omega)
theorem varB_three {v : UInt8} (h : isVarB false v = true) : v = 120 ∨ v = 121 ∨ v = 122 := by
 simpa [isVarB, or_assoc] using h
theorem dn (m : Nat) : (m = 0 ∧ Value.int .i64 ((m : Int) - 1) = .int .i64 (-1)) ∨ ∃ n : Nat, m = n + 1 ∧ Value.int .i64 ((m : Int) - 1) = .int .i64 n := by
 cases m with
 | zero => exact .inl ⟨rfl, rfl⟩
 | succ n => exact .inr ⟨n, rfl, by congr 1; omega⟩
def IsTwo (c d : UInt8) : Prop := (c = 120 ∧ d = 88) ∨ (c = 121 ∧ d = 89) ∨ (c = 122 ∧ d = 90)
theorem isXw_agree {c d : UInt8} (h : IsTwo c d) {s : ByteArray} (hs : IsXw true s) : IsXw true ((((⟨#[38, 61]⟩ : ByteArray) ++ ⟨#[c]⟩) ++ ⟨#[d]⟩) ++ s) := by
 obtain ⟨t, ht, et⟩ := hs
 refine ⟨.bin 38 (.bin 61 (.leaf c) (.leaf d)) t, ⟨true, true, rfl, ⟨false, false, rfl, ?_, ?_⟩, ht⟩, by simp [ByteArray.data_append, et, Tm.ser]⟩
 ·rcases h with ⟨rfl, rfl⟩ | ⟨rfl, rfl⟩ | ⟨rfl, rfl⟩ <;> rfl
 ·rcases h with ⟨rfl, rfl⟩ | ⟨rfl, rfl⟩ | ⟨rfl, rfl⟩ <;> rfl
theorem isXw_t : IsXw true ⟨#[116]⟩ := ⟨.leaf 116, rfl, rfl⟩
theorem sz6 {n s m : Nat} (hm : m + 1 ≤ n) (hs : s ≤ 100) : (min (m + 1) n - m = 1) ∧ (¬ 9223372036854775807 < 2 + (min (m + 1) n - m)) ∧ (¬ 9223372036854775807 < 2 + (min (m + 1) n - m) + 1) ∧ (¬ 9223372036854775807 < 2 + (min (m + 1) n - m) + 1 + s) ∧ (¬ 9223372036854775807 < 2 + 1) ∧ (¬ 9223372036854775807 < 2 + 1 + 1) ∧ (¬ 9223372036854775807 < 2 + 1 + 1 + s) := by omega
set_option maxRecDepth 100000 in
set_option maxHeartbeats 4000000 in
theorem agree6 (N : ByteArray) (hN : N.size ≤ 3) (hv : NmV N) (w : World) : Calls Tryz.prog 138 #[.string N] w fun e w' => ∃ s : ByteArray, s.size = 1 + 4 * N.size ∧ IsXw true s ∧ e = .returned (.string s) ∧ Below w.heap.size w w' := by
 have HV := Lib.hid hv
 have ew : IntKind.i64.wrap ((N.size : Int) - 1) = (N.size : Int) - 1 := IntWalk.i64_in _ (by omega)
 clear hv
 have HB0 := Lib.hid (Below.refl w.heap.size w)
 go_enter Tryz.func138, Tryz.ntmps138
 go_wp2_with fail
 go_loopw [3, 4, 5] (fun o i _ wr => ∃ (k : Nat) (s : ByteArray), k ≤ N.size ∧ ((k = 0 ∧ i = .int .i64 (-1)) ∨ ∃ m : Nat, k = m + 1 ∧ i = .int .i64 m) ∧ o = .string s ∧ s.size + 4 * k = 1 + 4 * N.size ∧ Hid (IsXw true s) ∧ Hid (Below w.heap.size w wr)) (fun _ i _ _ => (intOf i + 1).toNat)
 case atStart => exact ⟨N.size, ⟨#[116]⟩, Nat.le_refl _, dn _, rfl, rfl, isXw_t, HB0⟩
 case round =>
  clear HB0
  obtain ⟨k, s, hk, hi, rfl, hs, HX, HB⟩ := hrel
  rcases hi with ⟨h0, rfl⟩ | ⟨m, rfl, rfl⟩
  ·go_wp2_with fail
   go_ret
   exact ⟨s, by omega, HX.out, rfl, HB.out⟩
  ·obtain ⟨c, hc, ec⟩ := HV.out m hk
   have ex : ∃ (j : Nat) (d : UInt8), IsTwo c d ∧ j ≤ 2 ∧ (⟨#[88, 89, 90]⟩ : ByteArray).extract j (j + 1) = ⟨#[d]⟩ ∧ ((c = 120 ∧ j = 0) ∨ (c = 121 ∧ j = 1) ∨ (c = 122 ∧ j = 2)) := by
    rcases varB_three hc with rfl | rfl | rfl
    ·exact ⟨0, 88, by simp [IsTwo], by omega, by decide +kernel, by simp⟩
    ·exact ⟨1, 89, by simp [IsTwo], by omega, by decide +kernel, by simp⟩
    ·exact ⟨2, 90, by simp [IsTwo], by omega, by decide +kernel, by simp⟩
   obtain ⟨j, d, h2, hj, ed, hcj⟩ := ex
   have C := fun w => Lib.hid (specVar_yes c j w hcj)
   rw [← ec] at C
   have EC := Lib.hid ec
   have ED := Lib.hid ed
   have H2 := Lib.hid h2
   have hm2 : (m : Int) + 1 ≤ (N.size : Int) := by omega
   have ew2 : IntKind.i64.wrap ((m : Int) + 1) = (m : Int) + 1 := IntWalk.i64_in _ (by omega)
   have ew3 : IntKind.i64.wrap ((m : Int) - 1) = (m : Int) - 1 := IntWalk.i64_in _ (by omega)
   have ew4 : IntKind.i64.wrap ((j : Int) + 1) = (j : Int) + 1 := IntWalk.i64_in _ (by omega)
   have hj3 : (j : Int) + 1 ≤ 3 := by omega
   obtain ⟨z0, z1, z2, z3, z4, z5, z6⟩ := sz6 hk (show s.size ≤ 100 by omega)
   clear ec ed h2 hcj hc
   go_wp2_with fail
   refine (C _).out.mono ?_
   rintro e w2 ⟨rfl, rfl⟩
   go_wp2_with fail
   go_quiet (fail)
   go_wp2_with fail
   refine ⟨⟨m, _, by omega, dn m, rfl, ?_, ?_, Lib.hid (bdrewN HB.out nq)⟩, by simp [intOf] <;> omega⟩
   ·rw [EC.out, ED.out]; simp only [ByteArray.size_append]; show 2 + 1 + 1 + s.size + _ = _; omega
   ·rw [EC.out, ED.out]; exact isXw_agree H2.out HX.out
end Go.Proofs.YtgkoljphndgoeaaGreatDoor
namespace Go.Proofs.YtgkoljphndgoeaaGreatDoor
open Go.RowKit Go.Great
theorem relT_size (T : Nat → Nat → Bool) : (bs (relT T)).size = 729 := (rel729_bs T).size
theorem field_T0 (g : Nat → Value) (a b : Value) (w : World) : (Instr.field 85 (.agg ((List.range 27).map g ++ [a, b]).toArray) 0).run Tryz.prog w = .ok (.agg ((List.range 27).map g).toArray) w := by kernel_rfl
theorem field_T (t : Nat → Nat → Bool) (l k : Nat → Bool) (w : World) : (Instr.field 85 (.agg (allC t l k)) 0).run Tryz.prog w = .ok (.agg (relC .i64 t)) w := field_T0 _ _ _ w
theorem bs_of6 {s : ByteArray} {p : Pg} (h : s.data.toList = p.ser) : s = bs p.ser := by
 rw [← h]; exact ByteArray.ext (by simp [bs])
theorem ser_2006 {s : ByteArray} {p : Pg} (h : s.data.toList = p.ser) (hl : s.size ≤ 200) : p.ser.length ≤ 200 := by
 rw [← h]; simpa using hl
theorem IsRow.kept6 {w w' : World} {a : Option Addr} {len cap : Nat} {zs : List Int} (h : IsRow w a len cap zs) (hb : Below w.heap.size w w') : IsRow w' a len cap zs := by
 rcases h with h | ⟨x, rfl, hl, hm, hz, hc, hw⟩
 ·exact .inl h
 ·exact .inr ⟨x, rfl, hl, hm, hz, fun i hi => by
   have h1 := hc i hi
   have hlt := World.block_lt_of_cell? w _ h1
   exact (hb.cell hlt).trans h1, hw⟩
def SixV (s : ByteArray) : Prop := s.size ≤ 3 ∧ NmV s
theorem sixV_of (l : List UInt8) (h : l.length ≤ 3) (h2 : ∀ c ∈ l, isVarB false c = true) : SixV (bs l) := by
 refine ⟨by rw [bs_size]; exact h, fun k hk => ?_⟩
 rw [bs_size] at hk
 refine ⟨l[k]'(by omega), h2 _ (List.getElem_mem _), ?_⟩
 apply ByteArray.ext
 apply Array.toList_inj.1
 have hl : (l.drop k).take 1 = [l[k]'(by omega)] := by
  rw [List.drop_eq_getElem_cons (by omega)]; rfl
 simpa [bs, ByteArray.data_extract] using hl
set_option maxRecDepth 100000 in
set_option maxHeartbeats 8000000 in
theorem some6 {a p : Nat} {w : World} (hr : Rd a p w) (hp : p ≤ 300000) :
  Calls Tryz.prog 153 #[.pointer (some ⟨a, 0, none⟩)] w (DrQ Rel729 a p 729 729 160 w) := by
 have HR := Lib.hid hr
 have hlt := hr.lt
 clear hr
 have C := Lib.hid (pick_any 6 HR.out (by omega) (by omega) (by omega))
 go_enter Tryz.func153, Tryz.ntmps153
 go_wp2_with fail
 refine C.out.mono ?_
 rintro e w1 ⟨k, k0, k1, rfl, hr, hk⟩
 have HR1 := Lib.hid hr
 have HK1 := Lib.hid hk
 clear hr hk C
 by_cases e0 : k = 0
 ·subst e0
  have HC := Lib.hid (vP_2 ⟨#[120, 121, 122]⟩ (by decide) (by decide) nmv_xyz false HR1.out (by omega))
  go_wp2_with fail
  refine HC.out.mono ?_
  rintro e w2 ⟨t, q, t1, t2, hq, hv, rfl, hr, hk⟩
  obtain ⟨p0, hp0, ep⟩ := hv
  have HR2 := Lib.hid hr
  have HK2 := Lib.hid (HK1.out.trans hk)
  have CR : ∀ w, Hid (Calls Tryz.prog 84 #[.string t] w (AllPost (rT p0) (rL p0) (rK p0) w)) := fun w => by
   have := run_any p0 hp0 (ser_2006 ep (by omega)) w
   rw [← bs_of6 ep] at this
   exact this
  have fT := field_T (rT p0) (rL p0) (rK p0)
  clear hr hk HC hp0 ep
  go_wp2_with fail
  refine (CR _).out.mono ?_
  rintro e w3 ⟨rfl, hb⟩
  have HR3 := Lib.hid (HR2.out.kept hb)
  have HK3 := Lib.hid (HK2.out.next hb)
  clear hb
  go_wp2_with fail
  refine (specRText (rT p0) _).mono ?_
  rintro e w4 ⟨rfl, hb⟩
  have HR4 := Lib.hid (HR3.out.kept hb)
  have HK4 := Lib.hid (HK3.out.next hb)
  clear hb
  have HS := Lib.hid (rel729_bs (rT p0))
  have HZ := Lib.hid (relT_size (rT p0))
  generalize bs (relT (rT p0)) = r at *
  go_wp2_with fail
  go_ret
  exact ⟨_, q, Nat.le_of_eq HZ.out.symm, Nat.le_of_eq HZ.out, by omega, HS.out, rfl, HR4.out, HK4.out⟩
 have g0 : (k == 0) = false := by rw [beq_eq_false_iff_ne]; exact e0
 clear e0
 by_cases e1 : k = 1
 ·subst e1
  have hneL : w1.heap.size ≠ a := by have := HK1.out.size; omega
  have HL := Lib.hid (Blk.new w1 #[.string (⟨#[120]⟩), .string (⟨#[120, 121]⟩), .string (⟨#[122]⟩), .string (⟨#[]⟩), .string (⟨#[120, 121, 122]⟩), .string (⟨#[121, 122]⟩)] 9)
  have hax := (Below.refl _ w1).alloc (Nat.le_refl _) (.cells #[.string (⟨#[120]⟩), .string (⟨#[120, 121]⟩), .string (⟨#[122]⟩), .string (⟨#[]⟩), .string (⟨#[120, 121, 122]⟩), .string (⟨#[121, 122]⟩)] 9)
  have HRx := Lib.hid (HR1.out.kept hax)
  have HKx := Lib.hid (HK1.out.next hax)
  clear hax
  have HQ : Hid (∀ i, i < 6 → ∃ s, (#[.string (⟨#[120]⟩), .string (⟨#[120, 121]⟩), .string (⟨#[122]⟩), .string (⟨#[]⟩), .string (⟨#[120, 121, 122]⟩), .string (⟨#[121, 122]⟩)] : Array Value)[i]? = some (.string s) ∧ SixV s) := fun i hi => by
   have hi : i = 0 ∨ i = 1 ∨ i = 2 ∨ i = 3 ∨ i = 4 ∨ i = 5 := by omega
   rcases hi with rfl | rfl | rfl | rfl | rfl | rfl
   ·exact ⟨_, rfl, sixV_of [120] (by decide) (by decide)⟩
   ·exact ⟨_, rfl, sixV_of [120, 121] (by decide) (by decide)⟩
   ·exact ⟨_, rfl, sixV_of [122] (by decide) (by decide)⟩
   ·exact ⟨_, rfl, sixV_of [] (by decide) (by decide)⟩
   ·exact ⟨_, rfl, sixV_of [120, 121, 122] (by decide) (by decide)⟩
   ·exact ⟨_, rfl, sixV_of [121, 122] (by decide) (by decide)⟩
  go_wp2_with fail
  refine (of_any 6 6 SixV HRx.out (by omega) HL.out hneL (by omega) (by omega) HQ.out).mono ?_
  rintro e w2 ⟨o, hoA, rfl, hr, hk⟩
  have HC := fun w => Lib.hid (agree6 o hoA.1 hoA.2 w)
  have ho3 := hoA.1
  have HR2 := Lib.hid hr
  have HK2 := Lib.hid (HKx.out.trans hk)
  clear hr hk HL HQ HRx HKx hoA
  go_wp2_with fail
  refine (HC _).out.mono ?_
  rintro e w3 ⟨s, hs, hx, rfl, hb⟩
  obtain ⟨t, ht, et⟩ := hx
  have HR3 := Lib.hid (HR2.out.kept hb)
  have HK3 := Lib.hid (HK2.out.next hb)
  have HO := fun w => Lib.hid (specOf6 s t w ht et (by omega))
  clear hb HC ht et
  go_wp2_with fail
  refine (HO _).out.mono ?_
  rintro e w4 ⟨rfl, hb⟩
  have HR4 := Lib.hid (HR3.out.kept hb)
  have HK4 := Lib.hid (HK3.out.next hb)
  clear hb
  go_wp2_with fail
  refine (specRText (wdR t) _).mono ?_
  rintro e w5 ⟨rfl, hb⟩
  have HR5 := Lib.hid (HR4.out.kept hb)
  have HK5 := Lib.hid (HK4.out.next hb)
  clear hb
  have HS := Lib.hid (rel729_bs (wdR t))
  have HZ := Lib.hid (relT_size (wdR t))
  generalize bs (relT (wdR t)) = r at *
  go_wp2_with fail
  go_ret
  exact ⟨_, p + 1 + 1, Nat.le_of_eq HZ.out.symm, Nat.le_of_eq HZ.out, by omega, HS.out, rfl, HR5.out, HK5.out⟩
 have g1 : (k == 1) = false := by rw [beq_eq_false_iff_ne]; exact e1
 clear e1
 by_cases e2 : k = 2
 ·subst e2
  obtain ⟨k0', kb, kz⟩ := one_blk w1 (relC .i64 noR) 83
  have HT0 := Lib.hid (k0'.row (relC .i64 noR))
  have L1 := Lib.hid k0'
  have kb2 := Below.setRow kb (g := w1.heap.size) (Nat.le_refl _) (relC .i64 noR)
  have HR2 := Lib.hid (HR1.out.kept kb2)
  have HK2 := Lib.hid (HK1.out.next kb2)
  have hne : w1.heap.size ≠ a := by have := HR1.out.lt; omega
  clear k0' kb kz kb2
  go_wp2_with (first
   | (refine m_alloc rfl rfl _ rfl w1.heap.size rfl ?_)
   | (refine wpList_buildTo rfl 83 _ rfl _ rfl (relC .i64 noR) (by kernel_rfl) ?_)
   | (refine wpList_store_row rfl 83 _ _ rfl w1.heap.size (relC .i64 noR) (by rfl) (by rfl) 83 (relC .i64 noR) L1.out (infoM _) (by first | rw [relC_size, relC_size] | rw [relC_size]) (relC_one _ _) ?_))
  clear L1
  generalize (w1.alloc (.cells (relC .i64 noR) 83)).setRow w1.heap.size (relC .i64 noR) = w0 at *
  go_loopw [4] (fun i wr => ∃ (k q : Nat) (T : Nat → Nat → Bool), k ≤ 27 ∧ i = .int .i64 k ∧ q ≤ p + 1 + k ∧ Hid (Rd a q wr) ∧ Hid (Kp a w wr) ∧ Hid (Blk wr w1.heap.size (relC .i64 T) 83)) (fun i _ => 27 - (intOf i).toNat)
  case atStart => exact ⟨0, p + 1, noR, by omega, rfl, by omega, HR2, HK2, HT0⟩
  case round =>
   clear HT0 HR2 HK2
   obtain ⟨k, q, T, hk, rfl, hq, HRk, HKk, HTk⟩ := hrel
   by_cases hlt2 : k < 27
   ·have HC := Lib.hid (pick_any 27 HRk.out (by omega) (by omega) (by omega))
    go_wp2_with fail
    refine HC.out.mono ?_
    rintro e w2 ⟨b, b0, b1, rfl, hr, hk⟩
    obtain ⟨j, rfl⟩ := Int.eq_ofNat_of_zero_le b0
    have HR3 := Lib.hid hr
    have HK3 := Lib.hid (HKk.out.trans hk)
    have HT3 : Hid (Blk w2 w1.heap.size (relC .i64 T) 83) := Blk.kp HTk.out hk hne
    have HB2 := Lib.hid HK1.out.size
    clear hr hk HC
    have hc := mrel_cell HT3.out hlt2
    have hf := HT3.out.free k
    have hgt : a + 1 ≤ w1.heap.size := by have := HR1.out.lt; omega
    have HP := HT3.out.set k (.int .i64 (nb 27 (fun i => i == j)))
    rw [relC_set hlt2] at HP
    have HP2 := Lib.hid HP
    have ew := Lib.hid (wrap_bit (k := j) (by omega))
    clear HP
    go_wp2_with fail
    rw [ew.out]
    exact ⟨⟨k + 1, q + 1, setR T k (fun i => i == j), by omega, by go_num, by omega, HR3.out.keepB (Below.setCell (Below.refl (a + 1) _) (p := ⟨w1.heap.size, k, none⟩) hgt _) (by omega), HK3.out.setNew (q := ⟨w1.heap.size, k, none⟩) HB2.out _, HP2⟩, by simp [intOf]; omega⟩
   ·have hk3 : k = 27 := by omega
    subst hk3
    go_wp2_with (refine wpList_load_row rfl 83 _ rfl w1.heap.size (by rfl) 83 (relC .i64 T) (0, 0) _ HTk.out undM rfl (infoM _) ?_)
    refine (specRText T _).mono ?_
    rintro e w4 ⟨rfl, hb⟩
    have HR4 := Lib.hid (HRk.out.kept hb)
    have HK4 := Lib.hid (HKk.out.next hb)
    clear hb
    have HS := Lib.hid (rel729_bs T)
    have HZ := Lib.hid (relT_size T)
    generalize bs (relT T) = r at *
    go_wp2_with fail
    go_ret
    exact ⟨_, q, Nat.le_of_eq HZ.out.symm, Nat.le_of_eq HZ.out, by omega, HS.out, rfl, HR4.out, HK4.out⟩
 have g2 : (k == 2) = false := by rw [beq_eq_false_iff_ne]; exact e2
 clear e2
 have HC := Lib.hid (wT_2 ⟨#[120, 121, 122, 88, 89, 90]⟩ (by decide) (by decide) nmw_six HR1.out (by omega))
 go_wp2_with fail
 refine HC.out.mono ?_
 rintro e w2 ⟨s, q, s1, s2, hq, hv, rfl, hr, hk⟩
 obtain ⟨t, ht, et⟩ := hv
 have HR2 := Lib.hid hr
 have HK2 := Lib.hid (HK1.out.trans hk)
 have HO := fun w => Lib.hid (specOf6 s t w ht et (by omega))
 clear hr hk HC ht et
 go_wp2_with fail
 refine (HO _).out.mono ?_
 rintro e w4 ⟨rfl, hb⟩
 have HR4 := Lib.hid (HR2.out.kept hb)
 have HK4 := Lib.hid (HK2.out.next hb)
 clear hb
 go_wp2_with fail
 refine (specRText (wdR t) _).mono ?_
 rintro e w5 ⟨rfl, hb⟩
 have HR5 := Lib.hid (HR4.out.kept hb)
 have HK5 := Lib.hid (HK4.out.next hb)
 clear hb
 have HS := Lib.hid (rel729_bs (wdR t))
 have HZ := Lib.hid (relT_size (wdR t))
 generalize bs (relT (wdR t)) = r at *
 go_wp2_with fail
 go_ret
 exact ⟨_, q, Nat.le_of_eq HZ.out.symm, Nat.le_of_eq HZ.out, by omega, HS.out, rfl, HR5.out, HK5.out⟩
theorem szl6 {x : Nat} (h : x = 729) : (¬ 9223372036854775807 < x + 1) ∧ (¬ 9223372036854775807 < x - 1 + 1) ∧ (¬ 9223372036854775807 < 728 + 1) := by omega
set_option maxRecDepth 100000 in
set_option maxHeartbeats 8000000 in
theorem bad6_any {a p : Nat} (t : ByteArray) (h1 : t.size = 729) {w : World} (hr : Rd a p w) (hp : p ≤ 900000) :
  Calls Tryz.prog 152 #[.pointer (some ⟨a, 0, none⟩), .string t] w (DrP a p 729 730 1 w) := by
 have HR := Lib.hid hr
 clear hr
 have C := Lib.hid (pick_any 40 HR.out (by omega) (by omega) (by omega))
 go_enter Tryz.func152, Tryz.ntmps152
 go_wp2_with fail
 refine C.out.mono ?_
 rintro e w1 ⟨k, k0, k1, rfl, hr, hk⟩
 have HR1 := Lib.hid hr
 have HK1 := Lib.hid hk
 clear hr hk C
 obtain ⟨n1, n2, n3⟩ := szl6 h1
 by_cases e0 : k = 0
 ·subst e0
  go_wp2_with fail
  go_ret
  exact ⟨_, p + 1, by rw [ByteArray.size_append, h1]; decide, by rw [ByteArray.size_append, h1]; decide, by omega, rfl, HR1.out, HK1.out⟩
 have g0 : (k == 0) = false := by rw [beq_eq_false_iff_ne]; exact e0
 clear e0
 by_cases e1 : k = 1
 ·subst e1
  have ew : IntKind.i64.wrap ((t.size : Int) - 1) = 728 := (IntWalk.i64_in _ (by omega)).trans (by omega)
  have ew2 : (728 : Int) ≤ (t.size : Int) := by omega
  have ez : (t.extract 0 728).size = 728 := by simp [ByteArray.size_extract]; omega
  have EZ := Lib.hid ez
  clear h1
  go_wp2_with fail
  go_ret
  exact ⟨_, p + 1, by rw [ByteArray.size_append, EZ.out]; decide, by rw [ByteArray.size_append, EZ.out]; decide, by omega, rfl, HR1.out, HK1.out⟩
 have g1 : (k == 1) = false := by rw [beq_eq_false_iff_ne]; exact e1
 clear e1
 go_wp2_with fail
 go_ret
 exact ⟨_, p + 1, by omega, by omega, by omega, rfl, HR1.out, HK1.out⟩
set_option maxHeartbeats 4000000 in
theorem open6_any {a p : Nat} {w : World} (hr : Rd a p w) (hp : p ≤ 300000) :
  Calls Tryz.prog 81 #[.pointer (some ⟨a, 0, none⟩)] w (DrP a p 729 730 161 w) := by
 have HC := Lib.hid (some6 hr hp)
 clear hr
 go_enter Tryz.func81, Tryz.ntmps81
 go_wp2_with fail
 refine HC.out.mono ?_
 rintro e w1 ⟨t, q, t1, t2, hq, hv, rfl, hr, hk⟩
 have HK1 := Lib.hid hk
 have HC := Lib.hid (bad6_any t (by omega) hr (by omega))
 clear hr hk hv
 go_wp2_with fail
 refine HC.out.mono ?_
 rintro e w2 ⟨x, q', x1, x2, hq', rfl, hr, hk⟩
 have HR2 := Lib.hid hr
 have HK2 := Lib.hid (HK1.out.trans hk)
 clear hr hk
 go_wp2_with fail
 go_ret
 exact ⟨x, q', by omega, by omega, by omega, rfl, HR2.out, HK2.out⟩
end Go.Proofs.YtgkoljphndgoeaaGreatDoor
