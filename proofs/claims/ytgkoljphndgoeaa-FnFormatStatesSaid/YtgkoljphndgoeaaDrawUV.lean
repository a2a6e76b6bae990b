/-
  Drawing a test: l1DrawTest; whatever it is, it is a test.
-/
import Derived.Test.YtgkoljphndgoeaaDrawEV
namespace Go.Proofs.Ytgkoljphndgoeaa
open Go.RowKit

set_option maxRecDepth 100000 in
set_option maxHeartbeats 8000000 in
/-- A test of depth 0. -/
theorem vT_zero {a p : Nat} (N : ByteArray) (hN : 1 ≤ N.size) (hN2 : N.size ≤ 6) (hNv : Nm N) (d : Int) (hd : d ≤ 0) {w : World} (hr : Rd a p w) (hp : p ≤ 700000) :
    Calls Try.prog 41 #[.pointer (some ⟨a, 0, none⟩), .int .i64 d, .string N] w (DrQ (IsX true) a p 1 7 17 w) := by
  have HR := Lib.hid hr
  have hlt := hr.lt
  have HNV := Lib.hid hNv
  clear hr hNv
  have C := Lib.hid (pick_any 8 HR.out (by omega) (by omega) (by omega))
  go_enter Try.func41, Try.ntmps41
  go_wp2_with fail
  refine C.out.mono ?_
  rintro e w1 ⟨k, k0, k1, rfl, hr, hk⟩
  have HR1 := Lib.hid hr
  have HK1 := Lib.hid hk
  clear hr hk C
  go_wp2_with fail
  refine (pick_any 10 HR1.out (by omega) (by omega) (by omega)).mono ?_
  rintro e w2 ⟨j, j0, j1, rfl, hr, hk⟩
  have HR2 := Lib.hid hr
  have HK2 := Lib.hid (HK1.out.trans hk)
  clear hr hk
  by_cases e0 : j = 0
  · subst e0
    have hneL : w2.heap.size ≠ a := by have := HK2.out.size; omega
    have HL := Lib.hid (Blk.new w2 #[.string (⟨#[116]⟩), .string (⟨#[102]⟩)] 9)
    have hax := (Below.refl _ w2).alloc (Nat.le_refl _) (.cells #[.string (⟨#[116]⟩), .string (⟨#[102]⟩)] 9)
    have HRx := Lib.hid (HR2.out.kept hax)
    have HKx := Lib.hid (HK2.out.next hax)
    clear hax
    have HQ : Hid (∀ i, i < 2 → ∃ s, (#[.string (⟨#[116]⟩), .string (⟨#[102]⟩)] : Array Value)[i]? = some (.string s) ∧ IsTF s) := fun i hi => by
      have hi : i = 0 ∨ i = 1 := by omega
      rcases hi with rfl | rfl <;> exact ⟨_, rfl, by simp [IsTF]⟩
    go_wp2_with fail
    refine (of_any 2 2 IsTF HRx.out (by omega) HL.out hneL (by omega) (by omega) HQ.out).mono ?_
    rintro e w3 ⟨o, hoA, rfl, hr, hk⟩
    have HOV := Lib.hid hoA
    have ho := hoA.size
    clear hoA
    have HR3 := Lib.hid hr
    have HK3 := Lib.hid (HKx.out.trans hk)
    clear hr hk HL HQ HRx HKx
    have HO := Lib.hid ho
    go_wp2_with fail
    go_ret
    exact ⟨o, p + 1 + 1 + 1, by rw [HO.out]; omega, by rw [HO.out]; omega, by omega, HOV.out.ok, rfl, HR3.out, HK3.out⟩
  · have g0 : (j == 0) = false := by rw [beq_eq_false_iff_ne]; exact e0
    clear e0
    have hneL : w2.heap.size ≠ a := by have := HK2.out.size; omega
    have HL := Lib.hid (Blk.new w2 #[.string (⟨#[61]⟩), .string (⟨#[60]⟩)] 9)
    have hax := (Below.refl _ w2).alloc (Nat.le_refl _) (.cells #[.string (⟨#[61]⟩), .string (⟨#[60]⟩)] 9)
    have HRx := Lib.hid (HR2.out.kept hax)
    have HKx := Lib.hid (HK2.out.next hax)
    clear hax
    have HQ : Hid (∀ i, i < 2 → ∃ s, (#[.string (⟨#[61]⟩), .string (⟨#[60]⟩)] : Array Value)[i]? = some (.string s) ∧ IsCm s) := fun i hi => by
      have hi : i = 0 ∨ i = 1 := by omega
      rcases hi with rfl | rfl <;> exact ⟨_, rfl, by simp [IsCm]⟩
    go_wp2_with fail
    refine (of_any 2 2 IsCm HRx.out (by omega) HL.out hneL (by omega) (by omega) HQ.out).mono ?_
    rintro e w3 ⟨o, hoA, rfl, hr, hk⟩
    have HOV := Lib.hid hoA
    have ho := hoA.size
    clear hoA
    have HR3 := Lib.hid hr
    have HK3 := Lib.hid (HKx.out.trans hk)
    clear hr hk HL HQ HRx HKx
    have HC := Lib.hid (vE_1 N hN hN2 HNV.out HR3.out (by omega))
    go_wp2_with fail
    refine HC.out.mono ?_
    rintro e w4 ⟨x, q, x1, x2, hq, hvv, rfl, hr, hk⟩
    have HX := Lib.hid hvv
    clear hvv
    have HR4 := Lib.hid hr
    have HK4 := Lib.hid (HK3.out.trans hk)
    clear hr hk HC
    have HC := Lib.hid (vE_1 N hN hN2 HNV.out HR4.out (by omega))
    go_wp2_with fail
    refine HC.out.mono ?_
    rintro e w5 ⟨y, q', y1, y2, hq', hvv, rfl, hr, hk⟩
    have HY := Lib.hid hvv
    clear hvv
    have HR5 := Lib.hid hr
    have HK5 := Lib.hid (HK4.out.trans hk)
    clear hr hk HC
    obtain ⟨n1, n2⟩ := szd (Nat.le_of_eq ho) x2 y2 (by omega)
    have hs : (o ++ x ++ y).size = 1 + x.size + y.size := by simp [ByteArray.size_append, ho]
    have HS := Lib.hid hs
    clear hs
    go_wp2_with fail
    go_ret
    exact ⟨o ++ x ++ y, q', by rw [HS.out]; omega, by rw [HS.out]; omega, by omega, HOV.out.bin HX.out HY.out, rfl, HR5.out, HK5.out⟩

set_option maxRecDepth 100000 in
set_option maxHeartbeats 8000000 in
/-- One depth more. -/
theorem vT_succ {a p : Nat} (N : ByteArray) (hN : 1 ≤ N.size) (hN2 : N.size ≤ 6) (hNv : Nm N) (d m : Int) (hd : ¬ d ≤ 0) (hm : IntKind.i64.wrap (d - 1) = m) (hi c : Nat) (hh : hi ≤ 100000) (h7 : 7 ≤ hi) (h17 : 17 ≤ c) {w : World} (hr : Rd a p w) (hp : p + (2 * c + 2) ≤ 700000)
    (IH : ∀ (q : Nat) (w1 : World), q ≤ p + (c + 2) → Rd a q w1 → Calls Try.prog 41 #[.pointer (some ⟨a, 0, none⟩), .int .i64 m, .string N] w1 (DrQ (IsX true) a q 1 hi c w1)) :
    Calls Try.prog 41 #[.pointer (some ⟨a, 0, none⟩), .int .i64 d, .string N] w (DrQ (IsX true) a p 1 (2 * hi + 1) (2 * c + 2) w) := by
  have HR := Lib.hid hr
  have hlt := hr.lt
  have HI := Lib.hid IH
  have HNV := Lib.hid hNv
  clear hr IH hNv
  have C := Lib.hid (pick_any 8 HR.out (by omega) (by omega) (by omega))
  go_enter Try.func41, Try.ntmps41
  go_wp2_with fail
  refine C.out.mono ?_
  rintro e w1 ⟨k, k0, k1, rfl, hr, hk⟩
  have HR1 := Lib.hid hr
  have HK1 := Lib.hid hk
  clear hr hk C
  by_cases h4 : k < 4
  · go_wp2_with fail
    refine (pick_any 10 HR1.out (by omega) (by omega) (by omega)).mono ?_
    rintro e w2 ⟨j, j0, j1, rfl, hr, hk⟩
    have HR2 := Lib.hid hr
    have HK2 := Lib.hid (HK1.out.trans hk)
    clear hr hk
    by_cases e0 : j = 0
    · subst e0
      have hneL : w2.heap.size ≠ a := by have := HK2.out.size; omega
      have HL := Lib.hid (Blk.new w2 #[.string (⟨#[116]⟩), .string (⟨#[102]⟩)] 9)
      have hax := (Below.refl _ w2).alloc (Nat.le_refl _) (.cells #[.string (⟨#[116]⟩), .string (⟨#[102]⟩)] 9)
      have HRx := Lib.hid (HR2.out.kept hax)
      have HKx := Lib.hid (HK2.out.next hax)
      clear hax
      have HQ : Hid (∀ i, i < 2 → ∃ s, (#[.string (⟨#[116]⟩), .string (⟨#[102]⟩)] : Array Value)[i]? = some (.string s) ∧ IsTF s) := fun i hi => by
        have hi : i = 0 ∨ i = 1 := by omega
        rcases hi with rfl | rfl <;> exact ⟨_, rfl, by simp [IsTF]⟩
      go_wp2_with fail
      refine (of_any 2 2 IsTF HRx.out (by omega) HL.out hneL (by omega) (by omega) HQ.out).mono ?_
      rintro e w3 ⟨o, hoA, rfl, hr, hk⟩
      have HOV := Lib.hid hoA
      have ho := hoA.size
      clear hoA
      have HR3 := Lib.hid hr
      have HK3 := Lib.hid (HKx.out.trans hk)
      clear hr hk HL HQ HRx HKx
      have HO := Lib.hid ho
      go_wp2_with fail
      go_ret
      exact ⟨o, p + 1 + 1 + 1, by rw [HO.out]; omega, by rw [HO.out]; omega, by omega, HOV.out.ok, rfl, HR3.out, HK3.out⟩
    · have g0 : (j == 0) = false := by rw [beq_eq_false_iff_ne]; exact e0
      clear e0
      have hneL : w2.heap.size ≠ a := by have := HK2.out.size; omega
      have HL := Lib.hid (Blk.new w2 #[.string (⟨#[61]⟩), .string (⟨#[60]⟩)] 9)
      have hax := (Below.refl _ w2).alloc (Nat.le_refl _) (.cells #[.string (⟨#[61]⟩), .string (⟨#[60]⟩)] 9)
      have HRx := Lib.hid (HR2.out.kept hax)
      have HKx := Lib.hid (HK2.out.next hax)
      clear hax
      have HQ : Hid (∀ i, i < 2 → ∃ s, (#[.string (⟨#[61]⟩), .string (⟨#[60]⟩)] : Array Value)[i]? = some (.string s) ∧ IsCm s) := fun i hi => by
        have hi : i = 0 ∨ i = 1 := by omega
        rcases hi with rfl | rfl <;> exact ⟨_, rfl, by simp [IsCm]⟩
      go_wp2_with fail
      refine (of_any 2 2 IsCm HRx.out (by omega) HL.out hneL (by omega) (by omega) HQ.out).mono ?_
      rintro e w3 ⟨o, hoA, rfl, hr, hk⟩
      have HOV := Lib.hid hoA
      have ho := hoA.size
      clear hoA
      have HR3 := Lib.hid hr
      have HK3 := Lib.hid (HKx.out.trans hk)
      clear hr hk HL HQ HRx HKx
      have HC := Lib.hid (vE_1 N hN hN2 HNV.out HR3.out (by omega))
      go_wp2_with fail
      refine HC.out.mono ?_
      rintro e w4 ⟨x, q, x1, x2, hq, hvv, rfl, hr, hk⟩
      have HX := Lib.hid hvv
      clear hvv
      have HR4 := Lib.hid hr
      have HK4 := Lib.hid (HK3.out.trans hk)
      clear hr hk HC
      have HC := Lib.hid (vE_1 N hN hN2 HNV.out HR4.out (by omega))
      go_wp2_with fail
      refine HC.out.mono ?_
      rintro e w5 ⟨y, q', y1, y2, hq', hvv, rfl, hr, hk⟩
      have HY := Lib.hid hvv
      clear hvv
      have HR5 := Lib.hid hr
      have HK5 := Lib.hid (HK4.out.trans hk)
      clear hr hk HC
      obtain ⟨n1, n2⟩ := szd (Nat.le_of_eq ho) x2 y2 (by omega)
      have hs : (o ++ x ++ y).size = 1 + x.size + y.size := by simp [ByteArray.size_append, ho]
      have HS := Lib.hid hs
      clear hs
      go_wp2_with fail
      go_ret
      exact ⟨o ++ x ++ y, q', by rw [HS.out]; omega, by rw [HS.out]; omega, by omega, HOV.out.bin HX.out HY.out, rfl, HR5.out, HK5.out⟩
  · by_cases h5 : k < 5
    · have HC := Lib.hid (HI.out (p + 1) w1 (by omega) HR1.out)
      go_wp2_with fail
      refine HC.out.mono ?_
      rintro e w2 ⟨x, q, x1, x2, hq, hvv, rfl, hr, hk⟩
      have HX := Lib.hid hvv
      clear hvv
      have HR2 := Lib.hid hr
      have HK2 := Lib.hid (HK1.out.trans hk)
      clear hr hk HC
      obtain ⟨n1, n2⟩ := szd (x := 1) (z := x.size) (Nat.le_refl _) x2 x2 hh
      go_wp2_with fail
      go_ret
      exact ⟨_, q, by rw [ByteArray.size_append]; omega, by rw [ByteArray.size_append, show ByteArray.size ⟨#[33]⟩ = 1 from rfl]; omega, by omega, isX_not HX.out, rfl, HR2.out, HK2.out⟩
    · have hneL : w1.heap.size ≠ a := by have := HK1.out.size; omega
      have HL := Lib.hid (Blk.new w1 #[.string (⟨#[38]⟩), .string (⟨#[124]⟩)] 9)
      have hax := (Below.refl _ w1).alloc (Nat.le_refl _) (.cells #[.string (⟨#[38]⟩), .string (⟨#[124]⟩)] 9)
      have HRx := Lib.hid (HR1.out.kept hax)
      have HKx := Lib.hid (HK1.out.next hax)
      clear hax
      have HQ : Hid (∀ i, i < 2 → ∃ s, (#[.string (⟨#[38]⟩), .string (⟨#[124]⟩)] : Array Value)[i]? = some (.string s) ∧ IsJ s) := fun i hi => by
        have hi : i = 0 ∨ i = 1 := by omega
        rcases hi with rfl | rfl <;> exact ⟨_, rfl, by simp [IsJ]⟩
      go_wp2_with fail
      refine (of_any 2 2 IsJ HRx.out (by omega) HL.out hneL (by omega) (by omega) HQ.out).mono ?_
      rintro e w3 ⟨o, hoA, rfl, hr, hk⟩
      have HOV := Lib.hid hoA
      have ho := hoA.size
      clear hoA
      have HR3 := Lib.hid hr
      have HK3 := Lib.hid (HKx.out.trans hk)
      clear hr hk HL HQ HRx HKx
      have HC := Lib.hid (HI.out (p + 1 + 1) w3 (by omega) HR3.out)
      go_wp2_with fail
      refine HC.out.mono ?_
      rintro e w4 ⟨x, q, x1, x2, hq, hvv, rfl, hr, hk⟩
      have HX := Lib.hid hvv
      clear hvv
      have HR4 := Lib.hid hr
      have HK4 := Lib.hid (HK3.out.trans hk)
      clear hr hk HC
      have HC := Lib.hid (HI.out q w4 (by omega) HR4.out)
      go_wp2_with fail
      refine HC.out.mono ?_
      rintro e w5 ⟨y, q', y1, y2, hq', hvv, rfl, hr, hk⟩
      have HY := Lib.hid hvv
      clear hvv
      have HR5 := Lib.hid hr
      have HK5 := Lib.hid (HK4.out.trans hk)
      clear hr hk HC
      obtain ⟨n1, n2⟩ := szd (Nat.le_of_eq ho) x2 y2 hh
      have hs : (o ++ x ++ y).size = 1 + x.size + y.size := by simp [ByteArray.size_append, ho]
      have HS := Lib.hid hs
      clear hs
      go_wp2_with fail
      go_ret
      exact ⟨o ++ x ++ y, q', by rw [HS.out]; omega, by rw [HS.out]; omega, by omega, HOV.out.bin HX.out HY.out, rfl, HR5.out, HK5.out⟩

/-- A test of depth 1, 2 is drawn. -/
theorem vT_1 {a p : Nat} (N : ByteArray) (hN : 1 ≤ N.size) (hN2 : N.size ≤ 6) (hNv : Nm N) {w : World} (hr : Rd a p w) (hp : p ≤ 600000) :
    Calls Try.prog 41 #[.pointer (some ⟨a, 0, none⟩), .int .i64 1, .string N] w (DrQ (IsX true) a p 1 15 36 w) :=
  vT_succ N hN hN2 hNv 1 0 (by omega) rfl 7 17 (by omega) (by omega) (by omega) hr (by omega) fun q w1 hq h => vT_zero N hN hN2 hNv 0 (by omega) h (by omega)
theorem vT_2 {a p : Nat} (N : ByteArray) (hN : 1 ≤ N.size) (hN2 : N.size ≤ 6) (hNv : Nm N) {w : World} (hr : Rd a p w) (hp : p ≤ 500000) :
    Calls Try.prog 41 #[.pointer (some ⟨a, 0, none⟩), .int .i64 2, .string N] w (DrQ (IsX true) a p 1 31 74 w) :=
  vT_succ N hN hN2 hNv 2 1 (by omega) rfl 15 36 (by omega) (by omega) (by omega) hr (by omega) fun q w1 hq h => vT_1 N hN hN2 hNv h (by omega)
end Go.Proofs.Ytgkoljphndgoeaa
