/-
  Spoiling a text: l1Bad; whatever it is, it is a text of some bytes. And the draws of a text of a test and of an expression.
-/
import Derived.Test.YtegbjnpnchidkaaDrawU
import Derived.Deep.RegionHeld3
namespace Go.Proofs.Ytegbjnpnchidkaa
open Go.RowKit

/-- The reader has been asked at most p times, and all else is as it was in w. -/
def SB (a p : Nat) (w w' : World) : Prop := ∃ q : Nat, q ≤ p ∧ Rd a q w' ∧ Kp a w w'
theorem sb_done {a p hi : Nat} {w w' : World} {s : ByteArray} {e : Ending} (hs : s.size ≤ hi) (he : e = .returned (.string s)) (h : SB a (p + 3) w w') : DrP a p 0 hi 3 w e w' := by
  obtain ⟨q, hq, hr, hk⟩ := h
  exact ⟨s, q, Nat.zero_le _, hs, hq, he, hr, hk⟩
theorem szb {s x : Nat} (hs : s ≤ 100000) (hx : x = 1) : ¬ 9223372036854775807 < s + x := by omega
theorem szc {s x k : Nat} (hs : s ≤ 100000) (hx : x = 1) (hk : k + 1 ≤ s) : (¬ 9223372036854775807 < k + x) ∧ (¬ 9223372036854775807 < k + x + (s - (k + 1))) ∧ (¬ 9223372036854775807 < k + 1 + (s - (k + 1))) ∧ (¬ 9223372036854775807 < min k s + x) ∧ (¬ 9223372036854775807 < min k s + x + (s - (k + 1))) := by omega

set_option maxRecDepth 100000 in
set_option maxHeartbeats 8000000 in
theorem bad_any {a p : Nat} (t : ByteArray) (h1 : 1 ≤ t.size) (h2 : t.size ≤ 100000) {w : World} (hr : Rd a p w) (hp : p ≤ 900000) :
    Calls Try.prog 39 #[.pointer (some ⟨a, 0, none⟩), .string t] w (DrP a p 0 (t.size + 1) 3 w) := by
  have HR := Lib.hid hr
  have hlt := hr.lt
  clear hr
  have C := Lib.hid (pick_any 30 HR.out (by omega) (by omega) (by omega))
  go_enter Try.func39, Try.ntmps39
  go_wp2_with fail
  refine C.out.mono ?_
  rintro e w1 ⟨k, k0, k1, rfl, hr, hk⟩
  have HR1 := Lib.hid hr
  have HK1 := Lib.hid hk
  clear hr hk C
  by_cases e0 : k = 0
  · subst e0
    have hneL : w1.heap.size ≠ a := by have := HK1.out.size; omega
    have HL := Lib.hid (Blk.new w1 #[.string (⟨#[120]⟩), .string (⟨#[48]⟩), .string (⟨#[32]⟩)] 9)
    have hax := (Below.refl _ w1).alloc (Nat.le_refl _) (.cells #[.string (⟨#[120]⟩), .string (⟨#[48]⟩), .string (⟨#[32]⟩)] 9)
    have HRx := Lib.hid (HR1.out.kept hax)
    have HKx := Lib.hid (HK1.out.next hax)
    clear hax
    have HQ : Hid (∀ i, i < 3 → ∃ s, (#[.string (⟨#[120]⟩), .string (⟨#[48]⟩), .string (⟨#[32]⟩)] : Array Value)[i]? = some (.string s) ∧ s.size = 1) := fun i hi => by
      have hi : i = 0 ∨ i = 1 ∨ i = 2 := by omega
      rcases hi with rfl | rfl | rfl <;> exact ⟨_, rfl, by decide⟩
    go_wp2_with fail
    refine (of_any 3 3 (fun s => s.size = 1) HRx.out (by omega) HL.out hneL (by omega) (by omega) HQ.out).mono ?_
    rintro e w2 ⟨x, hx, rfl, hr, hk⟩
    have HR2 := Lib.hid hr
    have HK2 := Lib.hid (HKx.out.trans hk)
    clear hr hk
    have n1 := szb h2 hx
    go_wp2_with fail
    go_ret
    exact ⟨_, p + 1 + 1, Nat.zero_le _, by rw [ByteArray.size_append, hx]; exact Nat.le_refl _, by omega, rfl, HR2.out, HK2.out⟩
  have g0 : (k == 0) = false := by rw [beq_eq_false_iff_ne]; exact e0
  clear e0
  by_cases e1 : k = 1
  · subst e1
    have ew : IntKind.i64.wrap ((t.size : Int) - 1) = ((t.size - 1 : Nat) : Int) := (IntWalk.i64_in _ (by omega)).trans (by omega)
    go_wp2_with fail
    go_ret
    exact ⟨_, p + 1, Nat.zero_le _, by simp only [ByteArray.size_extract]; omega, by omega, rfl, HR1.out, HK1.out⟩
  have g1 : (k == 1) = false := by rw [beq_eq_false_iff_ne]; exact e1
  clear e1
  by_cases e2 : k = 2
  · subst e2
    have C := Lib.hid (pick_any (t.size : Int) HR1.out (by omega) (by omega) (by omega))
    go_wp2_with fail
    refine C.out.mono ?_
    rintro e w2 ⟨k, k0, k1, rfl, hr, hk⟩
    have HR2 := Lib.hid hr
    have HK2 := Lib.hid (HK1.out.trans hk)
    clear hr hk C g0 g1
    obtain ⟨k, rfl⟩ := Int.eq_ofNat_of_zero_le k0
    have hk1 : k + 1 ≤ t.size := by omega
    have hneL : w2.heap.size ≠ a := by have := HK2.out.size; omega
    have HL := Lib.hid (Blk.new w2 #[.string (⟨#[88]⟩), .string (⟨#[119]⟩), .string (⟨#[43]⟩), .string (⟨#[61]⟩)] 9)
    have hax := (Below.refl _ w2).alloc (Nat.le_refl _) (.cells #[.string (⟨#[88]⟩), .string (⟨#[119]⟩), .string (⟨#[43]⟩), .string (⟨#[61]⟩)] 9)
    have HRx := Lib.hid (HR2.out.kept hax)
    have HKx := Lib.hid (HK2.out.next hax)
    clear hax
    have HQ : Hid (∀ i, i < 4 → ∃ s, (#[.string (⟨#[88]⟩), .string (⟨#[119]⟩), .string (⟨#[43]⟩), .string (⟨#[61]⟩)] : Array Value)[i]? = some (.string s) ∧ s.size = 1) := fun i hi => by
      have hi : i = 0 ∨ i = 1 ∨ i = 2 ∨ i = 3 := by omega
      rcases hi with rfl | rfl | rfl | rfl <;> exact ⟨_, rfl, by decide⟩
    have hs0 : SB a (p + 3) w w2.drew := ⟨_, by omega, HR2.out.kept (Below.refl _ _).drew, HK2.out.next (Below.refl _ _).drew⟩
    have hs1 : SB a (p + 3) w (w2.alloc (.cells #[.string (⟨#[88]⟩), .string (⟨#[119]⟩), .string (⟨#[43]⟩), .string (⟨#[61]⟩)] 9)).drew := ⟨_, by omega, HRx.out.kept (Below.refl _ _).drew, HKx.out.next (Below.refl _ _).drew⟩
    have HRy := Lib.hid (HRx.out.kept (Below.refl _ _).drew)
    have HKy := Lib.hid (HKx.out.next (Below.refl _ _).drew)
    have HLy := Lib.hid HL.out.drew
    have C := Lib.hid (of_any 4 4 (fun s => s.size = 1) HRy.out (by omega) HLy.out hneL (by omega) (by omega) HQ.out)
    have ew : IntKind.i64.wrap ((k : Int) + 1) = (k : Int) + 1 := IntWalk.i64_in _ (by omega)
    have hq0 : (0 : Int) ≤ (k : Int) + 1 := by omega
    have hq1 : (k : Int) ≤ (t.size : Int) := by omega
    have hq2 : (k : Int) + 1 ≤ (t.size : Int) := by omega
    have hq3 : k ≤ t.size := by omega
    have hq4 : ((k : Int) + 1).toNat = k + 1 := by omega
    have hq5 : min k t.size = k := by omega
    clear HR HR1 HK1 HL HRx HQ HLy HKx
    go_wp2_with fail
    go_region_held3 (fun w' => SB a (p + 3) w w')
      (first | assumption | (go_split_ands; assumption))
      (first
        | (go_at_call 71; (with_reducible refine C.out.mono ?_); rintro e w6 ⟨s, hs, rfl, hr, hk⟩; have hbw3 : SB a (p + 3) w w6 := ⟨_, by omega, hr, HKy.out.trans hk⟩; obtain ⟨n0, n1, n2, n3, n4⟩ := szc h2 hs hk1; replace hs := Lib.hid hs))
    all_goals
      go_split_ands
      go_wp2_with fail
      go_ret
      have hz : (t.extract 0 k ++ s ++ t.extract (k + 1) t.size).size ≤ t.size + 1 := by simp only [ByteArray.size_append, ByteArray.size_extract, hs.out]; omega
      exact sb_done hz rfl (by assumption)
  have g2 : (k == 2) = false := by rw [beq_eq_false_iff_ne]; exact e2
  clear e2
  go_wp2_with fail
  go_ret
  exact ⟨_, p + 1, Nat.zero_le _, by omega, by omega, rfl, HR1.out, HK1.out⟩

set_option maxHeartbeats 4000000 in
/-- A text of a test is drawn. -/
theorem drawTV {a : Option Addr} {len cap : Nat} {zs : List Int} {w : World} (h : IsRow w a len cap zs) :
    Calls Try.prog 62 #[.slice a len cap] w fun e w' => ∃ t : ByteArray, t.size ≤ 40 ∧ e = .returned (.string t) ∧ Below w.heap.size w w' := by
  have HO := Lib.hid (open_any h)
  clear h
  go_enter Try.func62, Try.ntmps62
  go_wp2_with fail
  refine HO.out.mono ?_
  rintro e w1 ⟨rfl, hr, hb⟩
  have HW1 := Lib.hid hb
  have HC := Lib.hid (dT_2 (bs [120, 121, 122]) (by decide) (by decide) hr (by omega))
  clear hr hb
  go_wp2_with fail
  refine HC.out.mono ?_
  rintro e w2 ⟨t, q, t1, t2, hq, rfl, hr, hk⟩
  have HW2 := Lib.hid (HW1.out.trans (hk.below (Nat.le_refl _) HW1.out.size))
  have HC := Lib.hid (bad_any t t1 (by omega) hr (by omega))
  clear hr hk
  go_wp2_with fail
  refine HC.out.mono ?_
  rintro e w3 ⟨x, q', x1, x2, hq', rfl, hr, hk⟩
  have HW3 := Lib.hid (HW2.out.trans (hk.below (Nat.le_refl _) HW2.out.size))
  clear hr hk
  go_wp2_with fail
  go_ret
  exact ⟨x, by omega, rfl, HW3.out⟩

set_option maxHeartbeats 4000000 in
/-- A text of an expression is drawn. -/
theorem drawEV {a : Option Addr} {len cap : Nat} {zs : List Int} {w : World} (h : IsRow w a len cap zs) :
    Calls Try.prog 58 #[.slice a len cap] w fun e w' => ∃ t : ByteArray, t.size ≤ 40 ∧ e = .returned (.string t) ∧ Below w.heap.size w w' := by
  have HO := Lib.hid (open_any h)
  clear h
  go_enter Try.func58, Try.ntmps58
  go_wp2_with fail
  refine HO.out.mono ?_
  rintro e w1 ⟨rfl, hr, hb⟩
  have HW1 := Lib.hid hb
  have HC := Lib.hid (dE_3 (bs [120, 121, 122]) (by decide) (by decide) hr (by omega))
  clear hr hb
  go_wp2_with fail
  refine HC.out.mono ?_
  rintro e w2 ⟨t, q, t1, t2, hq, rfl, hr, hk⟩
  have HW2 := Lib.hid (HW1.out.trans (hk.below (Nat.le_refl _) HW1.out.size))
  have HC := Lib.hid (bad_any t t1 (by omega) hr (by omega))
  clear hr hk
  go_wp2_with fail
  refine HC.out.mono ?_
  rintro e w3 ⟨x, q', x1, x2, hq', rfl, hr, hk⟩
  have HW3 := Lib.hid (HW2.out.trans (hk.below (Nat.le_refl _) HW2.out.size))
  clear hr hk
  go_wp2_with fail
  go_ret
  exact ⟨x, by omega, rfl, HW3.out⟩
end Go.Proofs.Ytegbjnpnchidkaa
