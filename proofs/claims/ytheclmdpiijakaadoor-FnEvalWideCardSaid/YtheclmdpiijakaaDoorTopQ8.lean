/-
  Several small texts in one: DrawB DrawS Drw.
-/
import Derived.Test.YtheclmdpiijakaaDoorTopD
import Derived.Deep.RegionHeld3
namespace Go.Proofs.YtheclmdpiijakaaDoor
open Go.RowKit

/-- The reader has been asked at most p times, and all else is as it was in w. -/
def SBe (a p : Nat) (w w' : World) : Prop := ∃ q : Nat, q ≤ p ∧ Rd a q w' ∧ Kp a w w'
theorem sb_doneE {a p hi : Nat} {w w' : World} {s : ByteArray} {e : Ending} (hs : s.size ≤ hi) (he : e = .returned (.string s)) (h : SBe a (p + 3) w w') : DrP a p 0 hi 3 w e w' := by
  obtain ⟨q, hq, hr, hk⟩ := h
  exact ⟨s, q, Nat.zero_le _, hs, hq, he, hr, hk⟩
theorem szbE {s x : Nat} (hs : s ≤ 100000) (hx : x = 1) : ¬ 9223372036854775807 < s + x := by omega
theorem szcE {s x k : Nat} (hs : s ≤ 100000) (hx : x = 1) (hk : k + 1 ≤ s) : (¬ 9223372036854775807 < k + x) ∧ (¬ 9223372036854775807 < k + x + (s - (k + 1))) ∧ (¬ 9223372036854775807 < k + 1 + (s - (k + 1))) ∧ (¬ 9223372036854775807 < min k s + x) ∧ (¬ 9223372036854775807 < min k s + x + (s - (k + 1))) := by omega

set_option maxRecDepth 100000 in
set_option maxHeartbeats 8000000 in
theorem bad_any {a p : Nat} (t : ByteArray) (h1 : 1 ≤ t.size) (h2 : t.size ≤ 100000) {w : World} (hr : Rd a p w) (hp : p ≤ 900000) :
    Calls Tryd.prog 46 #[.pointer (some ⟨a, 0, none⟩), .string t] w (DrP a p 0 (t.size + 1) 3 w) := by
  have HR := Lib.hid hr
  have hlt := hr.lt
  clear hr
  have C := Lib.hid (pick_any 30 HR.out (by omega) (by omega) (by omega))
  go_enter Tryd.func46, Tryd.ntmps46
  go_wp2_with fail
  refine C.out.mono ?_
  rintro e w1 ⟨k, k0, k1, rfl, hr, hk⟩
  have HR1 := Lib.hid hr
  have HK1 := Lib.hid hk
  clear hr hk C
  by_cases e0 : k = 0
  · subst e0
    have hneL : w1.heap.size ≠ a := by have := HK1.out.size; omega
    have HL := Lib.hid (Blk.new w1 #[.string (⟨#[120]⟩), .string (⟨#[48]⟩), .string (⟨#[32]⟩)] 9)
    have hax := (Below.refl _ w1).alloc (Nat.le_refl _) (.cells #[.string (⟨#[120]⟩), .string (⟨#[48]⟩), .string (⟨#[32]⟩)] 9)
    have HRx := Lib.hid (HR1.out.kept hax)
    have HKx := Lib.hid (HK1.out.next hax)
    clear hax
    have HQ : Hid (∀ i, i < 3 → ∃ s, (#[.string (⟨#[120]⟩), .string (⟨#[48]⟩), .string (⟨#[32]⟩)] : Array Value)[i]? = some (.string s) ∧ s.size = 1) := fun i hi => by
      have hi : i = 0 ∨ i = 1 ∨ i = 2 := by omega
      rcases hi with rfl | rfl | rfl <;> exact ⟨_, rfl, by decide⟩
    go_wp2_with fail
    refine (of_any 3 3 (fun s => s.size = 1) HRx.out (by omega) HL.out hneL (by omega) (by omega) HQ.out).mono ?_
    rintro e w2 ⟨x, hx, rfl, hr, hk⟩
    have HR2 := Lib.hid hr
    have HK2 := Lib.hid (HKx.out.trans hk)
    clear hr hk
    have n1 := szbE h2 hx
    go_wp2_with fail
    go_ret
    exact ⟨_, p + 1 + 1, Nat.zero_le _, by rw [ByteArray.size_append, hx]; exact Nat.le_refl _, by omega, rfl, HR2.out, HK2.out⟩
  have g0 : (k == 0) = false := by rw [beq_eq_false_iff_ne]; exact e0
  clear e0
  by_cases e1 : k = 1
  · subst e1
    have ew : IntKind.i64.wrap ((t.size : Int) - 1) = ((t.size - 1 : Nat) : Int) := (IntWalk.i64_in _ (by omega)).trans (by omega)
    go_wp2_with fail
    go_ret
    exact ⟨_, p + 1, Nat.zero_le _, by simp only [ByteArray.size_extract]; omega, by omega, rfl, HR1.out, HK1.out⟩
  have g1 : (k == 1) = false := by rw [beq_eq_false_iff_ne]; exact e1
  clear e1
  by_cases e2 : k = 2
  · subst e2
    have C := Lib.hid (pick_any (t.size : Int) HR1.out (by omega) (by omega) (by omega))
    go_wp2_with fail
    refine C.out.mono ?_
    rintro e w2 ⟨k, k0, k1, rfl, hr, hk⟩
    have HR2 := Lib.hid hr
    have HK2 := Lib.hid (HK1.out.trans hk)
    clear hr hk C g0 g1
    obtain ⟨k, rfl⟩ := Int.eq_ofNat_of_zero_le k0
    have hk1 : k + 1 ≤ t.size := by omega
    have hneL : w2.heap.size ≠ a := by have := HK2.out.size; omega
    have HL := Lib.hid (Blk.new w2 #[.string (⟨#[88]⟩), .string (⟨#[119]⟩), .string (⟨#[43]⟩), .string (⟨#[61]⟩)] 9)
    have hax := (Below.refl _ w2).alloc (Nat.le_refl _) (.cells #[.string (⟨#[88]⟩), .string (⟨#[119]⟩), .string (⟨#[43]⟩), .string (⟨#[61]⟩)] 9)
    have HRx := Lib.hid (HR2.out.kept hax)
    have HKx := Lib.hid (HK2.out.next hax)
    clear hax
    have HQ : Hid (∀ i, i < 4 → ∃ s, (#[.string (⟨#[88]⟩), .string (⟨#[119]⟩), .string (⟨#[43]⟩), .string (⟨#[61]⟩)] : Array Value)[i]? = some (.string s) ∧ s.size = 1) := fun i hi => by
      have hi : i = 0 ∨ i = 1 ∨ i = 2 ∨ i = 3 := by omega
      rcases hi with rfl | rfl | rfl | rfl <;> exact ⟨_, rfl, by decide⟩
    have hs0 : SBe a (p + 3) w w2.drew := ⟨_, by omega, HR2.out.kept (Below.refl _ _).drew, HK2.out.next (Below.refl _ _).drew⟩
    have hs1 : SBe a (p + 3) w (w2.alloc (.cells #[.string (⟨#[88]⟩), .string (⟨#[119]⟩), .string (⟨#[43]⟩), .string (⟨#[61]⟩)] 9)).drew := ⟨_, by omega, HRx.out.kept (Below.refl _ _).drew, HKx.out.next (Below.refl _ _).drew⟩
    have HRy := Lib.hid (HRx.out.kept (Below.refl _ _).drew)
    have HKy := Lib.hid (HKx.out.next (Below.refl _ _).drew)
    have HLy := Lib.hid HL.out.drew
    have C := Lib.hid (of_any 4 4 (fun s => s.size = 1) HRy.out (by omega) HLy.out hneL (by omega) (by omega) HQ.out)
    have ew : IntKind.i64.wrap ((k : Int) + 1) = (k : Int) + 1 := IntWalk.i64_in _ (by omega)
    have hq0 : (0 : Int) ≤ (k : Int) + 1 := by omega
    have hq1 : (k : Int) ≤ (t.size : Int) := by omega
    have hq2 : (k : Int) + 1 ≤ (t.size : Int) := by omega
    have hq3 : k ≤ t.size := by omega
    have hq4 : ((k : Int) + 1).toNat = k + 1 := by omega
    have hq5 : min k t.size = k := by omega
    clear HR HR1 HK1 HL HRx HQ HLy HKx
    go_wp2_with fail
    go_region_held3 (fun w' => SBe a (p + 3) w w')
      (first | assumption | (go_split_ands; assumption))
      (first
        | (go_at_call 84; (with_reducible refine C.out.mono ?_); rintro e w6 ⟨s, hs, rfl, hr, hk⟩; have hbw3 : SBe a (p + 3) w w6 := ⟨_, by omega, hr, HKy.out.trans hk⟩; obtain ⟨n0, n1, n2, n3, n4⟩ := szcE h2 hs hk1; replace hs := Lib.hid hs))
    all_goals
      go_split_ands
      go_wp2_with fail
      go_ret
      have hz : (t.extract 0 k ++ s ++ t.extract (k + 1) t.size).size ≤ t.size + 1 := by simp only [ByteArray.size_append, ByteArray.size_extract, hs.out]; omega
      exact sb_doneE hz rfl (by assumption)
  have g2 : (k == 2) = false := by rw [beq_eq_false_iff_ne]; exact e2
  clear e2
  go_wp2_with fail
  go_ret
  exact ⟨_, p + 1, Nat.zero_le _, by omega, by omega, rfl, HR1.out, HK1.out⟩

end Go.Proofs.YtheclmdpiijakaaDoor

namespace Go.Proofs.YtheclmdpiijakaaDoor
open Go.RowKit

set_option maxHeartbeats 2000000 in
theorem spot_any {a p : Nat} {w : World} (hr : Rd a p w) (hp : p ≤ 900000) :
    Calls Tryd.prog 49 #[.pointer (some ⟨a, 0, none⟩)] w fun e w' => ∃ x y z : Int, (0 ≤ x ∧ x < 3) ∧ (0 ≤ y ∧ y < 3) ∧ (0 ≤ z ∧ z < 3) ∧ e = .returned (.agg #[.int .i64 x, .int .i64 y, .int .i64 z]) ∧ Rd a (p + 3) w' ∧ Kp a w w' := by
  have HR0 := Lib.hid (hr.kept ((Below.refl _ w).alloc (Nat.le_refl _) (.cells #[.int .i64 0, .int .i64 0, .int .i64 0] 32)))
  have HK0 := Lib.hid ((Kp.refl a w).put (.cells #[.int .i64 0, .int .i64 0, .int .i64 0] 32))
  have HB0 := Lib.hid (Blk.new w #[.int .i64 0, .int .i64 0, .int .i64 0] 32)
  have hlt := hr.lt
  have hne : w.heap.size ≠ a := by omega
  clear hr
  go_enter Tryd.func49, Tryd.ntmps49
  go_wp2_with fail
  refine (pick_any 3 HR0.out (by omega) (by omega) (by omega)).mono ?_
  rintro e w1 ⟨x, x0, x1, rfl, hr, hk⟩
  have HR1 := Lib.hid hr
  have HK1 := Lib.hid (HK0.out.trans hk)
  have HB1 := Lib.hid (HB0.out.kp hk hne)
  clear hr hk
  go_wp2_with fail
  refine (pick_any 3 HR1.out (by omega) (by omega) (by omega)).mono ?_
  rintro e w2 ⟨y, y0, y1, rfl, hr, hk⟩
  have HR2 := Lib.hid hr
  have HK2 := Lib.hid (HK1.out.trans hk)
  have HB2 := Lib.hid (HB1.out.kp hk hne)
  clear hr hk
  go_wp2_with fail
  refine (pick_any 3 HR2.out (by omega) (by omega) (by omega)).mono ?_
  rintro e w3 ⟨z, z0, z1, rfl, hr, hk⟩
  have HR3 := Lib.hid hr
  have HK3 := Lib.hid (HK2.out.trans hk)
  have HB3 := Lib.hid (HB2.out.kp hk hne)
  clear hr hk
  obtain ⟨q0, q1, q2, f0, f1, f2⟩ := HB3.out.a3
  go_wp2_with fail
  refine bodyPost_ret (v := .agg #[.int .i64 x, .int .i64 y, .int .i64 z]) (by simp [results, Tryd.results49, go_sem, q0, q1, q2]) rfl ⟨x, y, z, ⟨x0, x1⟩, ⟨y0, y1⟩, ⟨z0, z1⟩, rfl, ?_, ?_⟩
  · exact HR3.out.keepB (B := w.heap.size) (by (repeat refine Below.setCell ?_ (by simp) _); exact Below.refl _ _) hlt
  · (repeat refine Kp.setNew ?_ (by simp) _)
    exact HK3.out

set_option maxRecDepth 100000 in
set_option maxHeartbeats 4000000 in
theorem badSpot_any {a p : Nat} {x y z : Int} {w : World} (hr : Rd a p w) (hp : p ≤ 900000) :
    Calls Tryd.prog 48 #[.pointer (some ⟨a, 0, none⟩), .agg #[.int .i64 x, .int .i64 y, .int .i64 z]] w fun e w' => ∃ x' z' : Int, (x' = x ∨ x' = -1 ∨ x' = 3 ∨ x' = 9223372036854775807) ∧ (z' = z ∨ z' = -1 ∨ z' = 3) ∧ e = .returned (.agg #[.int .i64 x', .int .i64 y, .int .i64 z']) ∧ (∃ p', p' ≤ p + 2 ∧ Rd a p' w') ∧ Kp a w w' := by
  have HB0 := Lib.hid ((Blk.new w #[.int .i64 x, .int .i64 y, .int .i64 z] 32).alloc (.cells #[.int .i64 0, .int .i64 0, .int .i64 0] 32))
  have HC0 := Lib.hid (Blk.new (w.alloc (.cells #[.int .i64 x, .int .i64 y, .int .i64 z] 32)) #[.int .i64 0, .int .i64 0, .int .i64 0] 32)
  have HK0 := Lib.hid (((Kp.refl a w).put (.cells #[.int .i64 x, .int .i64 y, .int .i64 z] 32)).put (.cells #[.int .i64 0, .int .i64 0, .int .i64 0] 32))
  have HR0 := Lib.hid (hr.kept (((Below.refl w.heap.size w).alloc (Nat.le_refl _) (.cells #[.int .i64 x, .int .i64 y, .int .i64 z] 32)).alloc (by simp) (.cells #[.int .i64 0, .int .i64 0, .int .i64 0] 32)))
  have hlt := hr.lt
  have hne : w.heap.size ≠ a := by omega
  have hne1 : w.heap.size + 1 ≠ a := by omega
  rw [show (w.alloc (.cells #[.int .i64 x, .int .i64 y, .int .i64 z] 32)).heap.size = w.heap.size + 1 by simp] at HC0
  clear hr
  go_enter Tryd.func48, Tryd.ntmps48
  go_wp2_with fail
  generalize (w.alloc (.cells #[.int .i64 x, .int .i64 y, .int .i64 z] 32)).alloc (.cells #[.int .i64 0, .int .i64 0, .int .i64 0] 32) = w0 at *
  refine (pick_any 24 HR0.out (by omega) (by omega) (by omega)).mono ?_
  rintro e w1 ⟨k, k0, k1, rfl, hr, hk⟩
  have HR1 := Lib.hid hr
  have HK1 := Lib.hid (HK0.out.trans hk)
  have HB1 := Lib.hid (HB0.out.kp hk hne)
  have HC1 := Lib.hid (HC0.out.kp hk hne1)
  clear hr hk
  by_cases e0 : k = 0
  · subst e0
    have HL := Lib.hid (Blk.new w1 #[.int .i64 (-1), .int .i64 3, .int .i64 9223372036854775807] 3)
    have hax := (Below.refl _ w1).alloc (Nat.le_refl _) (.cells #[.int .i64 (-1), .int .i64 3, .int .i64 9223372036854775807] 3)
    have HR1x := Lib.hid (HR1.out.kept hax)
    have HK1x := Lib.hid (HK1.out.next hax)
    have HB1x := Lib.hid (HB1.out.kept hax)
    have HC1x := Lib.hid (HC1.out.kept hax)
    have hneL : w1.heap.size ≠ a := by have := HR1.out.lt; omega
    clear hax
    go_wp2_with fail
    refine (num_any 3 3 (fun z => z = -1 ∨ z = 3 ∨ z = 9223372036854775807) HR1x.out (by omega) HL.out hneL (by omega) (by omega) (fun i hi => by
      have hi : i = 0 ∨ i = 1 ∨ i = 2 := by omega
      rcases hi with rfl | rfl | rfl <;> exact ⟨_, rfl, by simp⟩)).mono ?_
    rintro e w2 ⟨z0, hz, rfl, hr, hk⟩
    have HR2 := Lib.hid hr
    have HK2 := Lib.hid (HK1x.out.trans hk)
    have HB2 := Lib.hid (HB1x.out.kp hk hne)
    have HC2 := Lib.hid (HC1x.out.kp hk hne1)
    have HZ := Lib.hid hz
    clear hr hk hz
    obtain ⟨q0, q1, q2, f0, f1, f2⟩ := HB2.out.a3
    obtain ⟨r0, r1, r2, t0, t1, t2⟩ := HC2.out.a3
    go_wp2_with fail
    refine bodyPost_ret (v := .agg #[.int .i64 z0, .int .i64 y, .int .i64 z]) (by simp [results, Tryd.results48, go_sem, r0, r1, r2]) rfl ⟨z0, z, .inr HZ.out, .inl rfl, rfl, ⟨p + 2, by omega, ?_⟩, ?_⟩
    · exact HR2.out.keepB (B := w.heap.size) (by (repeat refine Below.setCell ?_ (by simp) _); exact Below.refl _ _) hlt
    · (repeat refine Kp.setNew ?_ (by simp) _)
      exact HK2.out
  · by_cases e1 : k = 1
    · subst e1
      have HL := Lib.hid (Blk.new w1 #[.int .i64 (-1), .int .i64 3] 3)
      have hax := (Below.refl _ w1).alloc (Nat.le_refl _) (.cells #[.int .i64 (-1), .int .i64 3] 3)
      have HR1x := Lib.hid (HR1.out.kept hax)
      have HK1x := Lib.hid (HK1.out.next hax)
      have HB1x := Lib.hid (HB1.out.kept hax)
      have HC1x := Lib.hid (HC1.out.kept hax)
      have hneL : w1.heap.size ≠ a := by have := HR1.out.lt; omega
      clear hax
      go_wp2_with fail
      refine (num_any 2 2 (fun z => z = -1 ∨ z = 3) HR1x.out (by omega) HL.out hneL (by omega) (by omega) (fun i hi => by
        have hi : i = 0 ∨ i = 1 := by omega
        rcases hi with rfl | rfl <;> exact ⟨_, rfl, by simp⟩)).mono ?_
      rintro e w2 ⟨z0, hz, rfl, hr, hk⟩
      have HR2 := Lib.hid hr
      have HK2 := Lib.hid (HK1x.out.trans hk)
      have HB2 := Lib.hid (HB1x.out.kp hk hne)
      have HC2 := Lib.hid (HC1x.out.kp hk hne1)
      have HZ := Lib.hid hz
      clear hr hk hz
      obtain ⟨q0, q1, q2, f0, f1, f2⟩ := HB2.out.a3
      obtain ⟨r0, r1, r2, t0, t1, t2⟩ := HC2.out.a3
      go_wp2_with fail
      refine bodyPost_ret (v := .agg #[.int .i64 x, .int .i64 y, .int .i64 z0]) (by simp [results, Tryd.results48, go_sem, r0, r1, r2]) rfl ⟨x, z0, .inl rfl, .inr HZ.out, rfl, ⟨p + 2, by omega, ?_⟩, ?_⟩
      · exact HR2.out.keepB (B := w.heap.size) (by (repeat refine Below.setCell ?_ (by simp) _); exact Below.refl _ _) hlt
      · (repeat refine Kp.setNew ?_ (by simp) _)
        exact HK2.out
    · have g0 : (k == 0) = false := by rw [beq_eq_false_iff_ne]; exact e0
      have g1 : (k == 1) = false := by rw [beq_eq_false_iff_ne]; exact e1
      clear e0 e1
      obtain ⟨q0, q1, q2, f0, f1, f2⟩ := HB1.out.a3
      obtain ⟨r0, r1, r2, t0, t1, t2⟩ := HC1.out.a3
      go_wp2_with fail
      refine bodyPost_ret (v := .agg #[.int .i64 x, .int .i64 y, .int .i64 z]) (by simp [results, Tryd.results48, go_sem, r0, r1, r2]) rfl ⟨x, z, .inl rfl, .inl rfl, rfl, ⟨p + 1, by omega, ?_⟩, ?_⟩
      · exact HR1.out.keepB (B := w.heap.size) (by (repeat refine Below.setCell ?_ (by simp) _); exact Below.refl _ _) hlt
      · (repeat refine Kp.setNew ?_ (by simp) _)
        exact HK1.out

end Go.Proofs.YtheclmdpiijakaaDoor

namespace Go.Proofs.YtheclmdpiijakaaDoor
open Go.RowKit

set_option maxHeartbeats 4000000 in
theorem drawWV {a : Option Addr} {len cap : Nat} {zs : List Int} {w : World} (h : IsRow w a len cap zs) :
    Calls Tryd.prog 32 #[.slice a len cap] w fun e w' => ∃ t : ByteArray, t.size ≤ 40 ∧ e = .returned (.string t) ∧ Below w.heap.size w w' := by
  have HO := Lib.hid (open_any h)
  clear h
  go_enter Tryd.func32, Tryd.ntmps32
  go_wp2_with fail
  refine HO.out.mono ?_
  rintro e w1 ⟨rfl, hr, hb⟩
  have HW1 := Lib.hid hb
  have HC := Lib.hid (wT_2 ⟨#[120, 121, 122, 88, 89, 90]⟩ (by decide) (by decide) nmw_six hr (by omega))
  clear hr hb
  go_wp2_with fail
  refine HC.out.mono ?_
  rintro e w2 ⟨t, q, t1, t2, hq, hv, rfl, hr, hk⟩
  have HW2 := Lib.hid (HW1.out.trans (hk.below (Nat.le_refl _) HW1.out.size))
  have HC := Lib.hid (bad_any t t1 (by omega) hr (by omega))
  clear hr hk hv
  go_wp2_with fail
  refine HC.out.mono ?_
  rintro e w3 ⟨x, q', x1, x2, hq', rfl, hr, hk⟩
  have HW3 := Lib.hid (HW2.out.trans (hk.below (Nat.le_refl _) HW2.out.size))
  clear hr hk
  go_wp2_with fail
  go_ret
  exact ⟨x, by omega, rfl, HW3.out⟩

set_option maxHeartbeats 4000000 in
theorem dRelOf {a : Option Addr} {len cap : Nat} {zs : List Int} {w : World} (h : IsRow w a len cap zs) :
    Calls Tryd.prog 8 #[.slice a len cap] w fun e w' => ∃ t : ByteArray, t.size ≤ 40 ∧ e = .returned (.string t) ∧ Below w.heap.size w w' := by
  have HC := Lib.hid (drawWV h)
  clear h
  go_enter Tryd.func8, Tryd.ntmps8
  go_wp2_with fail
  refine HC.out.mono ?_
  rintro e w1 ⟨t, ht, rfl, hb⟩
  have HB := Lib.hid hb
  clear hb
  go_wp2_with fail
  go_ret
  exact ⟨t, ht, rfl, HB.out⟩

theorem isRow_kept {w w' : World} {a : Option Addr} {len cap : Nat} {zs : List Int} (h : IsRow w a len cap zs) (hb : Below w.heap.size w w') : IsRow w' a len cap zs := by
  rcases h with h | ⟨x, rfl, hl, hm, hz, hc, hw⟩
  · exact .inl h
  · exact .inr ⟨x, rfl, hl, hm, hz, fun i hi => by
      have h1 := hc i hi
      have hlt := World.block_lt_of_cell? w _ h1
      exact (hb.cell hlt).trans h1, hw⟩
set_option maxRecDepth 100000 in
set_option maxHeartbeats 8000000 in
theorem dEvalWide {a : Option Addr} {len cap : Nat} {zs : List Int} {w : World} (h : IsRow w a len cap zs) :
    Calls Tryd.prog 17 #[.slice a len cap] w fun e w' => ∃ (t : ByteArray) (x y z X Y Z : Int), t.size ≤ 40 ∧ e = .returned (.tuple #[.string t, .agg #[.int .i64 x, .int .i64 y, .int .i64 z], .agg #[.int .i64 X, .int .i64 Y, .int .i64 Z]]) ∧ Below w.heap.size w w' := by
  have hax := ((Below.refl _ w).alloc (Nat.le_refl _) (.cells #[.int .i64 0, .int .i64 0, .int .i64 0] 32)).alloc (by simp) (.cells #[.int .i64 0, .int .i64 0, .int .i64 0] 32)
  have HO := Lib.hid (open_any (isRow_kept h hax))
  have HW0 := Lib.hid hax
  have HB0 := Lib.hid ((Blk.new w #[.int .i64 0, .int .i64 0, .int .i64 0] 32).alloc (.cells #[.int .i64 0, .int .i64 0, .int .i64 0] 32))
  have hc0 := Blk.new (w.alloc (.cells #[.int .i64 0, .int .i64 0, .int .i64 0] 32)) #[.int .i64 0, .int .i64 0, .int .i64 0] 32
  rw [World.size_alloc] at hc0
  have HC0 := Lib.hid hc0
  clear h hax hc0
  go_enter Tryd.func17, Tryd.ntmps17
  go_wp2_with fail
  generalize (w.alloc (.cells #[.int .i64 0, .int .i64 0, .int .i64 0] 32)).alloc (.cells #[.int .i64 0, .int .i64 0, .int .i64 0] 32) = w0 at *
  refine HO.out.mono ?_
  rintro e w1 ⟨rfl, hr, hb⟩
  have hlt0 : w.heap.size + 1 < w0.heap.size := HC0.out.lt
  have hne : w.heap.size ≠ w0.heap.size := by omega
  have hnf : w.heap.size + 1 ≠ w0.heap.size := by omega
  have HB1 := Lib.hid (HB0.out.kept hb)
  have HC1 := Lib.hid (HC0.out.kept hb)
  have HW1 := Lib.hid (bnext HW0.out hb)
  have HR1 := Lib.hid hr
  clear hr hb HO HB0 HC0
  go_wp2_with fail
  refine (wT_2 ⟨#[120, 121, 122, 88, 89, 90]⟩ (by decide) (by decide) nmw_six HR1.out (by omega)).mono ?_
  rintro e w2 ⟨t, q, t1, t2, hq, hv, rfl, hr, hk⟩
  have hsz1 := HR1.out.lt
  have HB2 := Lib.hid (HB1.out.kp hk hne)
  have HC2 := Lib.hid (HC1.out.kp hk hnf)
  have HW2 := Lib.hid (HW1.out.trans (hk.below (by omega) (by omega)))
  have HR2 := Lib.hid hr
  clear hr hk hv HB1 HC1
  go_wp2_with fail
  refine (bad_any t t1 (by omega) HR2.out (by omega)).mono ?_
  rintro e w3 ⟨s, q', x1, x2, hq', rfl, hr, hk⟩
  have hsz2 := HR2.out.lt
  have HB3 := Lib.hid (HB2.out.kp hk hne)
  have HC3 := Lib.hid (HC2.out.kp hk hnf)
  have HW3 := Lib.hid (HW2.out.trans (hk.below (by omega) (by omega)))
  have HR3 := Lib.hid hr
  clear hr hk HB2 HC2
  go_wp2_with fail
  refine (spot_any HR3.out (by omega)).mono ?_
  rintro e w4 ⟨x, y, z, _, _, _, rfl, hr, hk⟩
  have hsz3 := HR3.out.lt
  have HB4 := Lib.hid (HB3.out.kp hk hne)
  have HC4 := Lib.hid (HC3.out.kp hk hnf)
  have HW4 := Lib.hid (HW3.out.trans (hk.below (by omega) (by omega)))
  have HR4 := Lib.hid hr
  clear hr hk HB3 HC3
  go_wp2_with fail
  refine (badSpot_any HR4.out (by omega)).mono ?_
  rintro e w5 ⟨x', z', _, _, rfl, ⟨p', hp', hr⟩, hk⟩
  have hsz4 := HR4.out.lt
  have hbx : Below w5.heap.size w5 (w5.alloc (.cells #[.int .i64 x', .int .i64 y, .int .i64 z'] 32)) := (Below.refl _ w5).alloc (Nat.le_refl _) _
  have HW5a := Lib.hid (HW4.out.trans (hk.below (by omega) (by omega)))
  have HB5 := Lib.hid ((HB4.out.kp hk hne).kept hbx)
  have HC5 := Lib.hid ((HC4.out.kp hk hnf).kept hbx)
  have HW5 := Lib.hid (bnext HW5a.out hbx)
  have HR5 := Lib.hid (hr.kept hbx)
  have HS5 := Lib.hid (Blk.new w5 #[.int .i64 x', .int .i64 y, .int .i64 z'] 32)
  have hltr := hr.lt
  have hnes : w5.heap.size ≠ w0.heap.size := by omega
  have hp2 : p' ≤ 200 := by omega
  clear hr hk hbx HB4 HC4
  go_wp2_with fail
  generalize w5.alloc (.cells #[.int .i64 x', .int .i64 y, .int .i64 z'] 32) = w6 at *
  have hd6 := (Below.refl w6.heap.size w6).drew
  have HR6 := Lib.hid (HR5.out.kept hd6)
  have HB6 := Lib.hid (HB5.out.kept hd6)
  have HC6 := Lib.hid (HC5.out.kept hd6)
  have HW6 := Lib.hid (bnext HW5.out hd6)
  have hS6 := HS5.out.kept hd6
  obtain ⟨s0, s1, s2⟩ := HS5.out.c3
  obtain ⟨d0, d1, d2⟩ := hS6.c3
  have HS6 := Lib.hid hS6
  have hlt6 := HR6.out.lt
  clear hd6 hS6 HB5 HC5 HS5
  go_region_with (first
    | (go_at_call 49; (with_reducible refine (spot_any HR6.out (by omega)).mono ?_); rintro e w7 ⟨X, Y, Z, _, _, _, rfl, hr, hk⟩; have HB7 := Lib.hid (HB6.out.kp hk hne); have HC7 := Lib.hid (HC6.out.kp hk hnf); have HS7 := Lib.hid (HS6.out.kp hk hnes); have HW7 := Lib.hid (HW6.out.trans (hk.below (by omega) (by omega))); have HR7 := Lib.hid hr; have hlt7 := HR7.out.lt;
       obtain ⟨g0, g1, g2⟩ := HS7.out.c3; clear hr hk)
    | (go_at_call 48; (with_reducible refine (badSpot_any HR7.out (by omega)).mono ?_); rintro e w8 ⟨X', Z', _, _, rfl, ⟨p3, hp3, hr⟩, hk⟩; have HB8 := Lib.hid (HB7.out.kp hk hne); have HC8 := Lib.hid (HC7.out.kp hk hnf); have HW8 := Lib.hid (HW7.out.trans (hk.below (by omega) (by omega)));
       obtain ⟨g0, g1, g2⟩ := (HS7.out.kp hk hnes).c3; obtain ⟨a0, a1, a2, f0, f1, f2⟩ := HB8.out.a3; obtain ⟨b0, b1, b2, e0, e1, e2⟩ := HC8.out.a3; clear hr hk))
  all_goals
    go_wp2_with fail
    exact bodyPost_ret (v := .tuple #[.string s, .agg #[.int .i64 x', .int .i64 y, .int .i64 z'], .agg #[.int .i64 X', .int .i64 Y, .int .i64 Z']]) (by simp [results, Tryd.results17, go_sem, a0, a1, a2, b0, b1, b2]) rfl ⟨s, x', y, z', X', Y, Z', by omega, rfl, by (repeat refine Below.setCell ?_ (by simp) _); exact HW8.out⟩
end Go.Proofs.YtheclmdpiijakaaDoor
