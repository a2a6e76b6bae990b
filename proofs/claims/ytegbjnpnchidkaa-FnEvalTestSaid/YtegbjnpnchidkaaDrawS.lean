/-
  Drawing a state: l1Spot, l1BadSpot, DrawStateValid, DrawStateIndex.
-/
import Derived.Test.YtegbjnpnchidkaaDraw
namespace Go.Proofs.Ytegbjnpnchidkaa
open Go.RowKit

set_option maxHeartbeats 2000000 in
theorem spot_any {a p : Nat} {w : World} (hr : Rd a p w) (hp : p ≤ 900000) :
    Calls Try.prog 42 #[.pointer (some ⟨a, 0, none⟩)] w fun e w' => ∃ x y z : Int, (0 ≤ x ∧ x < 3) ∧ (0 ≤ y ∧ y < 3) ∧ (0 ≤ z ∧ z < 3) ∧ e = .returned (.agg #[.int .i64 x, .int .i64 y, .int .i64 z]) ∧ Rd a (p + 3) w' ∧ Kp a w w' := by
  have HR0 := Lib.hid (hr.kept ((Below.refl _ w).alloc (Nat.le_refl _) (.cells #[.int .i64 0, .int .i64 0, .int .i64 0] 24)))
  have HK0 := Lib.hid ((Kp.refl a w).put (.cells #[.int .i64 0, .int .i64 0, .int .i64 0] 24))
  have HB0 := Lib.hid (Blk.new w #[.int .i64 0, .int .i64 0, .int .i64 0] 24)
  have hlt := hr.lt
  have hne : w.heap.size ≠ a := by omega
  clear hr
  go_enter Try.func42, Try.ntmps42
  go_wp2_with fail
  refine (pick_any 3 HR0.out (by omega) (by omega) (by omega)).mono ?_
  rintro e w1 ⟨x, x0, x1, rfl, hr, hk⟩
  have HR1 := Lib.hid hr
  have HK1 := Lib.hid (HK0.out.trans hk)
  have HB1 := Lib.hid (HB0.out.kp hk hne)
  clear hr hk
  go_wp2_with fail
  refine (pick_any 3 HR1.out (by omega) (by omega) (by omega)).mono ?_
  rintro e w2 ⟨y, y0, y1, rfl, hr, hk⟩
  have HR2 := Lib.hid hr
  have HK2 := Lib.hid (HK1.out.trans hk)
  have HB2 := Lib.hid (HB1.out.kp hk hne)
  clear hr hk
  go_wp2_with fail
  refine (pick_any 3 HR2.out (by omega) (by omega) (by omega)).mono ?_
  rintro e w3 ⟨z, z0, z1, rfl, hr, hk⟩
  have HR3 := Lib.hid hr
  have HK3 := Lib.hid (HK2.out.trans hk)
  have HB3 := Lib.hid (HB2.out.kp hk hne)
  clear hr hk
  obtain ⟨q0, q1, q2, f0, f1, f2⟩ := HB3.out.a3
  go_wp2_with fail
  refine bodyPost_ret (v := .agg #[.int .i64 x, .int .i64 y, .int .i64 z]) (by simp [results, Try.results42, go_sem, q0, q1, q2]) rfl ⟨x, y, z, ⟨x0, x1⟩, ⟨y0, y1⟩, ⟨z0, z1⟩, rfl, ?_, ?_⟩
  · exact HR3.out.keepB (B := w.heap.size) (by (repeat refine Below.setCell ?_ (by simp) _); exact Below.refl _ _) hlt
  · (repeat refine Kp.setNew ?_ (by simp) _)
    exact HK3.out

set_option maxRecDepth 100000 in
set_option maxHeartbeats 4000000 in
theorem badSpot_any {a p : Nat} {x y z : Int} {w : World} (hr : Rd a p w) (hp : p ≤ 900000) :
    Calls Try.prog 41 #[.pointer (some ⟨a, 0, none⟩), .agg #[.int .i64 x, .int .i64 y, .int .i64 z]] w fun e w' => ∃ x' z' : Int, (x' = x ∨ x' = -1 ∨ x' = 3 ∨ x' = 9223372036854775807) ∧ (z' = z ∨ z' = -1 ∨ z' = 3) ∧ e = .returned (.agg #[.int .i64 x', .int .i64 y, .int .i64 z']) ∧ (∃ p', p' ≤ p + 2 ∧ Rd a p' w') ∧ Kp a w w' := by
  have HB0 := Lib.hid ((Blk.new w #[.int .i64 x, .int .i64 y, .int .i64 z] 24).alloc (.cells #[.int .i64 0, .int .i64 0, .int .i64 0] 24))
  have HC0 := Lib.hid (Blk.new (w.alloc (.cells #[.int .i64 x, .int .i64 y, .int .i64 z] 24)) #[.int .i64 0, .int .i64 0, .int .i64 0] 24)
  have HK0 := Lib.hid (((Kp.refl a w).put (.cells #[.int .i64 x, .int .i64 y, .int .i64 z] 24)).put (.cells #[.int .i64 0, .int .i64 0, .int .i64 0] 24))
  have HR0 := Lib.hid (hr.kept (((Below.refl w.heap.size w).alloc (Nat.le_refl _) (.cells #[.int .i64 x, .int .i64 y, .int .i64 z] 24)).alloc (by simp) (.cells #[.int .i64 0, .int .i64 0, .int .i64 0] 24)))
  have hlt := hr.lt
  have hne : w.heap.size ≠ a := by omega
  have hne1 : w.heap.size + 1 ≠ a := by omega
  rw [show (w.alloc (.cells #[.int .i64 x, .int .i64 y, .int .i64 z] 24)).heap.size = w.heap.size + 1 by simp] at HC0
  clear hr
  go_enter Try.func41, Try.ntmps41
  go_wp2_with fail
  generalize (w.alloc (.cells #[.int .i64 x, .int .i64 y, .int .i64 z] 24)).alloc (.cells #[.int .i64 0, .int .i64 0, .int .i64 0] 24) = w0 at *
  refine (pick_any 24 HR0.out (by omega) (by omega) (by omega)).mono ?_
  rintro e w1 ⟨k, k0, k1, rfl, hr, hk⟩
  have HR1 := Lib.hid hr
  have HK1 := Lib.hid (HK0.out.trans hk)
  have HB1 := Lib.hid (HB0.out.kp hk hne)
  have HC1 := Lib.hid (HC0.out.kp hk hne1)
  clear hr hk
  by_cases e0 : k = 0
  · subst e0
    have HL := Lib.hid (Blk.new w1 #[.int .i64 (-1), .int .i64 3, .int .i64 9223372036854775807] 3)
    have hax := (Below.refl _ w1).alloc (Nat.le_refl _) (.cells #[.int .i64 (-1), .int .i64 3, .int .i64 9223372036854775807] 3)
    have HR1x := Lib.hid (HR1.out.kept hax)
    have HK1x := Lib.hid (HK1.out.next hax)
    have HB1x := Lib.hid (HB1.out.kept hax)
    have HC1x := Lib.hid (HC1.out.kept hax)
    have hneL : w1.heap.size ≠ a := by have := HR1.out.lt; omega
    clear hax
    go_wp2_with fail
    refine (num_any 3 3 (fun z => z = -1 ∨ z = 3 ∨ z = 9223372036854775807) HR1x.out (by omega) HL.out hneL (by omega) (by omega) (fun i hi => by
      have hi : i = 0 ∨ i = 1 ∨ i = 2 := by omega
      rcases hi with rfl | rfl | rfl <;> exact ⟨_, rfl, by simp⟩)).mono ?_
    rintro e w2 ⟨z0, hz, rfl, hr, hk⟩
    have HR2 := Lib.hid hr
    have HK2 := Lib.hid (HK1x.out.trans hk)
    have HB2 := Lib.hid (HB1x.out.kp hk hne)
    have HC2 := Lib.hid (HC1x.out.kp hk hne1)
    have HZ := Lib.hid hz
    clear hr hk hz
    obtain ⟨q0, q1, q2, f0, f1, f2⟩ := HB2.out.a3
    obtain ⟨r0, r1, r2, t0, t1, t2⟩ := HC2.out.a3
    go_wp2_with fail
    refine bodyPost_ret (v := .agg #[.int .i64 z0, .int .i64 y, .int .i64 z]) (by simp [results, Try.results41, go_sem, r0, r1, r2]) rfl ⟨z0, z, .inr HZ.out, .inl rfl, rfl, ⟨p + 2, by omega, ?_⟩, ?_⟩
    · exact HR2.out.keepB (B := w.heap.size) (by (repeat refine Below.setCell ?_ (by simp) _); exact Below.refl _ _) hlt
    · (repeat refine Kp.setNew ?_ (by simp) _)
      exact HK2.out
  · by_cases e1 : k = 1
    · subst e1
      have HL := Lib.hid (Blk.new w1 #[.int .i64 (-1), .int .i64 3] 3)
      have hax := (Below.refl _ w1).alloc (Nat.le_refl _) (.cells #[.int .i64 (-1), .int .i64 3] 3)
      have HR1x := Lib.hid (HR1.out.kept hax)
      have HK1x := Lib.hid (HK1.out.next hax)
      have HB1x := Lib.hid (HB1.out.kept hax)
      have HC1x := Lib.hid (HC1.out.kept hax)
      have hneL : w1.heap.size ≠ a := by have := HR1.out.lt; omega
      clear hax
      go_wp2_with fail
      refine (num_any 2 2 (fun z => z = -1 ∨ z = 3) HR1x.out (by omega) HL.out hneL (by omega) (by omega) (fun i hi => by
        have hi : i = 0 ∨ i = 1 := by omega
        rcases hi with rfl | rfl <;> exact ⟨_, rfl, by simp⟩)).mono ?_
      rintro e w2 ⟨z0, hz, rfl, hr, hk⟩
      have HR2 := Lib.hid hr
      have HK2 := Lib.hid (HK1x.out.trans hk)
      have HB2 := Lib.hid (HB1x.out.kp hk hne)
      have HC2 := Lib.hid (HC1x.out.kp hk hne1)
      have HZ := Lib.hid hz
      clear hr hk hz
      obtain ⟨q0, q1, q2, f0, f1, f2⟩ := HB2.out.a3
      obtain ⟨r0, r1, r2, t0, t1, t2⟩ := HC2.out.a3
      go_wp2_with fail
      refine bodyPost_ret (v := .agg #[.int .i64 x, .int .i64 y, .int .i64 z0]) (by simp [results, Try.results41, go_sem, r0, r1, r2]) rfl ⟨x, z0, .inl rfl, .inr HZ.out, rfl, ⟨p + 2, by omega, ?_⟩, ?_⟩
      · exact HR2.out.keepB (B := w.heap.size) (by (repeat refine Below.setCell ?_ (by simp) _); exact Below.refl _ _) hlt
      · (repeat refine Kp.setNew ?_ (by simp) _)
        exact HK2.out
    · have g0 : (k == 0) = false := by rw [beq_eq_false_iff_ne]; exact e0
      have g1 : (k == 1) = false := by rw [beq_eq_false_iff_ne]; exact e1
      clear e0 e1
      obtain ⟨q0, q1, q2, f0, f1, f2⟩ := HB1.out.a3
      obtain ⟨r0, r1, r2, t0, t1, t2⟩ := HC1.out.a3
      go_wp2_with fail
      refine bodyPost_ret (v := .agg #[.int .i64 x, .int .i64 y, .int .i64 z]) (by simp [results, Try.results41, go_sem, r0, r1, r2]) rfl ⟨x, z, .inl rfl, .inl rfl, rfl, ⟨p + 1, by omega, ?_⟩, ?_⟩
      · exact HR1.out.keepB (B := w.heap.size) (by (repeat refine Below.setCell ?_ (by simp) _); exact Below.refl _ _) hlt
      · (repeat refine Kp.setNew ?_ (by simp) _)
        exact HK1.out

end Go.Proofs.Ytegbjnpnchidkaa
