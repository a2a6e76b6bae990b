/-
  Drawing a state, a text and a number: l1Which, DrawSetVar.
-/
import Derived.Test.YtegbjnpnchidkaaDrawS
import Derived.Test.YtegbjnpnchidkaaDrawW
import Derived.Deep.RegionHeld3
namespace Go.Proofs.Ytegbjnpnchidkaa
open Go.RowKit

theorem IsRow.kept {w w' : World} {a : Option Addr} {len cap : Nat} {zs : List Int} (h : IsRow w a len cap zs) (hb : Below w.heap.size w w') : IsRow w' a len cap zs := by
  rcases h with h | ⟨x, rfl, hl, hm, hz, hc, hw⟩
  · exact .inl h
  · exact .inr ⟨x, rfl, hl, hm, hz, fun i hi => by
      have h1 := hc i hi
      have hlt := World.block_lt_of_cell? w _ h1
      exact (hb.cell hlt).trans h1, hw⟩

theorem keepS {w w1 : World} {b c : Nat} {v0 v1 v2 x y z : Value} (h : Below c w w1) (hne : ¬ b = c) (h0 : w1.cell? ⟨b, 0, none⟩ = some x) (h1 : w1.cell? ⟨b, 1, none⟩ = some y) (h2 : w1.cell? ⟨b, 2, none⟩ = some z) :
    Below c w (((w1.setCell ⟨c, 0, none⟩ v0).setCell ⟨c, 1, none⟩ v1).setCell ⟨c, 2, none⟩ v2) ∧
    (((w1.setCell ⟨c, 0, none⟩ v0).setCell ⟨c, 1, none⟩ v1).setCell ⟨c, 2, none⟩ v2).cell? ⟨b, 0, none⟩ = some x ∧
    (((w1.setCell ⟨c, 0, none⟩ v0).setCell ⟨c, 1, none⟩ v1).setCell ⟨c, 2, none⟩ v2).cell? ⟨b, 1, none⟩ = some y ∧
    (((w1.setCell ⟨c, 0, none⟩ v0).setCell ⟨c, 1, none⟩ v1).setCell ⟨c, 2, none⟩ v2).cell? ⟨b, 2, none⟩ = some z := by
  have hne2 : ¬ c = b := fun h => hne h.symm
  exact ⟨Below.setCell (Below.setCell (Below.setCell h (by simp) _) (by simp) _) (by simp) _, by simp [go_sem, h0], by simp [go_sem, h1], by simp [go_sem, h2]⟩

set_option maxHeartbeats 4000000 in
/-- A state, a text of at most two signs and a number are drawn. -/
theorem drawSVar {a : Option Addr} {len cap : Nat} {zs : List Int} {w : World} (h : IsRow w a len cap zs) :
    Calls Try.prog 36 #[.slice a len cap] w fun e w' => ∃ (x y z n : Int) (s : ByteArray), s.size ≤ 2 ∧ e = .returned (.tuple #[.agg #[.int .i64 x, .int .i64 y, .int .i64 z], .string s, .int .i64 n]) ∧ Below w.heap.size w w' := by
  have hax := (Below.refl _ w).alloc (Nat.le_refl _) (.cells #[.int .i64 0, .int .i64 0, .int .i64 0] 24)
  have HO := Lib.hid (open_any (h.kept hax))
  have HW0 := Lib.hid hax
  have HB0 := Lib.hid (Blk.new w #[.int .i64 0, .int .i64 0, .int .i64 0] 24)
  clear h hax
  go_enter Try.func36, Try.ntmps36
  go_wp2_with fail
  generalize w.alloc (.cells #[.int .i64 0, .int .i64 0, .int .i64 0] 24) = w0 at *
  refine HO.out.mono ?_
  rintro e w1 ⟨rfl, hr, hb⟩
  have hlt0 : w.heap.size < w0.heap.size := HB0.out.lt
  have hne : w.heap.size ≠ w0.heap.size := by omega
  have HB1 := Lib.hid (HB0.out.kept hb)
  have HW1 := Lib.hid (bnext HW0.out hb)
  have HR1 := Lib.hid hr
  clear hr hb
  go_wp2_with fail
  refine (spot_any HR1.out (by omega)).mono ?_
  rintro e w2 ⟨x, y, z, _, _, _, rfl, hr, hk⟩
  have hsz1 := HR1.out.lt
  have HB2 := Lib.hid (HB1.out.kp hk hne)
  have HW2 := Lib.hid (HW1.out.trans (hk.below (by omega) (by omega)))
  have HR2 := Lib.hid hr
  clear hr hk
  go_wp2_with fail
  refine (badSpot_any HR2.out (by omega)).mono ?_
  rintro e w3 ⟨x', z', _, _, rfl, ⟨p', hp', hr⟩, hk⟩
  have hsz2 := HR2.out.lt
  have hbx : Below w3.heap.size w3 (w3.alloc (.cells #[.int .i64 x', .int .i64 y, .int .i64 z'] 24)) := (Below.refl _ w3).alloc (Nat.le_refl _) _
  have HW3a := Lib.hid (HW2.out.trans (hk.below (by omega) (by omega)))
  have HB3 := Lib.hid ((HB2.out.kp hk hne).kept hbx)
  have HW3 := Lib.hid (bnext HW3a.out hbx)
  have HR3 := Lib.hid (hr.kept hbx)
  have HS3 := Lib.hid (Blk.new w3 #[.int .i64 x', .int .i64 y, .int .i64 z'] 24)
  have hltr := hr.lt
  have hnes : w3.heap.size ≠ w0.heap.size := by omega
  have hnbc : ¬ w3.heap.size = w.heap.size := by omega
  have hp2 : p' ≤ 5 := by omega
  clear hr hk hp' hbx
  go_wp2_with fail
  generalize w3.alloc (.cells #[.int .i64 x', .int .i64 y, .int .i64 z'] 24) = w4 at *
  refine (which_any HR3.out (by omega)).mono ?_
  rintro e w5 ⟨s, hs, rfl, hr, hk⟩
  have hsz3 := HR3.out.lt
  have HB5 := Lib.hid (HB3.out.kp hk hne)
  have HS5 := Lib.hid (HS3.out.kp hk hnes)
  have HW5 := Lib.hid (HW3.out.trans (hk.below (by omega) (by omega)))
  have HR5 := Lib.hid hr
  clear hr hk
  go_wp2_with fail
  refine (pick_any 12 HR5.out (by omega) (by omega) (by omega)).mono ?_
  rintro e w6 ⟨k, k0, k1, rfl, hr, hk⟩
  have hsz5 := HR5.out.lt
  have HB6 := Lib.hid (HB5.out.kp hk hne)
  have HS6 := Lib.hid (HS5.out.kp hk hnes)
  have HW6 := Lib.hid (HW5.out.trans (hk.below (by omega) (by omega)))
  have HR6 := Lib.hid hr
  clear hr hk
  by_cases e0 : k = 0
  · subst e0
    obtain ⟨q0, q1, q2, f0, f1, f2⟩ := HB6.out.a3
    obtain ⟨s0, s1, s2⟩ := HS6.out.c3
    have hbx := (Below.refl _ w6).alloc (Nat.le_refl _) (.cells #[.int .i64 (-1), .int .i64 3, .int .i64 9223372036854775807] 3)
    have hbx := hbx.drew
    have HL := Lib.hid (Blk.new w6 #[.int .i64 (-1), .int .i64 3, .int .i64 9223372036854775807] 3).drew
    have hbw := HW6.out.drew
    have hbw2 := bnext HW6.out hbx
    have HR6y := Lib.hid (HR6.out.kept hbx)
    have HB6y := Lib.hid (HB6.out.kept hbx)
    have HS6y := Lib.hid (HS6.out.kept hbx)
    have hneL : w6.heap.size ≠ w0.heap.size := by have := HR6.out.lt; omega
    have HQ : Hid (∀ i, i < 3 → ∃ s, (#[.int .i64 (-1), .int .i64 3, .int .i64 9223372036854775807] : Array Value)[i]? = some (.int .i64 s) ∧ True) := fun i hi => by
      have hi : i = 0 ∨ i = 1 ∨ i = 2 := by omega
      rcases hi with rfl | rfl | rfl <;> exact ⟨_, rfl, trivial⟩
    have C := Lib.hid (num_any 3 3 (fun _ => True) HR6y.out (by omega) HL.out hneL (by omega) (by omega) HQ.out)
    have hsx := hbw2.size
    obtain ⟨d0, d1, d2⟩ := (HS6.out.kept (Below.refl _ _).drew).c3
    obtain ⟨l0, l1, l2⟩ := HS6y.out.c3
    clear hbx
    go_wp2_with fail
    go_region_held3 (fun w' => Below w.heap.size w w' ∧ w'.cell? ⟨w3.heap.size, 0, none⟩ = some (.int .i64 x') ∧ w'.cell? ⟨w3.heap.size, 1, none⟩ = some (.int .i64 y) ∧ w'.cell? ⟨w3.heap.size, 2, none⟩ = some (.int .i64 z'))
      (first | assumption | exact ⟨by assumption, by assumption, by assumption, by assumption⟩ | (go_split_ands; assumption) | (go_split_ands; exact ⟨by assumption, by assumption, by assumption, by assumption⟩) | (go_split_ands; exact keepS (by assumption) hnbc (by assumption) (by assumption) (by assumption)))
      (first
        | (go_at_call 66; (with_reducible refine C.out.mono ?_); rintro e w7 ⟨n, _, rfl, hr, hk⟩; have hbw3 := hbw2.trans (hk.below (by omega) hsx); have hb7 := (HB6y.out.kp hk hne).a3; have hs7 := (HS6y.out.kp hk hnes).c3; obtain ⟨p0, p1, p2, g0, g1, g2⟩ := hb7; obtain ⟨t0, t1, t2⟩ := hs7))
    all_goals
      go_split_ands
      go_wp2_with fail
      exact bodyPost_ret (v := .tuple #[.agg #[.int .i64 x', .int .i64 y, .int .i64 z'], .string s, .int .i64 n]) (by simp [results, Try.results36, go_sem, p0, p1, p2]) rfl ⟨x', y, z', n, s, hs, rfl, by assumption⟩
  · have g0 : (k == 0) = false := by rw [beq_eq_false_iff_ne]; exact e0
    clear e0
    obtain ⟨q0, q1, q2, f0, f1, f2⟩ := HB6.out.a3
    obtain ⟨s0, s1, s2⟩ := HS6.out.c3
    have hbx := (Below.refl w6.heap.size w6).drew
    have hbw := HW6.out.drew
    have hbw2 := bnext HW6.out hbx
    have HR6y := Lib.hid (HR6.out.kept hbx)
    have HB6y := Lib.hid (HB6.out.kept hbx)
    have HS6y := Lib.hid (HS6.out.kept hbx)
    have C := Lib.hid (pick_any 3 HR6y.out (by omega) (by omega) (by omega))
    have hsx := hbw2.size
    obtain ⟨d0, d1, d2⟩ := (HS6.out.kept (Below.refl _ _).drew).c3
    obtain ⟨l0, l1, l2⟩ := HS6y.out.c3
    clear hbx
    go_wp2_with fail
    go_region_held3 (fun w' => Below w.heap.size w w' ∧ w'.cell? ⟨w3.heap.size, 0, none⟩ = some (.int .i64 x') ∧ w'.cell? ⟨w3.heap.size, 1, none⟩ = some (.int .i64 y) ∧ w'.cell? ⟨w3.heap.size, 2, none⟩ = some (.int .i64 z'))
      (first | assumption | exact ⟨by assumption, by assumption, by assumption, by assumption⟩ | (go_split_ands; assumption) | (go_split_ands; exact ⟨by assumption, by assumption, by assumption, by assumption⟩) | (go_split_ands; exact keepS (by assumption) hnbc (by assumption) (by assumption) (by assumption)))
      (first
        | (go_at_call 57; (with_reducible refine C.out.mono ?_); rintro e w7 ⟨n, _, _, rfl, hr, hk⟩; have hbw3 := hbw2.trans (hk.below (by omega) hsx); have hb7 := (HB6y.out.kp hk hne).a3; have hs7 := (HS6y.out.kp hk hnes).c3; obtain ⟨p0, p1, p2, g0, g1, g2⟩ := hb7; obtain ⟨t0, t1, t2⟩ := hs7))
    all_goals
      go_split_ands
      go_wp2_with fail
      exact bodyPost_ret (v := .tuple #[.agg #[.int .i64 x', .int .i64 y, .int .i64 z'], .string s, .int .i64 n]) (by simp [results, Try.results36, go_sem, p0, p1, p2]) rfl ⟨x', y, z', n, s, hs, rfl, by assumption⟩
end Go.Proofs.Ytegbjnpnchidkaa
