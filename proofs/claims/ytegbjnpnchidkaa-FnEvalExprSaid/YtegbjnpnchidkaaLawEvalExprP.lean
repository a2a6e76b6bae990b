/-
  The law of values of expressions is true at all bytes: no condition.
-/
import Derived.Test.YtegbjnpnchidkaaRows
import Derived.Test.YtegbjnpnchidkaaDrawB
import Derived.Deep.RegionHeld3
import Derived.Test.YtegbjnpnchidkaaVars
import Derived.Test.YtegbjnpnchidkaaPpV
import Derived.Test.YtegbjnpnchidkaaFree
import Derived.Test.YtegbjnpnchidkaaDrawV
import Derived.Test.YtegbjnpnchidkaaGetV
import Derived.Test.YtegbjnpnchidkaaHas
import Derived.Test.YtegbjnpnchidkaaEvalT
import Derived.Test.YtegbjnpnchidkaaSetV
import Derived.ProofKit
import Derived.OpenShut
import Derived.ShutString
import Derived.ChangeOld
namespace Go.Proofs.Ytegbjnpnchidkaa
open Go.ChangeShapes Go.WideShapes Go.ChangeAt Go.RowKit
open Go.ChangeMaps (open_string shut_string)

theorem Try.own : ownKnob Try.prog.godebug = none := by kernel_rfl
theorem laidOut : laidOutB Try.prog = true := by kernel_rfl

set_option maxRecDepth 100000 in
set_option maxHeartbeats 4000000 in
theorem drawEE {a : Option Addr} {len cap : Nat} {zs : List Int} {w : World} (h : IsRow w a len cap zs) :
    Calls Try.prog 8 #[.slice a len cap] w fun e w' => ∃ (t : ByteArray) (x y z : Int), t.size ≤ 40 ∧ e = .returned (.tuple #[.string t, .agg #[.int .i64 x, .int .i64 y, .int .i64 z]]) ∧ Below w.heap.size w w' := by
  have hax := (Below.refl _ w).alloc (Nat.le_refl _) (.cells #[.int .i64 0, .int .i64 0, .int .i64 0] 24)
  have HO := Lib.hid (open_any (h.kept hax))
  have HW0 := Lib.hid hax
  have HB0 := Lib.hid (Blk.new w #[.int .i64 0, .int .i64 0, .int .i64 0] 24)
  clear h hax
  go_enter Try.func8, Try.ntmps8
  go_wp2_with fail
  generalize w.alloc (.cells #[.int .i64 0, .int .i64 0, .int .i64 0] 24) = w0 at *
  refine HO.out.mono ?_
  rintro e w1 ⟨rfl, hr, hb⟩
  have hlt0 : w.heap.size < w0.heap.size := HB0.out.lt
  have hne : w.heap.size ≠ w0.heap.size := by omega
  have hsz1 := hr.lt
  have HB1 := Lib.hid (HB0.out.kept hb)
  have HW1 := Lib.hid (bnext HW0.out hb)
  have HC := Lib.hid (dE_3 (bs [120, 121, 122]) (by decide) (by decide) hr (by omega))
  clear hr hb
  go_wp2_with fail
  refine HC.out.mono ?_
  rintro e w2 ⟨t, q, t1, t2, hq, rfl, hr, hk⟩
  have hsz2 := hr.lt
  have HB2 := Lib.hid (HB1.out.kp hk hne)
  have HW2 := Lib.hid (HW1.out.trans (hk.below (by omega) (by omega)))
  have HC := Lib.hid (bad_any t t1 (by omega) hr (by omega))
  clear hr hk
  go_wp2_with fail
  refine HC.out.mono ?_
  rintro e w3 ⟨u, q', u1, u2, hq', rfl, hr, hk⟩
  have hsz3 := hr.lt
  have HB3 := Lib.hid (HB2.out.kp hk hne)
  have HW3 := Lib.hid (HW2.out.trans (hk.below (by omega) (by omega)))
  have HC := Lib.hid (spot_any hr (by omega))
  clear hr hk
  go_wp2_with fail
  refine HC.out.mono ?_
  rintro e w4 ⟨x, y, z, _, _, _, rfl, hr, hk⟩
  have hsz4 := hr.lt
  have HB4 := Lib.hid (HB3.out.kp hk hne)
  have HW4 := Lib.hid (HW3.out.trans (hk.below (by omega) (by omega)))
  have HC := Lib.hid (badSpot_any (x := x) (y := y) (z := z) hr (by omega))
  clear hr hk
  go_wp2_with fail
  refine HC.out.mono ?_
  rintro e w5 ⟨x', z', _, _, rfl, ⟨p', hp', hr⟩, hk⟩
  have hsz5 := hr.lt
  have HB5 := Lib.hid (HB4.out.kp hk hne)
  have HW5 := Lib.hid (HW4.out.trans (hk.below (by omega) (by omega)))
  clear hr hk
  obtain ⟨q0, q1, q2, f0, f1, f2⟩ := HB5.out.a3
  go_wp2_with fail
  exact bodyPost_ret (v := .tuple #[.string u, .agg #[.int .i64 x', .int .i64 y, .int .i64 z']]) (by simp [results, Try.results8, go_sem, q0, q1, q2]) rfl ⟨u, x', y, z', by omega, rfl, Below.setCell (Below.setCell (Below.setCell HW5.out (by simp) _) (by simp) _) (by simp) _⟩

theorem ev_round {t : ByteArray} {tm : Tm} (ht : Ok false false tm) (hs : t.data.toList = tm.ser) (hsz : t.size ≤ 200) (x y z : Int) (hst : st3 x y z = true) (k : Nat) (hk : k < 3) :
    ∃ (c : UInt8) (m p q r : Int) (h : Bool), (⟨#[120, 121, 122]⟩ : ByteArray).extract k (k + 1) = ⟨#[c]⟩ ∧ 0 ≤ m ∧ m ≤ 2 ∧
      (∀ w, Hid (Calls Try.prog 15 #[.agg #[.int .i64 x, .int .i64 y, .int .i64 z], .string ⟨#[c]⟩] w fun e w' => e = .returned (.int .i64 m) ∧ Below w.heap.size w w')) ∧
      (∀ w, Hid (Calls Try.prog 14 #[.agg #[.int .i64 x, .int .i64 y, .int .i64 z], .string ⟨#[c]⟩, .int .i64 ((m + 1).tmod 3)] w fun e w' => e = .returned (.tuple #[.agg #[.int .i64 p, .int .i64 q, .int .i64 r], .bool true]) ∧ Below w.heap.size w w')) ∧
      (∀ w, Hid (Calls Try.prog 16 #[.string (bs (vlist [120, 121, 122] tm.ser)), .string ⟨#[c]⟩] w fun e w' => e = .returned (.bool h) ∧ w = w')) ∧
      (h = false → ∀ w, Hid (Calls Try.prog 17 #[.string t, .agg #[.int .i64 p, .int .i64 q, .int .i64 r]] w fun e w' => e = .returned (.int .i64 (val (one x y z) tm)) ∧ Below w.heap.size w w')) := by
  have hb : (0 ≤ one x y z 0 ∧ one x y z 0 ≤ 2) ∧ (0 ≤ one x y z 1 ∧ one x y z 1 ≤ 2) ∧ (0 ≤ one x y z 2 ∧ one x y z 2 ≤ 2) := ⟨one_bd hst 0, one_bd hst 1, one_bd hst 2⟩
  rcases (show k = 0 ∨ k = 1 ∨ k = 2 by omega) with rfl | rfl | rfl
  · have hn : val3 ((one x y z 0 + 1).tmod 3) = true := by rw [Int.tmod_eq_emod_of_nonneg (by omega)]; unfold val3; simp; omega
    have hst2 : st3 ((one x y z 0 + 1).tmod 3) y z = true := by unfold st3 at hst ⊢; simp only [Bool.and_eq_true] at hst ⊢; exact ⟨⟨hn, hst.1.2⟩, hst.2⟩
    refine ⟨120, one x y z 0, ((one x y z 0 + 1).tmod 3), y, z, decide (120 ∈ (bs (vlist [120, 121, 122] tm.ser)).data.toList), by decide +kernel, hb.1.1, hb.1.2, fun w => getVar 120 0 x y z w (by simp) hst, fun w => implSet_x x y z ((one x y z 0 + 1).tmod 3) w hst hn, fun w => has_any _ 120 w (Nat.le_trans (vlist_size _) (by decide)), fun h w => ?_⟩
    refine ppValue_of t ((one x y z 0 + 1).tmod 3) y z _ true (fun w => ?_) w
    have e := implEvalE_yes t ((one x y z 0 + 1).tmod 3) y z w ht hs hsz hst2
    rwa [show val (one ((one x y z 0 + 1).tmod 3) y z) tm = val (one x y z) tm from val_free tm ht fun c j hc hm => ?_] at e
    have hne : c ≠ 120 := by
      rintro rfl
      rw [decide_eq_false_iff_not, show (bs (vlist [120, 121, 122] tm.ser)).data.toList = vlist [120, 121, 122] tm.ser by simp [bs], vlist_in _ _ (by simp)] at h
      exact h hm
    rcases hc with ⟨rfl, rfl⟩ | ⟨rfl, rfl⟩ | ⟨rfl, rfl⟩ <;> first | rfl | exact absurd rfl hne
  · have hn : val3 ((one x y z 1 + 1).tmod 3) = true := by rw [Int.tmod_eq_emod_of_nonneg (by omega)]; unfold val3; simp; omega
    have hst2 : st3 x ((one x y z 1 + 1).tmod 3) z = true := by unfold st3 at hst ⊢; simp only [Bool.and_eq_true] at hst ⊢; exact ⟨⟨hst.1.1, hn⟩, hst.2⟩
    refine ⟨121, one x y z 1, x, ((one x y z 1 + 1).tmod 3), z, decide (121 ∈ (bs (vlist [120, 121, 122] tm.ser)).data.toList), by decide +kernel, hb.2.1.1, hb.2.1.2, fun w => getVar 121 1 x y z w (by simp) hst, fun w => implSet_y x y z ((one x y z 1 + 1).tmod 3) w hst hn, fun w => has_any _ 121 w (Nat.le_trans (vlist_size _) (by decide)), fun h w => ?_⟩
    refine ppValue_of t x ((one x y z 1 + 1).tmod 3) z _ true (fun w => ?_) w
    have e := implEvalE_yes t x ((one x y z 1 + 1).tmod 3) z w ht hs hsz hst2
    rwa [show val (one x ((one x y z 1 + 1).tmod 3) z) tm = val (one x y z) tm from val_free tm ht fun c j hc hm => ?_] at e
    have hne : c ≠ 121 := by
      rintro rfl
      rw [decide_eq_false_iff_not, show (bs (vlist [120, 121, 122] tm.ser)).data.toList = vlist [120, 121, 122] tm.ser by simp [bs], vlist_in _ _ (by simp)] at h
      exact h hm
    rcases hc with ⟨rfl, rfl⟩ | ⟨rfl, rfl⟩ | ⟨rfl, rfl⟩ <;> first | rfl | exact absurd rfl hne
  · have hn : val3 ((one x y z 2 + 1).tmod 3) = true := by rw [Int.tmod_eq_emod_of_nonneg (by omega)]; unfold val3; simp; omega
    have hst2 : st3 x y ((one x y z 2 + 1).tmod 3) = true := by unfold st3 at hst ⊢; simp only [Bool.and_eq_true] at hst ⊢; exact ⟨⟨hst.1.1, hst.1.2⟩, hn⟩
    refine ⟨122, one x y z 2, x, y, ((one x y z 2 + 1).tmod 3), decide (122 ∈ (bs (vlist [120, 121, 122] tm.ser)).data.toList), by decide +kernel, hb.2.2.1, hb.2.2.2, fun w => getVar 122 2 x y z w (by simp) hst, fun w => implSet_z x y z ((one x y z 2 + 1).tmod 3) w hst hn, fun w => has_any _ 122 w (Nat.le_trans (vlist_size _) (by decide)), fun h w => ?_⟩
    refine ppValue_of t x y ((one x y z 2 + 1).tmod 3) _ true (fun w => ?_) w
    have e := implEvalE_yes t x y ((one x y z 2 + 1).tmod 3) w ht hs hsz hst2
    rwa [show val (one x y ((one x y z 2 + 1).tmod 3)) tm = val (one x y z) tm from val_free tm ht fun c j hc hm => ?_] at e
    have hne : c ≠ 122 := by
      rintro rfl
      rw [decide_eq_false_iff_not, show (bs (vlist [120, 121, 122] tm.ser)).data.toList = vlist [120, 121, 122] tm.ser by simp [bs], vlist_in _ _ (by simp)] at h
      exact h hm
    rcases hc with ⟨rfl, rfl⟩ | ⟨rfl, rfl⟩ | ⟨rfl, rfl⟩ <;> first | rfl | exact absurd rfl hne

theorem keep3b {w0 w' : World} {b : Nat} {x y z : Value} {t : TypeId} (h : Blk w0 b #[x, y, z] t) (hb : Below w0.heap.size w0 w') :
    Below w0.heap.size w0 w' ∧ w'.cell? ⟨b, 0, none⟩ = some x ∧ w'.cell? ⟨b, 1, none⟩ = some y ∧ w'.cell? ⟨b, 2, none⟩ = some z :=
  ⟨hb, (h.kept hb).c3.1, (h.kept hb).c3.2.1, (h.kept hb).c3.2.2⟩
theorem bswap {w0 w : World} {x y : Obj} (h : Below w0.heap.size w0 (w.alloc x)) (hz : w0.heap.size ≤ w.heap.size) : Below w0.heap.size w0 (w.alloc y) :=
  ⟨h.os, h.tape, h.output, by simp; omega, fun k hk => by
    rw [Below.heap_alloc _ _ _ (by omega), ← h.block k hk, Below.heap_alloc _ _ _ (by omega)]⟩

set_option maxRecDepth 100000 in
set_option maxHeartbeats 16000000 in
theorem walkEvalExpr {a0 : Option Addr} {len0 cap0 : Nat} {z0 : List Int} (w : World) (h0 : IsRow w a0 len0 cap0 z0) :
    Calls Try.prog 3 #[.slice a0 len0 cap0] w fun e w' => e = .returned (.bool true) ∧ Below w.heap.size w w' := by
  have D := Lib.hid (drawEE h0)
  clear h0
  by_cases hl : (1048576 : Int) < len0
  · go_enter Try.func3, Try.ntmps3
    go_wp2_with fail
    go_ret
    exact ⟨rfl, Below.refl _ _⟩
  · go_enter Try.func3, Try.ntmps3
    go_wp2_with fail
    refine D.out.mono ?_
    rintro e w1 ⟨t, x, y, z, ht, rfl, hb⟩
    have HB1 := Lib.hid hb
    clear hb D
    have HB1 := Lib.hid (bput HB1.out (.cells #[.int .i64 x, .int .i64 y, .int .i64 z] 24))
    have HS1 := Lib.hid (Blk.new w1 #[.int .i64 x, .int .i64 y, .int .i64 z] 24)
    by_cases hv : Valid false false t.data.toList ∧ t.size ≤ 200
    · obtain ⟨⟨tm, htm, hst⟩, hsz⟩ := hv
      cases hS3 : st3 x y z
      · have C1 := fun w => Lib.hid (implEvalE_st t x y z w htm hst hsz hS3)
        have C2 := fun w => Lib.hid (specEvalE_st t x y z w htm hst hsz hS3)
        have C3 := fun w => Lib.hid (implExpr_yes t w ⟨tm, htm, hst⟩ hsz)
        have C4 := fun w => Lib.hid (implStateValid x y z w)
        rw [hS3] at C4
        clear htm hst hS3
        go_wp2_with fail
        refine (C1 _).out.mono ?_
        rintro e w2 ⟨rfl, hb⟩
        have HB2 := Lib.hid (bnext HB1.out hb)
        have HS2 := Lib.hid (HS1.out.kept hb)
        clear hb
        obtain ⟨s0, s1, s2⟩ := HS2.out.c3
        go_wp2_with fail
        refine (C2 _).out.mono ?_
        rintro e w3 ⟨rfl, hb⟩
        have HB3 := Lib.hid (bnext HB2.out hb)
        have HS3 := Lib.hid (HS2.out.kept hb)
        clear hb
        obtain ⟨s0, s1, s2⟩ := HS3.out.c3
        go_wp2_with fail
        refine (C3 _).out.mono ?_
        rintro e w4 ⟨rfl, hb⟩
        have HB4 := Lib.hid (bnext HB3.out hb)
        have HS4 := Lib.hid (HS3.out.kept hb)
        clear hb
        obtain ⟨s0, s1, s2⟩ := HS4.out.c3
        go_wp2_with fail
        refine (C4 _).out.mono ?_
        rintro e w5 ⟨rfl, hb⟩
        have HB5 := Lib.hid (bnext HB4.out hb)
        have HS5 := Lib.hid (HS4.out.kept hb)
        clear hb
        obtain ⟨s0, s1, s2⟩ := HS5.out.c3
        go_wp2_with fail
        refine (C3 _).out.mono ?_
        rintro e w6 ⟨rfl, hb⟩
        have HB6 := Lib.hid (bnext HB5.out hb)
        have HS6 := Lib.hid (HS5.out.kept hb)
        clear hb
        obtain ⟨s0, s1, s2⟩ := HS6.out.c3
        go_wp2_with fail
        refine (C4 _).out.mono ?_
        rintro e w7 ⟨rfl, hb⟩
        have HB7 := Lib.hid (bnext HB6.out hb)
        have HS7 := Lib.hid (HS6.out.kept hb)
        clear hb
        obtain ⟨s0, s1, s2⟩ := HS7.out.c3
        go_wp2_with fail
        go_ret
        exact ⟨rfl, HB7.out⟩
      · have C1 := fun w => Lib.hid (implEvalE_yes t x y z w htm hst hsz hS3)
        have C2 := fun w => Lib.hid (specEvalE_yes t x y z w htm hst hsz hS3)
        have C3 := fun w => Lib.hid (implExpr_yes t w ⟨tm, htm, hst⟩ hsz)
        have C4 := fun w => Lib.hid (implStateValid x y z w)
        have C5 := fun w => Lib.hid (implVarsExpr_yes t w htm hst hsz)
        have C6 := fun w => Lib.hid (specVarsExpr_yes t w htm hst hsz)
        have hbd := val_bd (one_bd hS3) htm
        have HT := Lib.hid htm
        have HS0 := Lib.hid hst
        have HST := Lib.hid hS3
        rw [hS3] at C4
        rw [hst] at C5 C6
        clear htm hst hS3
        go_wp2_with fail
        refine (C1 _).out.mono ?_
        rintro e w2 ⟨rfl, hb⟩
        have HB2 := Lib.hid (bnext HB1.out hb)
        have HS2 := Lib.hid (HS1.out.kept hb)
        clear hb
        obtain ⟨s0, s1, s2⟩ := HS2.out.c3
        go_wp2_with fail
        refine (C2 _).out.mono ?_
        rintro e w3 ⟨rfl, hb⟩
        have HB3 := Lib.hid (bnext HB2.out hb)
        have HS3 := Lib.hid (HS2.out.kept hb)
        clear hb
        obtain ⟨s0, s1, s2⟩ := HS3.out.c3
        go_wp2_with fail
        refine (C3 _).out.mono ?_
        rintro e w4 ⟨rfl, hb⟩
        have HB4 := Lib.hid (bnext HB3.out hb)
        have HS4 := Lib.hid (HS3.out.kept hb)
        clear hb
        obtain ⟨s0, s1, s2⟩ := HS4.out.c3
        go_wp2_with fail
        refine (C4 _).out.mono ?_
        rintro e w5 ⟨rfl, hb⟩
        have HB5 := Lib.hid (bnext HB4.out hb)
        have HS5 := Lib.hid (HS4.out.kept hb)
        clear hb
        obtain ⟨s0, s1, s2⟩ := HS5.out.c3
        go_wp2_with fail
        refine (C5 _).out.mono ?_
        rintro e w6 ⟨rfl, hb⟩
        have HB6 := Lib.hid (bnext HB5.out hb)
        have HS6 := Lib.hid (HS5.out.kept hb)
        clear hb
        obtain ⟨s0, s1, s2⟩ := HS6.out.c3
        clear C1 C2 C3 C4 C5
        go_wp2_with fail
        go_loopw [10] (fun i wr => ∃ k : Nat, k ≤ 3 ∧ i = .int .i64 k ∧ Hid (Below w.heap.size w wr) ∧ Hid (Blk wr w1.heap.size #[.int .i64 x, .int .i64 y, .int .i64 z] 24)) (fun i _ => 3 - (intOf i).toNat)
        case atStart => exact ⟨0, by omega, rfl, HB6, HS6⟩
        case round =>
          clear s0 s1 s2
          obtain ⟨k, hk, rfl, HB, HS⟩ := hrel
          by_cases hlt : k < 3
          · have hk0 : (0 : Int) ≤ (k : Int) := by omega
            have hk1 : (k : Int) < 3 := by omega
            have hk2 : (k : Int) + 1 ≤ 3 := by omega
            have hk3 : (k : Int) ≤ 3 := by omega
            have ew : IntKind.i64.wrap ((k : Int) + 1) = (k : Int) + 1 := IntWalk.i64_in _ (by omega)
            have hk4 : (0 : Int) ≤ (k : Int) + 1 := by omega
            have hk5 : ((k : Int) + 1).toNat = k + 1 := by omega
            have hk6 : (k : Int) ≤ (k : Int) + 1 := by omega
            obtain ⟨c, m, p, q, r, h, hex, m0, m2, G, SV, HH, PV⟩ := ev_round HT.out HS0.out (by omega) x y z HST.out k hlt
            have HEX := Lib.hid hex
            have ewm : IntKind.i64.wrap (m + 1) = m + 1 := IntWalk.i64_in _ (by omega)
            have hm1 : (0 : Int) ≤ m + 1 := by omega
            clear hex
            go_wp2_with fail
            rw [HEX.out]
            have hbb : Below wr.heap.size wr wr.drew := (Below.refl wr.heap.size wr).drew
            have hbb0 := keep3b HS.out (Below.refl wr.heap.size wr)
            have hS := keep3b HS.out hbb
            have hltB := HS.out.lt
            first | (go_region_held3 (fun w' => Below wr.heap.size wr w' ∧ w'.cell? ⟨w1.heap.size, 0, none⟩ = some (.int .i64 x) ∧ w'.cell? ⟨w1.heap.size, 1, none⟩ = some (.int .i64 y) ∧ w'.cell? ⟨w1.heap.size, 2, none⟩ = some (.int .i64 z))
              ((first
                  | assumption
                  | exact keep3b HS.out (by assumption)
                  | (go_split_ands; exact keep3b HS.out (bnext (by assumption) hq))
                  | (go_split_ands; exact keep3b HS.out (bput (by assumption) _))
                  | (go_split_ands; exact keep3b HS.out (bswap (by assumption) hz))
                  | (go_split_ands; exact keep3b HS.out (Below.setCell (Below.setCell (Below.setCell (by assumption) (by simp; omega) _) (by simp; omega) _) (by simp; omega) _))
                  | (go_split_ands; exact keep3b HS.out (Below.setCell (Below.setCell (Below.setCell (by assumption) (by simp) _) (by simp) _) (by simp) _))))
              (first
                  | (go_at_call 15; (with_reducible refine (G _).out.mono ?_); rintro e u1 ⟨rfl, hq⟩; have hz : wr.heap.size ≤ u1.heap.size := (bnext (by go_split_ands; assumption) hq).size; obtain ⟨hcq, hfq⟩ := bcell hq; have hs := hq.size; try simp at hs; try replace hs := Nat.lt_of_succ_le hs)
                  | (go_at_call 14; (with_reducible refine (SV _).out.mono ?_); rintro e u2 ⟨rfl, hq⟩; have hz : wr.heap.size ≤ u2.heap.size := (bnext (by go_split_ands; assumption) hq).size; obtain ⟨hcq, hfq⟩ := bcell hq; have hs := hq.size; try simp at hs; try replace hs := Nat.lt_of_succ_le hs))) | fail
            all_goals
              go_split_ands
              have HF := Lib.hid (show Below wr.heap.size wr _ by assumption)
              go_wp2_with fail
              refine (HH _).out.mono ?_
              rintro e w' ⟨rfl, rfl⟩
              cases h
              · go_wp2_with fail
                refine (PV (by trivial) _).out.mono ?_
                rintro e u3 ⟨rfl, hb⟩
                have HF2 := Lib.hid (bnext HF.out hb)
                clear hb
                go_wp2_with fail
                go_round
                case rel => exact ⟨k + 1, by omega, by go_num, bnext HB.out HF2.out, HS.out.kept HF2.out⟩
                case measure => simp [intOf]; omega
              · go_wp2_with fail
                go_round
                case rel => exact ⟨k + 1, by omega, by go_num, bnext HB.out HF.out, HS.out.kept HF.out⟩
                case measure => simp [intOf]; omega
          · have hk2 : k = 3 := by omega
            subst hk2
            have HB0 := HB
            obtain ⟨b0, b1⟩ := hbd
            have b2 : val (one x y z) tm < 3 := by omega
            go_wp2_with fail
            refine (C6 _).out.mono ?_
            rintro e w9 ⟨rfl, hb⟩
            have HB9 := Lib.hid (bnext HB0.out hb)
            clear hb
            go_wp2_with fail
            go_ret
            exact ⟨rfl, HB9.out⟩
    · have C1 := fun w => Lib.hid (implEvalE_no t x y z w hv)
      have C2 := fun w => Lib.hid (specEvalE_no t x y z w hv)
      have C3 := fun w => Lib.hid (implExpr_no t w hv)
      clear hv
      go_wp2_with fail
      refine (C1 _).out.mono ?_
      rintro e w2 ⟨rfl, hb⟩
      have HB2 := Lib.hid (bnext HB1.out hb)
      have HS2 := Lib.hid (HS1.out.kept hb)
      clear hb
      obtain ⟨s0, s1, s2⟩ := HS2.out.c3
      go_wp2_with fail
      refine (C2 _).out.mono ?_
      rintro e w3 ⟨rfl, hb⟩
      have HB3 := Lib.hid (bnext HB2.out hb)
      have HS3 := Lib.hid (HS2.out.kept hb)
      clear hb
      obtain ⟨s0, s1, s2⟩ := HS3.out.c3
      go_wp2_with fail
      refine (C3 _).out.mono ?_
      rintro e w4 ⟨rfl, hb⟩
      have HB4 := Lib.hid (bnext HB3.out hb)
      have HS4 := Lib.hid (HS3.out.kept hb)
      clear hb
      obtain ⟨s0, s1, s2⟩ := HS4.out.c3
      go_wp2_with fail
      refine (C3 _).out.mono ?_
      rintro e w5 ⟨rfl, hb⟩
      have HB5 := Lib.hid (bnext HB4.out hb)
      have HS5 := Lib.hid (HS4.out.kept hb)
      clear hb
      obtain ⟨s0, s1, s2⟩ := HS5.out.c3
      go_wp2_with fail
      go_ret
      exact ⟨rfl, HB5.out⟩

set_option linter.unusedVariables false in
set_option maxRecDepth 100000 in
theorem liftedEvalExpr (os : Os) (started : os.Started) (H : Type) (enc : TypeId × Value → H) :
    ReturnsInHanded {} Try.checked os 3 .any (Rows.fnEvalExprSpec.pre6 enc Try.prog Try.f3 Rows.fnEvalExprRow.domain false) (Rows.fnEvalExprSpec.post enc Try.prog Try.f3 false true false false) := by
  refine returnsInHanded_of_change (C := Try.checked) Try.own started (by kernel_rfl) Try.func3
    (ChangeSpec.witness6 (enc := enc) (C := Try.checked) false ⟨#[], #[.slice none 0 0], []⟩ 8 (by kernel_rfl) (by kernel_rfl) (by kernel_rfl) (by kernel_rfl)) ?_
  intro W base args ds gs before hval0 hW hcnd _
  have hval : ∀ (j : Nat) t v, Try.f3.params[j]? = some t → args[j]? = some v → Value.okWide Try.prog W .any base t v := hval0
  have hW' := hW
  obtain ⟨p, q, hA0, hV, rfl, hfz, hnd⟩ := hW
  have hA : DataW.TrodAll enc Try.prog W 0 (fun _ => true) true Try.f3.params.toList args.toList ds p := hA0
  rw [Try.params3] at hA hval
  obtain ⟨v0, vs0, d0, ds0, p0, q0, hargs, rfl, rfl, h0, r0⟩ := trodAll_cons hA
  obtain ⟨rfl, rfl, rfl⟩ := trodAll_nil r0
  obtain rfl : args = #[v0] := by cases args; simp_all
  obtain ⟨rfl, rfl⟩ := trodVars_none hV
  obtain ⟨a0, len0, cap0, rfl⟩ := okWide_slice Try.underlying22 (hval 0 22 v0 rfl rfl)
  have k0 := h0
  have lt0 : ∀ x ∈ p0, x.block < W.heap.size := by obtain ⟨m, hm⟩ := k0; exact DataW.trod_lt m _ _ _ hm
  obtain ⟨z0, w0⟩ : ∃ zs, IsRow W a0 len0 cap0 zs := by
    obtain ⟨fuel, hf⟩ := h0
    rcases open_ints Try.underlying22 Try.underlying5 (by kernel_rfl) hf with ⟨hcs, _⟩ | ⟨x, l, c, zs, hcs, _, hl, hm, hz, _, hcell, hwz⟩
    · simp [Value.cells] at hcs
      obtain ⟨rfl, rfl, rfl⟩ := hcs
      exact ⟨[], .inl ⟨rfl, rfl, rfl, rfl⟩⟩
    · simp [Value.cells] at hcs
      obtain ⟨rfl, rfl, rfl⟩ := hcs
      exact ⟨zs, .inr ⟨_, rfl, hl, hm, by simpa using hz, hcell, hwz⟩⟩
  clear hA0 hval0
  refine (walkEvalExpr W w0).mono fun e W' ⟨he, bel⟩ => ?_
  subst he
  exact ⟨_, rfl, _, _, _, [], _, [], hW', trodAll_mk1 (shut_bool Try.underlying4 _), (trodAll_cons_mk (Below.trod laidOut (by kernel_rfl) (of_decide_eq_true (by kernel_rfl)) k0 bel lt0) trodAll_mk0), rfl, bel.frame _, fun h => by cases h⟩

theorem evalExpr_holds : Rows.FnEvalExprSaid :=
  OpenClaim.holds_of_wide 3 Try.f3 rfl rfl rfl rfl rfl rfl rfl ⟨rfl, rfl, rfl, rfl, rfl⟩ rfl rfl rfl rfl rfl (by kernel_rfl) Try.func3 (by kernel_rfl)
    (of_decide_eq_true (by kernel_rfl)) (by unfold Func.isWrapper; first | (rw [if_pos (by decide +kernel)]; kernel_rfl) | (rw [if_neg (by decide +kernel)]; exact ⟨rfl, rfl⟩))
    (fun os started H enc _ => liftedEvalExpr os started H enc)

#print axioms evalExpr_holds
end Go.Proofs.Ytegbjnpnchidkaa
