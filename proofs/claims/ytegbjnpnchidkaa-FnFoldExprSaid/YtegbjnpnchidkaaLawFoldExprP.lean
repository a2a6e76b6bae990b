/-
  The law of folded expressions is true at all bytes: no condition.
-/
import Derived.Test.YtegbjnpnchidkaaRows
import Derived.Test.YtegbjnpnchidkaaDrawB
import Derived.Deep.RegionHeld3
import Derived.Test.YtegbjnpnchidkaaFoldL
import Derived.Test.YtegbjnpnchidkaaVars
import Derived.Test.YtegbjnpnchidkaaPpV
import Derived.Test.YtegbjnpnchidkaaPpS
import Derived.Test.YtegbjnpnchidkaaDrawV
import Derived.Test.YtegbjnpnchidkaaEvalE
import Derived.ProofKit
import Derived.OpenShut
import Derived.ShutString
import Derived.ChangeOld
namespace Go.Proofs.Ytegbjnpnchidkaa
open Go.ChangeShapes Go.WideShapes Go.ChangeAt Go.RowKit
open Go.ChangeMaps (open_string shut_string)

theorem Try.own : ownKnob Try.prog.godebug = none := by kernel_rfl
theorem laidOut : laidOutB Try.prog = true := by kernel_rfl

set_option maxRecDepth 100000 in
set_option maxHeartbeats 4000000 in
theorem drawFE {a : Option Addr} {len cap : Nat} {zs : List Int} {w : World} (h : IsRow w a len cap zs) :
    Calls Try.prog 25 #[.slice a len cap] w fun e w' => ∃ t : ByteArray, t.size ≤ 40 ∧ e = .returned (.string t) ∧ Below w.heap.size w w' := by
  have HO := Lib.hid (open_any h)
  have HI := Lib.hid h
  clear h
  go_enter Try.func25, Try.ntmps25
  go_wp2_with fail
  refine HO.out.mono ?_
  rintro e w1 ⟨rfl, hr, hb⟩
  have HW1 := Lib.hid hb
  have HC := Lib.hid (pick_any 2 hr (by omega) (by omega) (by omega))
  clear hr hb
  go_wp2_with fail
  refine HC.out.mono ?_
  rintro e w2 ⟨k, k0, k1, rfl, hr, hk⟩
  have HW2 := Lib.hid (HW1.out.trans (hk.below (Nat.le_refl _) HW1.out.size))
  have HR2 := Lib.hid hr
  clear hr hk HC
  by_cases e0 : k = 0
  · subst e0
    have HC := Lib.hid (dE_3 (bs [120]) (by decide) (by decide) HR2.out (by omega))
    go_wp2_with fail
    refine HC.out.mono ?_
    rintro e w3 ⟨t, q, t1, t2, hq, rfl, hr, hk⟩
    have HW3 := Lib.hid (HW2.out.trans (hk.below (Nat.le_refl _) HW2.out.size))
    clear hr hk HC
    go_wp2_with fail
    go_ret
    exact ⟨t, by omega, rfl, HW3.out⟩
  · have g0 : (k == 0) = false := by rw [beq_eq_false_iff_ne]; exact e0
    clear e0
    have HC := Lib.hid (drawEV (HI.out.kept HW2.out))
    go_wp2_with fail
    refine HC.out.mono ?_
    rintro e w3 ⟨t, ht, rfl, hb⟩
    have HW3 := Lib.hid (bnext HW2.out hb)
    clear hb HC
    go_wp2_with fail
    go_ret
    exact ⟨t, ht, rfl, HW3.out⟩

theorem fd_facts {t : ByteArray} {tm : Tm} (ht : Ok false false tm) (hs : t.data.toList = tm.ser) : ∃ (x V : ByteArray) (b : Bool), x = bs (fld tm).ser ∧ x.data.toList = (fld tm).ser ∧ x.size ≤ t.size ∧
    bs (vlist [120, 121, 122] t.data.toList) = V ∧ bs (vlist [120, 121, 122] x.data.toList) = V ∧ V.toList.isEmpty = b ∧ (b = true → x.size = 1) := by
  refine ⟨_, _, _, rfl, by simp [bs], ?_, rfl, ?_, rfl, ?_⟩
  · rw [bs_size]
    have h1 := fld_len tm
    have h2 : t.size = tm.ser.length := by have := congrArg List.length hs; simpa using this
    omega
  · rw [show (bs (fld tm).ser).data.toList = (fld tm).ser by simp [bs], vlist_ext (l := (fld tm).ser) (m := t.data.toList) (fun c hc => by rw [hs]; exact fld_vars tm ht c hc)]
  · intro hb
    have he : vlist [120, 121, 122] t.data.toList = [] := by
      rw [ByteArray.toList_eq] at hb
      simpa [bs] using hb
    have hd := fld_none tm ht fun c hc hm => by
      have := (vlist_in t.data.toList c hc).2 (by rw [hs]; exact hm)
      rw [he] at this; simp at this
    obtain ⟨c, hc, _⟩ := digB_form hd
    rw [bs_size, hc]; rfl

set_option maxRecDepth 100000 in
set_option maxHeartbeats 16000000 in
theorem walkFoldExpr {a0 : Option Addr} {len0 cap0 : Nat} {z0 : List Int} (w : World) (h0 : IsRow w a0 len0 cap0 z0) :
    Calls Try.prog 5 #[.slice a0 len0 cap0] w fun e w' => e = .returned (.bool true) ∧ Below w.heap.size w w' := by
  have D := Lib.hid (drawFE h0)
  clear h0
  by_cases hl : (1048576 : Int) < len0
  · go_enter Try.func5, Try.ntmps5
    go_wp2_with fail
    go_ret
    exact ⟨rfl, Below.refl _ _⟩
  · go_enter Try.func5, Try.ntmps5
    go_wp2_with fail
    refine D.out.mono ?_
    rintro e w1 ⟨t, ht, rfl, hb⟩
    have HB1 := Lib.hid hb
    clear hb D
    by_cases hv : Valid false false t.data.toList ∧ t.size ≤ 200
    · obtain ⟨⟨tm, htm, hst⟩, hsz⟩ := hv
      have C1 := fun w => Lib.hid (implFold_yes t w htm hst hsz)
      have C2 := fun w => Lib.hid (specFold_yes t w htm hst hsz)
      have C3 := fun w => Lib.hid (implExpr_yes t w ⟨tm, htm, hst⟩ hsz)
      obtain ⟨x, V, b, hx, hxs, hxl, v1, v2, hb0, hb1⟩ := fd_facts htm hst
      rw [← hx] at C1 C2
      have hfok := fld_ok htm
      have C4 := fun w => Lib.hid (implFold_yes x w hfok hxs (by omega))
      rw [fld_fld, ← hx] at C4
      have V1 := fun w => Lib.hid (implVarsExpr_yes x w hfok hxs (by omega))
      have V2 := fun w => Lib.hid (implVarsExpr_yes t w htm hst hsz)
      rw [v2] at V1
      rw [v1] at V2
      have HT := Lib.hid htm
      have HF := Lib.hid hfok
      have HX := Lib.hid hxs
      have HS0 := Lib.hid hst
      clear htm hfok hx hxs hst v1 v2
      go_wp2_with fail
      refine (C1 _).out.mono ?_
      rintro e w2 ⟨rfl, hb⟩
      have HB2 := Lib.hid (bnext HB1.out hb)
      clear hb
      go_wp2_with fail
      refine (C2 _).out.mono ?_
      rintro e w3 ⟨rfl, hb⟩
      have HB3 := Lib.hid (bnext HB2.out hb)
      clear hb
      go_wp2_with fail
      refine (C3 _).out.mono ?_
      rintro e w4 ⟨rfl, hb⟩
      have HB4 := Lib.hid (bnext HB3.out hb)
      clear hb
      go_wp2_with fail
      refine (states_any _).mono ?_
      rintro e w5 ⟨g, cap, hcap, hg, rfl, hs, hb⟩
      have HB5 := Lib.hid (bnext HB4.out hb)
      have HS5 := Lib.hid hs
      clear hb hs
      clear C1 C2 C3
      go_wp2_with fail
      go_loopw [9] (fun i wr => ∃ k : Nat, k ≤ 27 ∧ i = .int .i64 k ∧ Hid (Below w.heap.size w wr) ∧ Hid (Sts wr g)) (fun i _ => 27 - (intOf i).toNat)
      case atStart => exact ⟨0, by omega, rfl, HB5, HS5⟩
      case round =>
        obtain ⟨k, hk, rfl, HB, HS⟩ := hrel
        by_cases hlt : k < 27
        · have hk0 : (0 : Int) ≤ (k : Int) := by omega
          have hk1 : (k : Int) < 27 := by omega
          obtain ⟨c0, c1, c2⟩ := HS.out k hlt
          have hat := at_st3 (i := (k : Int)) hk0 hk1
          obtain ⟨v, hv⟩ : ∃ v, val (one (ax k) (ay k) (az k)) tm = v := ⟨_, rfl⟩
          have hv2 := (val_fld (one_bd hat) tm HT.out).trans hv
          have E1 := fun w => Lib.hid (implEvalE_yes x (ax k) (ay k) (az k) w HF.out HX.out (by omega) hat)
          have E2 := fun w => Lib.hid (implEvalE_yes t (ax k) (ay k) (az k) w HT.out HS0.out (by omega) hat)
          rw [hv2] at E1
          rw [hv] at E2
          have P1 := fun w => Lib.hid (ppValue_of x (ax k) (ay k) (az k) v true E1 w)
          have P2 := fun w => Lib.hid (ppValue_of t (ax k) (ay k) (az k) v true E2 w)
          clear E1 E2 hat hv hv2
          have hS0 : Below w.heap.size w wr ∧ Sts wr g ∧ wr.cell? ⟨g, k * 3, none⟩ = some (.int .i64 (ax k)) ∧ wr.cell? ⟨g, k * 3 + 1, none⟩ = some (.int .i64 (ay k)) ∧ wr.cell? ⟨g, k * 3 + 2, none⟩ = some (.int .i64 (az k)) := ⟨HB.out, HS.out, c0, c1, c2⟩
          have hS := keepL (Q := fun w => Sts w g) hS0 (fun h => Sts.kept h (Below.refl wr.heap.size wr).drew) (Below.refl wr.heap.size wr).drew
          clear c0 c1 c2
          go_wp2_with fail
          first | (go_region_held3 (fun w' => Below w.heap.size w w' ∧ Sts w' g ∧ w'.cell? ⟨g, k * 3, none⟩ = some (.int .i64 (ax k)) ∧ w'.cell? ⟨g, k * 3 + 1, none⟩ = some (.int .i64 (ay k)) ∧ w'.cell? ⟨g, k * 3 + 2, none⟩ = some (.int .i64 (az k)))
              (first | assumption | exact keepL (Q := fun w => Sts w g) (by assumption) (fun h => Sts.kept h hq) hq)
              (first | (go_at_call 17; (with_reducible refine (P1 _).out.mono ?_); rintro e u1 ⟨rfl, hq⟩) | (go_at_call 17; (with_reducible refine (P2 _).out.mono ?_); rintro e u1 ⟨rfl, hq⟩))) | fail
          all_goals
            go_split_ands
            go_wp2_with fail
            go_round
            case rel => exact ⟨k + 1, by omega, by go_num, by assumption, by assumption⟩
            case measure => simp [intOf]; omega
        · have hk2 : k = 27 := by omega
          subst hk2
          clear HS
          cases b
          · clear hb1
            have HB0 := HB
            go_wp2_with fail
            refine (C4 _).out.mono ?_
            rintro e w1 ⟨rfl, hb⟩
            have HB1 := Lib.hid (bnext HB0.out hb)
            clear hb
            go_wp2_with fail
            refine (V1 _).out.mono ?_
            rintro e w2 ⟨rfl, hb⟩
            have HB2 := Lib.hid (bnext HB1.out hb)
            clear hb
            go_wp2_with fail
            refine (V2 _).out.mono ?_
            rintro e w3 ⟨rfl, hb⟩
            have HB3 := Lib.hid (bnext HB2.out hb)
            clear hb
            go_wp2_with fail
            refine (V2 _).out.mono ?_
            rintro e w4 ⟨rfl, hb⟩
            have HB4 := Lib.hid (bnext HB3.out hb)
            clear hb
            go_wp2_with fail
            go_ret
            exact ⟨rfl, HB4.out⟩
          · have h1 := hb1 (by trivial)
            clear hb1
            have HB0 := HB
            go_wp2_with fail
            refine (C4 _).out.mono ?_
            rintro e w1 ⟨rfl, hb⟩
            have HB1 := Lib.hid (bnext HB0.out hb)
            clear hb
            go_wp2_with fail
            refine (V1 _).out.mono ?_
            rintro e w2 ⟨rfl, hb⟩
            have HB2 := Lib.hid (bnext HB1.out hb)
            clear hb
            go_wp2_with fail
            refine (V2 _).out.mono ?_
            rintro e w3 ⟨rfl, hb⟩
            have HB3 := Lib.hid (bnext HB2.out hb)
            clear hb
            go_wp2_with fail
            refine (V2 _).out.mono ?_
            rintro e w4 ⟨rfl, hb⟩
            have HB4 := Lib.hid (bnext HB3.out hb)
            clear hb
            go_wp2_with fail
            go_ret
            exact ⟨rfl, HB4.out⟩
    · have C1 := fun w => Lib.hid (implFold_no t w hv)
      have C2 := fun w => Lib.hid (specFold_no t w hv)
      have C3 := fun w => Lib.hid (implExpr_no t w hv)
      clear hv
      go_wp2_with fail
      refine (C1 _).out.mono ?_
      rintro e w2 ⟨rfl, hb⟩
      have HB2 := Lib.hid (bnext HB1.out hb)
      clear hb
      go_wp2_with fail
      refine (C2 _).out.mono ?_
      rintro e w3 ⟨rfl, hb⟩
      have HB3 := Lib.hid (bnext HB2.out hb)
      clear hb
      go_wp2_with fail
      refine (C3 _).out.mono ?_
      rintro e w4 ⟨rfl, hb⟩
      have HB4 := Lib.hid (bnext HB3.out hb)
      clear hb
      go_wp2_with fail
      refine (C3 _).out.mono ?_
      rintro e w5 ⟨rfl, hb⟩
      have HB5 := Lib.hid (bnext HB4.out hb)
      clear hb
      go_wp2_with fail
      go_ret
      exact ⟨rfl, HB5.out⟩

set_option linter.unusedVariables false in
set_option maxRecDepth 100000 in
theorem liftedFoldExpr (os : Os) (started : os.Started) (H : Type) (enc : TypeId × Value → H) :
    ReturnsInHanded {} Try.checked os 5 .any (Rows.fnFoldExprSpec.pre6 enc Try.prog Try.f5 Rows.fnFoldExprRow.domain false) (Rows.fnFoldExprSpec.post enc Try.prog Try.f5 false true false false) := by
  refine returnsInHanded_of_change (C := Try.checked) Try.own started (by kernel_rfl) Try.func5
    (ChangeSpec.witness6 (enc := enc) (C := Try.checked) false ⟨#[], #[.slice none 0 0], []⟩ 8 (by kernel_rfl) (by kernel_rfl) (by kernel_rfl) (by kernel_rfl)) ?_
  intro W base args ds gs before hval0 hW hcnd _
  have hval : ∀ (j : Nat) t v, Try.f5.params[j]? = some t → args[j]? = some v → Value.okWide Try.prog W .any base t v := hval0
  have hW' := hW
  obtain ⟨p, q, hA0, hV, rfl, hfz, hnd⟩ := hW
  have hA : DataW.TrodAll enc Try.prog W 0 (fun _ => true) true Try.f5.params.toList args.toList ds p := hA0
  rw [Try.params5] at hA hval
  obtain ⟨v0, vs0, d0, ds0, p0, q0, hargs, rfl, rfl, h0, r0⟩ := trodAll_cons hA
  obtain ⟨rfl, rfl, rfl⟩ := trodAll_nil r0
  obtain rfl : args = #[v0] := by cases args; simp_all
  obtain ⟨rfl, rfl⟩ := trodVars_none hV
  obtain ⟨a0, len0, cap0, rfl⟩ := okWide_slice Try.underlying22 (hval 0 22 v0 rfl rfl)
  have k0 := h0
  have lt0 : ∀ x ∈ p0, x.block < W.heap.size := by obtain ⟨m, hm⟩ := k0; exact DataW.trod_lt m _ _ _ hm
  obtain ⟨z0, w0⟩ : ∃ zs, IsRow W a0 len0 cap0 zs := by
    obtain ⟨fuel, hf⟩ := h0
    rcases open_ints Try.underlying22 Try.underlying5 (by kernel_rfl) hf with ⟨hcs, _⟩ | ⟨x, l, c, zs, hcs, _, hl, hm, hz, _, hcell, hwz⟩
    · simp [Value.cells] at hcs
      obtain ⟨rfl, rfl, rfl⟩ := hcs
      exact ⟨[], .inl ⟨rfl, rfl, rfl, rfl⟩⟩
    · simp [Value.cells] at hcs
      obtain ⟨rfl, rfl, rfl⟩ := hcs
      exact ⟨zs, .inr ⟨_, rfl, hl, hm, by simpa using hz, hcell, hwz⟩⟩
  clear hA0 hval0
  refine (walkFoldExpr W w0).mono fun e W' ⟨he, bel⟩ => ?_
  subst he
  exact ⟨_, rfl, _, _, _, [], _, [], hW', trodAll_mk1 (shut_bool Try.underlying4 _), (trodAll_cons_mk (Below.trod laidOut (by kernel_rfl) (of_decide_eq_true (by kernel_rfl)) k0 bel lt0) trodAll_mk0), rfl, bel.frame _, fun h => by cases h⟩

theorem foldExpr_holds : Rows.FnFoldExprSaid :=
  OpenClaim.holds_of_wide 5 Try.f5 rfl rfl rfl rfl rfl rfl rfl ⟨rfl, rfl, rfl, rfl, rfl⟩ rfl rfl rfl rfl rfl (by kernel_rfl) Try.func5 (by kernel_rfl)
    (of_decide_eq_true (by kernel_rfl)) (by unfold Func.isWrapper; first | (rw [if_pos (by decide +kernel)]; kernel_rfl) | (rw [if_neg (by decide +kernel)]; exact ⟨rfl, rfl⟩))
    (fun os started H enc _ => liftedFoldExpr os started H enc)

#print axioms foldExpr_holds
end Go.Proofs.Ytegbjnpnchidkaa
