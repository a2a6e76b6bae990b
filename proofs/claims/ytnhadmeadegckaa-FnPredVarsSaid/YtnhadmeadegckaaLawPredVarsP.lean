/-
  The law of the variables on which a set depends is true at all bytes: no condition.
-/
import Derived.Test.YtnhadmeadegckaaRows
import Derived.Test.YtnhadmeadegckaaTopN
import Derived.ProofKit
import Derived.OpenShut
import Derived.ShutString
import Derived.ChangeOld
namespace Go.Proofs.Ytnhadmeadegckaa
open Go.ChangeShapes Go.WideShapes Go.ChangeAt Go.RowKit
open Go.ChangeMaps (open_string shut_string)

theorem Try.own : ownKnob Try.prog.godebug = none := by kernel_rfl
theorem laidOut : laidOutB Try.prog = true := by kernel_rfl

theorem dep_facts {p : ByteArray} (hp : Set27 p) (c : UInt8) (hc : c = 120 ∨ c = 121 ∨ c = 122) : ∃ (s a v : ByteArray) (h : Bool), Set27 s ∧
    bs (tb (someF c (hs p.data.toList))) = s ∧ bs (tb (allF c (hs p.data.toList))) = a ∧ bs (depL (hs s.data.toList)) = v ∧ decide (c ∈ (bs (depL (hs p.data.toList))).data.toList) = h ∧ decide (c ∈ v.data.toList) = false ∧ v.size ≤ 3 ∧
    (h = false → s = p ∧ a = p) ∧ (h = true → s ≠ p ∧ a ≠ p) := by
  have e : ∀ F : Nat → Bool, (bs (depL F)).data.toList = depL F := fun F => by simp [bs]
  refine ⟨_, _, _, _, set27_tb _, rfl, rfl, rfl, rfl, ?_, depL_size _, ?_, ?_⟩
  · rw [e, decide_eq_false_iff_not, depL_mem hc, depB_congr (letter_mem hc) (G := someF c (hs p.data.toList)) (fun i hi => hs_bs _ i hi), some_dep hc]
    simp
  · intro h
    rw [e, decide_eq_false_iff_not, depL_mem hc, Bool.not_eq_true] at h
    refine ⟨?_, ?_⟩
    · rw [bs_ext ((dep_some hc _).1 h), bs_hs hp]
    · rw [bs_ext ((dep_all hc _).1 h), bs_hs hp]
  · intro h
    rw [e, decide_eq_true_eq, depL_mem hc] at h
    have hn : ¬ depB c (hs p.data.toList) = false := by rw [h]; simp
    refine ⟨fun k => hn ((dep_some hc _).2 fun i hi => ?_), fun k => hn ((dep_all hc _).2 fun i hi => ?_)⟩
    · rw [← hs_bs (someF c (hs p.data.toList)) i hi, k]
    · rw [← hs_bs (allF c (hs p.data.toList)) i hi, k]

set_option maxRecDepth 100000 in
set_option maxHeartbeats 16000000 in
theorem walkPredVars {a0 : Option Addr} {len0 cap0 : Nat} {z0 : List Int} (w : World) (h0 : IsRow w a0 len0 cap0 z0) :
    Calls Try.prog 7 #[.slice a0 len0 cap0] w fun e w' => e = .returned (.bool true) ∧ Below w.heap.size w w' := by
  have D := Lib.hid (drawPVs h0)
  clear h0
  by_cases hl : (1048576 : Int) < len0
  · go_enter Try.func7, Try.ntmps7
    go_wp2_with fail
    go_ret
    exact ⟨rfl, Below.refl _ _⟩
  · go_enter Try.func7, Try.ntmps7
    go_wp2_with fail
    refine D.out.mono ?_
    rintro e w1 ⟨t, ht, rfl, hb⟩
    have HB1 := Lib.hid hb
    clear hb D
    by_cases hv : Set27 t
    · have V1 := fun w => Lib.hid (implPredValid_yes t w hv)
      have C1 := fun w => Lib.hid (implPV_yes t w hv)
      have C2 := fun w => Lib.hid (specPV_yes t w hv)
      rw [depP_eq] at C2
      have hvz := depL_size (hs t.data.toList)
      replace hv := Lib.hid hv
      obtain ⟨V, hV⟩ : ∃ V, bs (depL (hs t.data.toList)) = V := ⟨_, rfl⟩
      rw [hV] at C1 C2 hvz
      have HV := Lib.hid hV
      clear hV ht
      go_wp2_with fail
      refine (C1 _).out.mono ?_
      rintro e w2 ⟨rfl, hb⟩
      have HB2 := Lib.hid (bnext HB1.out hb)
      clear hb
      go_wp2_with fail
      refine (C2 _).out.mono ?_
      rintro e w3 ⟨rfl, hb⟩
      have HB3 := Lib.hid (bnext HB2.out hb)
      clear hb
      go_wp2_with fail
      refine (V1 _).out.mono ?_
      rintro e w' ⟨rfl, rfl⟩
      go_wp2_with fail
      clear C1 C2 V1
      go_loopw [5] (fun i wr => ∃ k : Nat, k ≤ 3 ∧ i = .int .i64 k ∧ Hid (Below w.heap.size w wr)) (fun i _ => 3 - (intOf i).toNat)
      case atStart => exact ⟨0, by omega, rfl, HB3⟩
      case round =>
        obtain ⟨k, hk, rfl, HB⟩ := hrel
        rcases (show k = 0 ∨ k = 1 ∨ k = 2 ∨ k = 3 by omega) with rfl | rfl | rfl | rfl
        · obtain ⟨s, a, v, h, hs1, e1, e2, e3, e4, e5, e6, h0, h1⟩ := dep_facts hv.out 120 (by simp)
          have S1 := fun w => Lib.hid (implSomeV_yes t ⟨#[120]⟩ 120 w hv.out rfl (by simp))
          have S2 := fun w => Lib.hid (implAllV_yes t ⟨#[120]⟩ 120 w hv.out rfl (by simp))
          have S3 := fun w => Lib.hid (implPV_yes s w hs1)
          have S4 := fun w => Lib.hid (has_any V 120 w (by omega))
          have S5 := fun w => Lib.hid (has_any v 120 w (by omega))
          rw [e1] at S1
          rw [e2] at S2
          rw [e3] at S3
          rw [HV.out] at e4
          rw [e4] at S4
          rw [e5] at S5
          have HE := Lib.hid (show (ByteArray.mk #[120, 121, 122]).extract 0 1 = ⟨#[120]⟩ by decide)
          clear hs1 e1 e2 e3 e4 e5 e6
          cases h
          · obtain ⟨rfl, rfl⟩ := h0 rfl
            clear h1
            go_wp2_with fail
            rw [HE.out]
            refine (S1 _).out.mono ?_
            rintro e w21 ⟨rfl, hb⟩
            have HX1 := Lib.hid (bnext HB.out hb)
            clear hb
            go_wp2_with fail
            refine (S2 _).out.mono ?_
            rintro e w22 ⟨rfl, hb⟩
            have HX2 := Lib.hid (bnext HX1.out hb)
            clear hb
            go_wp2_with fail
            refine (S4 _).out.mono ?_
            rintro e w' ⟨rfl, rfl⟩
            go_wp2_with fail
            refine (S4 _).out.mono ?_
            rintro e w' ⟨rfl, rfl⟩
            go_wp2_with fail
            refine (S3 _).out.mono ?_
            rintro e w23 ⟨rfl, hb⟩
            have HX3 := Lib.hid (bnext HX2.out hb)
            clear hb
            go_wp2_with fail
            refine (S5 _).out.mono ?_
            rintro e w' ⟨rfl, rfl⟩
            go_wp2_with fail
            go_round
            case rel => exact ⟨1, by omega, by go_num, HX3⟩
            case measure => simp [intOf]
          · obtain ⟨h2, h3⟩ := h1 rfl
            have h4 : (s.toList == t.toList) = false := by rw [bytes_eq]; simpa using h2
            have h5 : (a.toList == t.toList) = false := by rw [bytes_eq]; simpa using h3
            clear h0 h2 h3
            go_wp2_with fail
            rw [HE.out]
            refine (S1 _).out.mono ?_
            rintro e w21 ⟨rfl, hb⟩
            have HX1 := Lib.hid (bnext HB.out hb)
            clear hb
            go_wp2_with fail
            refine (S2 _).out.mono ?_
            rintro e w22 ⟨rfl, hb⟩
            have HX2 := Lib.hid (bnext HX1.out hb)
            clear hb
            go_wp2_with fail
            refine (S4 _).out.mono ?_
            rintro e w' ⟨rfl, rfl⟩
            go_wp2_with fail
            refine (S4 _).out.mono ?_
            rintro e w' ⟨rfl, rfl⟩
            go_wp2_with fail
            refine (S3 _).out.mono ?_
            rintro e w23 ⟨rfl, hb⟩
            have HX3 := Lib.hid (bnext HX2.out hb)
            clear hb
            go_wp2_with fail
            refine (S5 _).out.mono ?_
            rintro e w' ⟨rfl, rfl⟩
            go_wp2_with fail
            go_round
            case rel => exact ⟨1, by omega, by go_num, HX3⟩
            case measure => simp [intOf]
        · obtain ⟨s, a, v, h, hs1, e1, e2, e3, e4, e5, e6, h0, h1⟩ := dep_facts hv.out 121 (by simp)
          have S1 := fun w => Lib.hid (implSomeV_yes t ⟨#[121]⟩ 121 w hv.out rfl (by simp))
          have S2 := fun w => Lib.hid (implAllV_yes t ⟨#[121]⟩ 121 w hv.out rfl (by simp))
          have S3 := fun w => Lib.hid (implPV_yes s w hs1)
          have S4 := fun w => Lib.hid (has_any V 121 w (by omega))
          have S5 := fun w => Lib.hid (has_any v 121 w (by omega))
          rw [e1] at S1
          rw [e2] at S2
          rw [e3] at S3
          rw [HV.out] at e4
          rw [e4] at S4
          rw [e5] at S5
          have HE := Lib.hid (show (ByteArray.mk #[120, 121, 122]).extract 1 2 = ⟨#[121]⟩ by decide)
          clear hs1 e1 e2 e3 e4 e5 e6
          cases h
          · obtain ⟨rfl, rfl⟩ := h0 rfl
            clear h1
            go_wp2_with fail
            rw [HE.out]
            refine (S1 _).out.mono ?_
            rintro e w21 ⟨rfl, hb⟩
            have HX1 := Lib.hid (bnext HB.out hb)
            clear hb
            go_wp2_with fail
            refine (S2 _).out.mono ?_
            rintro e w22 ⟨rfl, hb⟩
            have HX2 := Lib.hid (bnext HX1.out hb)
            clear hb
            go_wp2_with fail
            refine (S4 _).out.mono ?_
            rintro e w' ⟨rfl, rfl⟩
            go_wp2_with fail
            refine (S4 _).out.mono ?_
            rintro e w' ⟨rfl, rfl⟩
            go_wp2_with fail
            refine (S3 _).out.mono ?_
            rintro e w23 ⟨rfl, hb⟩
            have HX3 := Lib.hid (bnext HX2.out hb)
            clear hb
            go_wp2_with fail
            refine (S5 _).out.mono ?_
            rintro e w' ⟨rfl, rfl⟩
            go_wp2_with fail
            go_round
            case rel => exact ⟨2, by omega, by go_num, HX3⟩
            case measure => simp [intOf]
          · obtain ⟨h2, h3⟩ := h1 rfl
            have h4 : (s.toList == t.toList) = false := by rw [bytes_eq]; simpa using h2
            have h5 : (a.toList == t.toList) = false := by rw [bytes_eq]; simpa using h3
            clear h0 h2 h3
            go_wp2_with fail
            rw [HE.out]
            refine (S1 _).out.mono ?_
            rintro e w21 ⟨rfl, hb⟩
            have HX1 := Lib.hid (bnext HB.out hb)
            clear hb
            go_wp2_with fail
            refine (S2 _).out.mono ?_
            rintro e w22 ⟨rfl, hb⟩
            have HX2 := Lib.hid (bnext HX1.out hb)
            clear hb
            go_wp2_with fail
            refine (S4 _).out.mono ?_
            rintro e w' ⟨rfl, rfl⟩
            go_wp2_with fail
            refine (S4 _).out.mono ?_
            rintro e w' ⟨rfl, rfl⟩
            go_wp2_with fail
            refine (S3 _).out.mono ?_
            rintro e w23 ⟨rfl, hb⟩
            have HX3 := Lib.hid (bnext HX2.out hb)
            clear hb
            go_wp2_with fail
            refine (S5 _).out.mono ?_
            rintro e w' ⟨rfl, rfl⟩
            go_wp2_with fail
            go_round
            case rel => exact ⟨2, by omega, by go_num, HX3⟩
            case measure => simp [intOf]
        · obtain ⟨s, a, v, h, hs1, e1, e2, e3, e4, e5, e6, h0, h1⟩ := dep_facts hv.out 122 (by simp)
          have S1 := fun w => Lib.hid (implSomeV_yes t ⟨#[122]⟩ 122 w hv.out rfl (by simp))
          have S2 := fun w => Lib.hid (implAllV_yes t ⟨#[122]⟩ 122 w hv.out rfl (by simp))
          have S3 := fun w => Lib.hid (implPV_yes s w hs1)
          have S4 := fun w => Lib.hid (has_any V 122 w (by omega))
          have S5 := fun w => Lib.hid (has_any v 122 w (by omega))
          rw [e1] at S1
          rw [e2] at S2
          rw [e3] at S3
          rw [HV.out] at e4
          rw [e4] at S4
          rw [e5] at S5
          have HE := Lib.hid (show (ByteArray.mk #[120, 121, 122]).extract 2 3 = ⟨#[122]⟩ by decide)
          clear hs1 e1 e2 e3 e4 e5 e6
          cases h
          · obtain ⟨rfl, rfl⟩ := h0 rfl
            clear h1
            go_wp2_with fail
            rw [HE.out]
            refine (S1 _).out.mono ?_
            rintro e w21 ⟨rfl, hb⟩
            have HX1 := Lib.hid (bnext HB.out hb)
            clear hb
            go_wp2_with fail
            refine (S2 _).out.mono ?_
            rintro e w22 ⟨rfl, hb⟩
            have HX2 := Lib.hid (bnext HX1.out hb)
            clear hb
            go_wp2_with fail
            refine (S4 _).out.mono ?_
            rintro e w' ⟨rfl, rfl⟩
            go_wp2_with fail
            refine (S4 _).out.mono ?_
            rintro e w' ⟨rfl, rfl⟩
            go_wp2_with fail
            refine (S3 _).out.mono ?_
            rintro e w23 ⟨rfl, hb⟩
            have HX3 := Lib.hid (bnext HX2.out hb)
            clear hb
            go_wp2_with fail
            refine (S5 _).out.mono ?_
            rintro e w' ⟨rfl, rfl⟩
            go_wp2_with fail
            go_round
            case rel => exact ⟨3, by omega, by go_num, HX3⟩
            case measure => simp [intOf]
          · obtain ⟨h2, h3⟩ := h1 rfl
            have h4 : (s.toList == t.toList) = false := by rw [bytes_eq]; simpa using h2
            have h5 : (a.toList == t.toList) = false := by rw [bytes_eq]; simpa using h3
            clear h0 h2 h3
            go_wp2_with fail
            rw [HE.out]
            refine (S1 _).out.mono ?_
            rintro e w21 ⟨rfl, hb⟩
            have HX1 := Lib.hid (bnext HB.out hb)
            clear hb
            go_wp2_with fail
            refine (S2 _).out.mono ?_
            rintro e w22 ⟨rfl, hb⟩
            have HX2 := Lib.hid (bnext HX1.out hb)
            clear hb
            go_wp2_with fail
            refine (S4 _).out.mono ?_
            rintro e w' ⟨rfl, rfl⟩
            go_wp2_with fail
            refine (S4 _).out.mono ?_
            rintro e w' ⟨rfl, rfl⟩
            go_wp2_with fail
            refine (S3 _).out.mono ?_
            rintro e w23 ⟨rfl, hb⟩
            have HX3 := Lib.hid (bnext HX2.out hb)
            clear hb
            go_wp2_with fail
            refine (S5 _).out.mono ?_
            rintro e w' ⟨rfl, rfl⟩
            go_wp2_with fail
            go_round
            case rel => exact ⟨3, by omega, by go_num, HX3⟩
            case measure => simp [intOf]
        · go_wp2_with fail
          go_ret
          exact ⟨rfl, HB.out⟩
    · have V1 := fun w => Lib.hid (implPredValid_no t w hv)
      have C1 := fun w => Lib.hid (implPV_no t w hv)
      have C2 := fun w => Lib.hid (specPV_no t w hv (Nat.le_trans ht (by decide)))
      clear hv ht
      go_wp2_with fail
      refine (C1 _).out.mono ?_
      rintro e w2 ⟨rfl, hb⟩
      have HB2 := Lib.hid (bnext HB1.out hb)
      clear hb
      go_wp2_with fail
      refine (C2 _).out.mono ?_
      rintro e w3 ⟨rfl, hb⟩
      have HB3 := Lib.hid (bnext HB2.out hb)
      clear hb
      go_wp2_with fail
      refine (V1 _).out.mono ?_
      rintro e w' ⟨rfl, rfl⟩
      go_wp2_with fail
      refine (C2 _).out.mono ?_
      rintro e w4 ⟨rfl, hb⟩
      have HB4 := Lib.hid (bnext HB3.out hb)
      clear hb
      go_wp2_with fail
      go_ret
      exact ⟨rfl, HB4.out⟩

set_option linter.unusedVariables false in
set_option maxRecDepth 100000 in
theorem liftedPredVars (os : Os) (started : os.Started) (H : Type) (enc : TypeId × Value → H) :
    ReturnsInHanded {} Try.checked os 7 .any (Rows.fnPredVarsSpec.pre6 enc Try.prog Try.f7 Rows.fnPredVarsRow.domain false) (Rows.fnPredVarsSpec.post enc Try.prog Try.f7 false true false false) := by
  refine returnsInHanded_of_change (C := Try.checked) Try.own started (by kernel_rfl) Try.func7
    (ChangeSpec.witness6 (enc := enc) (C := Try.checked) false ⟨#[], #[.slice none 0 0], []⟩ 8 (by kernel_rfl) (by kernel_rfl) (by kernel_rfl) (by kernel_rfl)) ?_
  intro W base args ds gs before hval0 hW hcnd _
  have hval : ∀ (j : Nat) t v, Try.f7.params[j]? = some t → args[j]? = some v → Value.okWide Try.prog W .any base t v := hval0
  have hW' := hW
  obtain ⟨p, q, hA0, hV, rfl, hfz, hnd⟩ := hW
  have hA : DataW.TrodAll enc Try.prog W 0 (fun _ => true) true Try.f7.params.toList args.toList ds p := hA0
  rw [Try.params7] at hA hval
  obtain ⟨v0, vs0, d0, ds0, p0, q0, hargs, rfl, rfl, h0, r0⟩ := trodAll_cons hA
  obtain ⟨rfl, rfl, rfl⟩ := trodAll_nil r0
  obtain rfl : args = #[v0] := by cases args; simp_all
  obtain ⟨rfl, rfl⟩ := trodVars_none hV
  obtain ⟨a0, len0, cap0, rfl⟩ := okWide_slice Try.underlying22 (hval 0 22 v0 rfl rfl)
  have k0 := h0
  have lt0 : ∀ x ∈ p0, x.block < W.heap.size := by obtain ⟨m, hm⟩ := k0; exact DataW.trod_lt m _ _ _ hm
  obtain ⟨z0, w0⟩ : ∃ zs, IsRow W a0 len0 cap0 zs := by
    obtain ⟨fuel, hf⟩ := h0
    rcases open_ints Try.underlying22 Try.underlying5 (by kernel_rfl) hf with ⟨hcs, _⟩ | ⟨x, l, c, zs, hcs, _, hl, hm, hz, _, hcell, hwz⟩
    · simp [Value.cells] at hcs
      obtain ⟨rfl, rfl, rfl⟩ := hcs
      exact ⟨[], .inl ⟨rfl, rfl, rfl, rfl⟩⟩
    · simp [Value.cells] at hcs
      obtain ⟨rfl, rfl, rfl⟩ := hcs
      exact ⟨zs, .inr ⟨_, rfl, hl, hm, by simpa using hz, hcell, hwz⟩⟩
  clear hA0 hval0
  refine (walkPredVars W w0).mono fun e W' ⟨he, bel⟩ => ?_
  subst he
  exact ⟨_, rfl, _, _, _, [], _, [], hW', trodAll_mk1 (shut_bool Try.underlying4 _), (trodAll_cons_mk (Below.trod laidOut (by kernel_rfl) (of_decide_eq_true (by kernel_rfl)) k0 bel lt0) trodAll_mk0), rfl, bel.frame _, fun h => by cases h⟩

theorem predVars_holds : Rows.FnPredVarsSaid :=
  OpenClaim.holds_of_wide 7 Try.f7 rfl rfl rfl rfl rfl rfl rfl ⟨rfl, rfl, rfl, rfl, rfl⟩ rfl rfl rfl rfl rfl (by kernel_rfl) Try.func7 (by kernel_rfl)
    (of_decide_eq_true (by kernel_rfl)) (by unfold Func.isWrapper; first | (rw [if_pos (by decide +kernel)]; kernel_rfl) | (rw [if_neg (by decide +kernel)]; exact ⟨rfl, rfl⟩))
    (fun os started H enc _ => liftedPredVars os started H enc)

#print axioms predVars_holds
end Go.Proofs.Ytnhadmeadegckaa
