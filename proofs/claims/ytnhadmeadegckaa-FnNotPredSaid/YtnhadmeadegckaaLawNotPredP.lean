/-
  The law of a set and the other one is true at all bytes: no condition.
-/
import Derived.Test.YtnhadmeadegckaaRows
import Derived.Test.YtnhadmeadegckaaTopN
import Derived.ProofKit
import Derived.OpenShut
import Derived.ShutString
import Derived.ChangeOld
namespace Go.Proofs.Ytnhadmeadegckaa
open Go.ChangeShapes Go.WideShapes Go.ChangeAt Go.RowKit
open Go.ChangeMaps (open_string shut_string)

theorem Try.own : ownKnob Try.prog.godebug = none := by kernel_rfl
theorem laidOut : laidOutB Try.prog = true := by kernel_rfl

theorem np_facts {p : ByteArray} (hp : Set27 p) : ∃ (q r v : ByteArray) (A B : Nat), Set27 q ∧ Set27 r ∧ A + B = 27 ∧ A ≤ 27 ∧
    bs (tb (fun i => !hs p.data.toList i)) = q ∧ bs (tb (fun i => !hs q.data.toList i)) = p ∧ cnt 27 (hs p.data.toList) = A ∧ cnt 27 (hs q.data.toList) = B ∧
    bs (tb (fun i => hs p.data.toList i && hs q.data.toList i)) = r ∧ cnt 27 (hs r.data.toList) = 0 ∧ bs (depL (hs p.data.toList)) = v ∧ bs (depL (hs q.data.toList)) = v := by
  refine ⟨_, _, _, _, _, set27_tb _, set27_tb _, ?_, cnt_le 27 _, rfl, ?_, rfl, rfl, rfl, ?_, rfl, ?_⟩
  · rw [cnt_same (F := hs (bs (tb (fun i => !hs p.data.toList i))).data.toList) (G := fun i => !hs p.data.toList i) (fun i hi => hs_bs _ i hi)]
    exact cnt_not 27 _
  · rw [bs_ext (G := hs p.data.toList) (fun i hi => by rw [hs_bs _ i hi, Bool.not_not]), bs_hs hp]
  · rw [cnt_nil]
    intro i hi
    rw [hs_bs _ i hi, hs_bs _ i hi]
    cases hs p.data.toList i <;> rfl
  · rw [depL_congr (F := hs (bs (tb (fun i => !hs p.data.toList i))).data.toList) (G := fun i => !hs p.data.toList i) (fun i hi => hs_bs _ i hi), depL_not]

set_option maxRecDepth 100000 in
set_option maxHeartbeats 16000000 in
theorem walkNotPred {a0 : Option Addr} {len0 cap0 : Nat} {z0 : List Int} (w : World) (h0 : IsRow w a0 len0 cap0 z0) :
    Calls Try.prog 5 #[.slice a0 len0 cap0] w fun e w' => e = .returned (.bool true) ∧ Below w.heap.size w w' := by
  have D := Lib.hid (drawNP h0)
  clear h0
  by_cases hl : (1048576 : Int) < len0
  · go_enter Try.func5, Try.ntmps5
    go_wp2_with fail
    go_ret
    exact ⟨rfl, Below.refl _ _⟩
  · go_enter Try.func5, Try.ntmps5
    go_wp2_with fail
    refine D.out.mono ?_
    rintro e w1 ⟨t, ht, rfl, hb⟩
    have HB1 := Lib.hid hb
    clear hb D
    by_cases hv : Set27 t
    · have V := fun w => Lib.hid (implPredValid_yes t w hv)
      have C1 := fun w => Lib.hid (implNotP_yes t w hv)
      have C2 := fun w => Lib.hid (specNotP_yes t w hv)
      obtain ⟨q, r, v, A, B, hq, hr, hab, hA, e1, e2, e3, e4, e5, e6, e7, e8⟩ := np_facts hv
      have C3 := fun w => Lib.hid (implNotP_yes q w hq)
      have C4 := fun w => Lib.hid (implCountP_yes t w hv)
      have C5 := fun w => Lib.hid (implCountP_yes q w hq)
      have C6 := fun w => Lib.hid (implAnd_yes t q w hv hq)
      have C7 := fun w => Lib.hid (implCountP_yes r w hr)
      have C8 := fun w => Lib.hid (implPV_yes q w hq)
      have C9 := fun w => Lib.hid (implPV_yes t w hv)
      rw [e1] at C1 C2
      rw [e2] at C3
      rw [e3] at C4
      rw [e4] at C5
      rw [e5] at C6
      rw [e6] at C7
      rw [e8] at C8
      rw [e7] at C9
      have P3 := fun w => Lib.hid (ppNot_of q t true C3 w)
      have P6 := fun w => Lib.hid (ppAnd_of t q r true C6 w)
      clear hv hq hr e1 e2 e3 e4 e5 e6 e7 e8 C3 C6 ht
      have ew : IntKind.i64.wrap ((A : Int) + (B : Int)) = 27 := (IntWalk.i64_in _ (by omega)).trans (by omega)
      go_wp2_with fail
      refine (C1 _).out.mono ?_
      rintro e w2 ⟨rfl, hb⟩
      have HB2 := Lib.hid (bnext HB1.out hb)
      clear hb
      go_wp2_with fail
      refine (C2 _).out.mono ?_
      rintro e w3 ⟨rfl, hb⟩
      have HB3 := Lib.hid (bnext HB2.out hb)
      clear hb
      go_wp2_with fail
      refine (V _).out.mono ?_
      rintro e w' ⟨rfl, rfl⟩
      go_wp2_with fail
      refine (P3 _).out.mono ?_
      rintro e w4 ⟨rfl, hb⟩
      have HB4 := Lib.hid (bnext HB3.out hb)
      clear hb
      go_wp2_with fail
      refine (C4 _).out.mono ?_
      rintro e w5 ⟨rfl, hb⟩
      have HB5 := Lib.hid (bnext HB4.out hb)
      clear hb
      go_wp2_with fail
      refine (C5 _).out.mono ?_
      rintro e w6 ⟨rfl, hb⟩
      have HB6 := Lib.hid (bnext HB5.out hb)
      clear hb
      go_wp2_with fail
      refine (P6 _).out.mono ?_
      rintro e w7 ⟨rfl, hb⟩
      have HB7 := Lib.hid (bnext HB6.out hb)
      clear hb
      go_wp2_with fail
      refine (C7 _).out.mono ?_
      rintro e w8 ⟨rfl, hb⟩
      have HB8 := Lib.hid (bnext HB7.out hb)
      clear hb
      go_wp2_with fail
      refine (C8 _).out.mono ?_
      rintro e w9 ⟨rfl, hb⟩
      have HB9 := Lib.hid (bnext HB8.out hb)
      clear hb
      go_wp2_with fail
      refine (C9 _).out.mono ?_
      rintro e w10 ⟨rfl, hb⟩
      have HB10 := Lib.hid (bnext HB9.out hb)
      clear hb
      go_wp2_with fail
      go_ret
      exact ⟨rfl, HB10.out⟩
    · have V := fun w => Lib.hid (implPredValid_no t w hv)
      have C1 := fun w => Lib.hid (implNotP_no t w hv)
      have C2 := fun w => Lib.hid (specNotP_no t w hv (Nat.le_trans ht (by decide)))
      clear hv ht
      go_wp2_with fail
      refine (C1 _).out.mono ?_
      rintro e w2 ⟨rfl, hb⟩
      have HB2 := Lib.hid (bnext HB1.out hb)
      clear hb
      go_wp2_with fail
      refine (C2 _).out.mono ?_
      rintro e w3 ⟨rfl, hb⟩
      have HB3 := Lib.hid (bnext HB2.out hb)
      clear hb
      go_wp2_with fail
      refine (V _).out.mono ?_
      rintro e w' ⟨rfl, rfl⟩
      go_wp2_with fail
      refine (V _).out.mono ?_
      rintro e w' ⟨rfl, rfl⟩
      go_wp2_with fail
      go_ret
      exact ⟨rfl, HB3.out⟩

set_option linter.unusedVariables false in
set_option maxRecDepth 100000 in
theorem liftedNotPred (os : Os) (started : os.Started) (H : Type) (enc : TypeId × Value → H) :
    ReturnsInHanded {} Try.checked os 5 .any (Rows.fnNotPredSpec.pre6 enc Try.prog Try.f5 Rows.fnNotPredRow.domain false) (Rows.fnNotPredSpec.post enc Try.prog Try.f5 false true false false) := by
  refine returnsInHanded_of_change (C := Try.checked) Try.own started (by kernel_rfl) Try.func5
    (ChangeSpec.witness6 (enc := enc) (C := Try.checked) false ⟨#[], #[.slice none 0 0], []⟩ 8 (by kernel_rfl) (by kernel_rfl) (by kernel_rfl) (by kernel_rfl)) ?_
  intro W base args ds gs before hval0 hW hcnd _
  have hval : ∀ (j : Nat) t v, Try.f5.params[j]? = some t → args[j]? = some v → Value.okWide Try.prog W .any base t v := hval0
  have hW' := hW
  obtain ⟨p, q, hA0, hV, rfl, hfz, hnd⟩ := hW
  have hA : DataW.TrodAll enc Try.prog W 0 (fun _ => true) true Try.f5.params.toList args.toList ds p := hA0
  rw [Try.params5] at hA hval
  obtain ⟨v0, vs0, d0, ds0, p0, q0, hargs, rfl, rfl, h0, r0⟩ := trodAll_cons hA
  obtain ⟨rfl, rfl, rfl⟩ := trodAll_nil r0
  obtain rfl : args = #[v0] := by cases args; simp_all
  obtain ⟨rfl, rfl⟩ := trodVars_none hV
  obtain ⟨a0, len0, cap0, rfl⟩ := okWide_slice Try.underlying22 (hval 0 22 v0 rfl rfl)
  have k0 := h0
  have lt0 : ∀ x ∈ p0, x.block < W.heap.size := by obtain ⟨m, hm⟩ := k0; exact DataW.trod_lt m _ _ _ hm
  obtain ⟨z0, w0⟩ : ∃ zs, IsRow W a0 len0 cap0 zs := by
    obtain ⟨fuel, hf⟩ := h0
    rcases open_ints Try.underlying22 Try.underlying5 (by kernel_rfl) hf with ⟨hcs, _⟩ | ⟨x, l, c, zs, hcs, _, hl, hm, hz, _, hcell, hwz⟩
    · simp [Value.cells] at hcs
      obtain ⟨rfl, rfl, rfl⟩ := hcs
      exact ⟨[], .inl ⟨rfl, rfl, rfl, rfl⟩⟩
    · simp [Value.cells] at hcs
      obtain ⟨rfl, rfl, rfl⟩ := hcs
      exact ⟨zs, .inr ⟨_, rfl, hl, hm, by simpa using hz, hcell, hwz⟩⟩
  clear hA0 hval0
  refine (walkNotPred W w0).mono fun e W' ⟨he, bel⟩ => ?_
  subst he
  exact ⟨_, rfl, _, _, _, [], _, [], hW', trodAll_mk1 (shut_bool Try.underlying4 _), (trodAll_cons_mk (Below.trod laidOut (by kernel_rfl) (of_decide_eq_true (by kernel_rfl)) k0 bel lt0) trodAll_mk0), rfl, bel.frame _, fun h => by cases h⟩

theorem notPred_holds : Rows.FnNotPredSaid :=
  OpenClaim.holds_of_wide 5 Try.f5 rfl rfl rfl rfl rfl rfl rfl ⟨rfl, rfl, rfl, rfl, rfl⟩ rfl rfl rfl rfl rfl (by kernel_rfl) Try.func5 (by kernel_rfl)
    (of_decide_eq_true (by kernel_rfl)) (by unfold Func.isWrapper; first | (rw [if_pos (by decide +kernel)]; kernel_rfl) | (rw [if_neg (by decide +kernel)]; exact ⟨rfl, rfl⟩))
    (fun os started H enc _ => liftedNotPred os started H enc)

#print axioms notPred_holds
end Go.Proofs.Ytnhadmeadegckaa
