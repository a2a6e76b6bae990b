/-
  The law of CountRules is true at every list of lines and every rule: no condition.
-/
import Derived.Test.YtheclmdpiijakaaRows
import Derived.Test.YtheclmdpiijakaaLw
import Derived.ProofKit
import Derived.OpenShut
import Derived.ShutString
import Derived.ChangeOld
namespace Go.Proofs.Ytheclmdpiijakaa
open Go.ChangeShapes Go.WideShapes Go.ChangeAt Go.RowKit
open Go.ChangeMaps (open_string shut_string)

theorem Try.own : ownKnob Try.prog.godebug = none := by kernel_rfl
theorem laidOut : laidOutB Try.prog = true := by kernel_rfl

set_option maxRecDepth 100000 in
set_option maxHeartbeats 8000000 in
theorem walkCountRules (v : Value) (ls : List Ln) (r : ByteArray) (w : World) (h : LnR w v ls) (hl : ls.length ≤ maxLen) (hf : ∀ l ∈ ls, Fits l) :
    Calls Try.prog 5 #[v, .string r] w fun e w' => e = .returned (.bool true) ∧ Below w.heap.size w w' := by
  have HZ := Lib.hid (szLines_any v ls 1048576 w h hl hf (by omega) (by omega))
  have HR := Lib.hid h
  clear h hf
  go_enter Try.func5, Try.ntmps5
  by_cases hz : (r.size : Int) ≤ 1048576
  · go_wp2_with fail
    refine HZ.out.mono ?_
    rintro e w1 ⟨q, rfl, hq, hb⟩
    have HB1 := Lib.hid hb
    clear hb HZ
    by_cases g : q < 0
    · clear hq
      go_wp2_with fail
      go_ret
      exact ⟨rfl, HB1.out⟩
    · obtain ⟨n1, n2⟩ := hq (by omega)
      have N2 := Lib.hid n2
      clear hq n2
      go_wp2_with fail
      refine (toLines_any v ls _ (HR.out.kept HB1.out) n1 N2.out).mono ?_
      rintro e w2 ⟨g0, _, rfl, hm, hb⟩
      have HB2 := Lib.hid (bnext HB1.out hb)
      have M0 := Lib.hid hm
      clear hm hb
      go_wp2_with fail
      refine (specCount_any ls r g0 _ n1 M0.out).mono ?_
      rintro e w' ⟨rfl, rfl⟩
      clear M0
      go_wp2_with fail
      refine (toLines_any v ls _ (HR.out.kept HB2.out) n1 N2.out).mono ?_
      rintro e w3 ⟨g1, _, rfl, hm, hb⟩
      have HB3 := Lib.hid (bnext HB2.out hb)
      have M1 := Lib.hid hm
      clear hm hb
      go_wp2_with fail
      refine (implCount_any ls r g1 _ n1 M1.out).mono ?_
      rintro e w4 ⟨rfl, hb⟩
      have HB4 := Lib.hid (bnext HB3.out hb)
      have M2 := Lib.hid (M1.out.kept hb)
      clear hb M1
      generalize cntL r ls ls.length = c at *
      go_wp2_with fail
      refine (toLines_any v ls _ (HR.out.kept HB4.out) n1 N2.out).mono ?_
      rintro e w5 ⟨g2, _, rfl, hm, hb⟩
      have HB5 := Lib.hid (bnext HB4.out hb)
      have M3 := Lib.hid (M2.out.kept hb)
      have M4 := Lib.hid hm
      clear hm hb M2
      go_wp2_with fail
      refine (eqLines_any ls g1 g2 _ n1 N2.out M3.out M4.out).mono ?_
      rintro e w6 ⟨rfl, hb⟩
      have HB6 := Lib.hid (bnext HB5.out hb)
      clear hb M3 M4
      go_wp2_with fail
      go_ret
      exact ⟨rfl, HB6.out⟩
  · go_wp2_with fail
    go_ret
    exact ⟨rfl, Below.refl _ _⟩

set_option linter.unusedVariables false in
set_option maxRecDepth 100000 in
theorem lifted (os : Os) (started : os.Started) (H : Type) (enc : TypeId × Value → H) :
    ReturnsInHanded {} Try.checked os 5 .any (Rows.fnExactCountRulesSpec.pre6 enc Try.prog Try.f5 Rows.fnExactCountRulesRow.domain false) (Rows.fnExactCountRulesSpec.post enc Try.prog Try.f5 false true false false) := by
  refine returnsInHanded_of_change (C := Try.checked) Try.own started (by kernel_rfl) Try.func5
    (ChangeSpec.witness6 (enc := enc) (C := Try.checked) false ⟨#[], #[.slice none 0 0, .string ByteArray.empty], []⟩ 8 (by kernel_rfl) (by kernel_rfl) (by kernel_rfl) (by kernel_rfl)) ?_
  intro W base args ds gs before hval0 hW hcnd _
  have hval : ∀ (j : Nat) t v, Try.f5.params[j]? = some t → args[j]? = some v → Value.okWide Try.prog W .any base t v := hval0
  have hW' := hW
  obtain ⟨p, q, hA0, hV, rfl, hfz, hnd⟩ := hW
  have hA : DataW.TrodAll enc Try.prog W 0 (fun _ => true) true Try.f5.params.toList args.toList ds p := hA0
  rw [Try.params5] at hA hval
  obtain ⟨v0, vs0, d0, ds0, p0, q0, hargs, rfl, rfl, h0, r0⟩ := trodAll_cons hA
  obtain ⟨v1, vs1, d1, ds1, p1, q1, rfl, rfl, rfl, h1, r1⟩ := trodAll_cons r0
  obtain ⟨rfl, rfl, rfl⟩ := trodAll_nil r1
  obtain rfl : args = #[v0, v1] := by cases args; simp_all
  obtain ⟨rfl, rfl⟩ := trodVars_none hV
  obtain ⟨a0, len0, cap0, rfl⟩ := okWide_slice Try.underlying37 (hval 0 37 v0 rfl rfl)
  have k0 := h0
  have lt0 : ∀ x ∈ p0, x.block < W.heap.size := by obtain ⟨m, hm⟩ := k0; exact DataW.trod_lt m _ _ _ hm
  obtain ⟨s1, rfl, rfl, rfl, hs1⟩ := open_string Try.underlying9 (hval 1 9 v1 rfl rfl) h1
  obtain ⟨ls, hl, hf, hR⟩ : ∃ ls : List Ln, ls.length ≤ maxLen ∧ (∀ l ∈ ls, Fits l) ∧ LnR W (.slice a0 len0 cap0) ls := by
    obtain ⟨fuel, hfu⟩ := h0
    exact open_lines (show DataW.trod enc Try.prog W 0 (fun _ => true) true fuel 37 [.slice a0 len0 cap0] = _ by simpa [Value.cells] using hfu)
  clear hA0 hval0
  refine (walkCountRules (.slice a0 len0 cap0) ls s1 W hR hl hf).mono fun e W' ⟨he, bel⟩ => ?_
  subst he
  exact ⟨_, rfl, _, _, _, [], _, [], hW', trodAll_mk1 (shut_bool Try.underlying4 _), (trodAll_cons_mk (Below.trod laidOut (by kernel_rfl) (of_decide_eq_true (by kernel_rfl)) k0 bel lt0) (trodAll_cons_mk (shut_string Try.underlying9 hs1) trodAll_mk0)), rfl, bel.frame _, fun h => by cases h⟩

theorem exactCountRules_holds : Rows.FnExactCountRulesSaid :=
  OpenClaim.holds_of_wide 5 Try.f5 rfl rfl rfl rfl rfl rfl rfl ⟨rfl, rfl, rfl, rfl, rfl⟩ rfl rfl rfl rfl rfl (by kernel_rfl) Try.func5 (by kernel_rfl)
    (of_decide_eq_true (by kernel_rfl)) (by unfold Func.isWrapper; first | (rw [if_pos (by decide +kernel)]; kernel_rfl) | (rw [if_neg (by decide +kernel)]; exact ⟨rfl, rfl⟩))
    (fun os started H enc _ => lifted os started H enc)

#print axioms exactCountRules_holds
end Go.Proofs.Ytheclmdpiijakaa
