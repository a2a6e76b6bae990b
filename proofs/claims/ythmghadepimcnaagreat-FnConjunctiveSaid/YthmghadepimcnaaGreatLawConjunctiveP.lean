/-
  The law of the weakest sets for what sets have in common is true at all bytes: no condition.
-/
import Derived.Test.YthmghadepimcnaaGreatRows
import Derived.Test.YthmghadepimcnaaGreatTopE
import Derived.Deep.RegionHeld3
import Derived.Test.YthmghadepimcnaaGreatTopC
import Derived.ProofKit
import Derived.OpenShut
import Derived.ShutString
import Derived.ChangeOld
namespace Go.Proofs.YthmghadepimcnaaGreat
open Go.ChangeShapes Go.WideShapes Go.ChangeAt Go.RowKit
open Go.ChangeMaps (open_string shut_string)

theorem Tryz.own : ownKnob Tryz.prog.godebug = none := by kernel_rfl
theorem laidOut : laidOutB Tryz.prog = true := by kernel_rfl

theorem conj_facts {p : Pg} (hp : p.ok false) {q o W X : ByteArray} (e1 : bs (tb (wF p (hs q.data.toList))) = W) (e2 : bs (tb (wF p (hs o.data.toList))) = X) : ∃ (A B O E U : ByteArray), Set27 A ∧ Set27 O ∧ Set27 E ∧ Set27 U ∧ bs (tb (fun i => hs q.data.toList i && hs o.data.toList i)) = A ∧ bs (tb (wF p (hs A.data.toList))) = B ∧
    bs (tb (fun i => hs q.data.toList i || hs o.data.toList i)) = O ∧ bs (tb (wF p (hs O.data.toList))) = E ∧ bs (tb (fun i => hs W.data.toList i && hs X.data.toList i)) = B ∧ bs (tb (fun i => hs W.data.toList i || hs X.data.toList i)) = U ∧ wi 27 (hs U.data.toList) (hs E.data.toList) = true ∧ (plainB p = true → E = U) := by
  subst e1 e2
  refine ⟨_, _, _, _, _, set27_tb _, set27_tb _, set27_tb _, set27_tb _, rfl, rfl, rfl, rfl, ?_, rfl, ?_, ?_⟩
  · refine bs_ext fun i hi => ?_
    rw [hs_bs _ i hi, hs_bs _ i hi, ← wF_and]
    exact (wF_congr hp (fun j hj => hs_bs (fun i => hs q.data.toList i && hs o.data.toList i) j hj) hi).symm
  · rw [wi_iff]
    intro i hi h
    rw [hs_bs _ i hi, hs_bs _ i hi, hs_bs _ i hi] at h
    rw [hs_bs _ i hi, wF_congr hp (fun j hj => hs_bs _ j hj) hi]
    exact wF_or_sub h
  · intro h
    refine bs_ext fun i hi => ?_
    rw [hs_bs _ i hi, hs_bs _ i hi, ← wF_or h]
    exact wF_congr hp (fun j hj => hs_bs (fun i => hs q.data.toList i || hs o.data.toList i) j hj) hi

set_option maxRecDepth 100000 in
set_option maxHeartbeats 16000000 in
theorem walkConjunctive {a0 : Option Addr} {len0 cap0 : Nat} {z0 : List Int} {a1 : Option Addr} {len1 cap1 : Nat} {z1 : List Int} (w : World) (h0 : IsRow w a0 len0 cap0 z0) (h1 : IsRow w a1 len1 cap1 z1) :
    Calls Tryz.prog 5 #[.slice a0 len0 cap0, .slice a1 len1 cap1] w fun e w' => e = .returned (.bool true) ∧ Below w.heap.size w w' := by
  have D := Lib.hid (dWeakFree h0)
  have HR1 := Lib.hid h1
  clear h0 h1
  by_cases hl : (1048576 : Int) < len0
  · go_enter Tryz.func5, Tryz.ntmps5
    go_wp2_with fail
    go_ret
    exact ⟨rfl, Below.refl _ _⟩
  · by_cases hl1 : (1048576 : Int) < len1
    · go_enter Tryz.func5, Tryz.ntmps5
      go_wp2_with fail
      go_ret
      exact ⟨rfl, Below.refl _ _⟩
    · go_enter Tryz.func5, Tryz.ntmps5
      go_wp2_with fail
      refine D.out.mono ?_
      rintro e w1 ⟨t, q, t1, q1, rfl, hb⟩
      have HB1 := Lib.hid hb
      clear hb D
      have D2 := Lib.hid (dPostOf (HR1.out.kept HB1.out))
      go_wp2_with fail
      refine D2.out.mono ?_
      rintro e w2 ⟨_, o, _, o1, rfl, hb⟩
      have HB2 := Lib.hid (bnext HB1.out hb)
      clear hb D2 HR1
      by_cases hv : IsP t ∧ Set27 q
      · obtain ⟨⟨⟨p, hp, he⟩, hl⟩, hq⟩ := hv
        have C1 := fun w => Lib.hid (implFree_yes t q hp he hl hq w)
        have C2 := fun w => Lib.hid (specFree_yes t q hp he hl hq (Nat.le_trans q1 (by decide)) w)
        unfold TextPost at C1 C2
        have hW : Set27 (bs (tb (wF p (hs q.data.toList)))) := set27_tb _
        by_cases ho : Set27 o
        · have V3 := fun w => Lib.hid (implPredValid_yes o w ho)
          have CX := fun w => Lib.hid (implFree_yes t o hp he hl ho w)
          have hX : Set27 (bs (tb (wF p (hs o.data.toList)))) := set27_tb _
          obtain ⟨W, e1⟩ : ∃ W, bs (tb (wF p (hs q.data.toList))) = W := ⟨_, rfl⟩
          obtain ⟨X, e2⟩ : ∃ X, bs (tb (wF p (hs o.data.toList))) = X := ⟨_, rfl⟩
          obtain ⟨A, B, O, E, U, hA, hO, hE, hU, f1, f2, f3, f4, f5, f6, f7, f8⟩ := conj_facts hp e1 e2
          unfold TextPost at CX
          rw [e1] at C1 C2 hW
          rw [e2] at CX hX
          have CA := fun w => Lib.hid (implAnd_yes q o w hq ho)
          have CB := fun w => Lib.hid (implFree_yes t A hp he hl hA w)
          have CO := fun w => Lib.hid (implOr_yes q o w hq ho)
          have CE := fun w => Lib.hid (implFree_yes t O hp he hl hO w)
          have CC := fun w => Lib.hid (implAnd_yes W X w hW hX)
          have CU := fun w => Lib.hid (implOr_yes W X w hW hX)
          have C9 := fun w => Lib.hid (implPWithin_yes U E w hU hE)
          have CP := fun w => Lib.hid (implPlain_yes t w hp he hl)
          unfold TextPost at CB CE
          unfold BoolPost at CP
          rw [f1] at CA
          rw [f2] at CB
          rw [f3] at CO
          rw [f4] at CE
          rw [f5] at CC
          rw [f6] at CU
          rw [f7] at C9
          have PA := fun w => Lib.hid (ppAnd_of q o A true CA w)
          have PB := fun w => Lib.hid (ppFree_of t A B true CB w)
          have PO := fun w => Lib.hid (ppOr_of q o O true CO w)
          have PE := fun w => Lib.hid (ppFree_of t O E true CE w)
          have PX := fun w => Lib.hid (ppFree_of t o X true CX w)
          have PC := fun w => Lib.hid (ppAnd_of W X B true CC w)
          have PU := fun w => Lib.hid (ppOr_of W X U true CU w)
          clear hp he hl hq ho hW hX hA hO hE hU e1 e2 f1 f2 f3 f4 f5 f6 f7 CA CB CO CE CX CC CU t1 q1 o1
          generalize plainB p = b at *
          cases b
          · clear f8
            go_wp2_with fail
            refine (C1 _).out.mono ?_
            rintro e w3 ⟨rfl, hb⟩
            have HB3 := Lib.hid (bnext HB2.out hb)
            clear hb
            go_wp2_with fail
            refine (C2 _).out.mono ?_
            rintro e w4 ⟨rfl, hb⟩
            have HB4 := Lib.hid (bnext HB3.out hb)
            clear hb
            go_wp2_with fail
            refine (V3 _).out.mono ?_
            rintro e w' ⟨rfl, rfl⟩
            go_wp2_with fail
            refine (PA _).out.mono ?_
            rintro e w5 ⟨rfl, hb⟩
            have HB5 := Lib.hid (bnext HB4.out hb)
            clear hb
            go_wp2_with fail
            refine (PB _).out.mono ?_
            rintro e w6 ⟨rfl, hb⟩
            have HB6 := Lib.hid (bnext HB5.out hb)
            clear hb
            go_wp2_with fail
            refine (PO _).out.mono ?_
            rintro e w7 ⟨rfl, hb⟩
            have HB7 := Lib.hid (bnext HB6.out hb)
            clear hb
            go_wp2_with fail
            refine (PE _).out.mono ?_
            rintro e w8 ⟨rfl, hb⟩
            have HB8 := Lib.hid (bnext HB7.out hb)
            clear hb
            go_wp2_with fail
            refine (PX _).out.mono ?_
            rintro e w9 ⟨rfl, hb⟩
            have HB9 := Lib.hid (bnext HB8.out hb)
            clear hb
            go_wp2_with fail
            refine (PC _).out.mono ?_
            rintro e w10 ⟨rfl, hb⟩
            have HB10 := Lib.hid (bnext HB9.out hb)
            clear hb
            go_wp2_with fail
            refine (PX _).out.mono ?_
            rintro e w11 ⟨rfl, hb⟩
            have HB11 := Lib.hid (bnext HB10.out hb)
            clear hb
            go_wp2_with fail
            refine (PU _).out.mono ?_
            rintro e w12 ⟨rfl, hb⟩
            have HB12 := Lib.hid (bnext HB11.out hb)
            clear hb
            go_wp2_with fail
            refine (C9 _).out.mono ?_
            rintro e w' ⟨rfl, rfl⟩
            go_wp2_with fail
            refine (CP _).out.mono ?_
            rintro e w13 ⟨rfl, hb⟩
            have HB13 := Lib.hid (bnext HB12.out hb)
            clear hb
            go_wp2_with fail
            go_ret
            exact ⟨rfl, HB13.out⟩
          · obtain rfl := f8 rfl
            clear f8
            go_wp2_with fail
            refine (C1 _).out.mono ?_
            rintro e w3 ⟨rfl, hb⟩
            have HB3 := Lib.hid (bnext HB2.out hb)
            clear hb
            go_wp2_with fail
            refine (C2 _).out.mono ?_
            rintro e w4 ⟨rfl, hb⟩
            have HB4 := Lib.hid (bnext HB3.out hb)
            clear hb
            go_wp2_with fail
            refine (V3 _).out.mono ?_
            rintro e w' ⟨rfl, rfl⟩
            go_wp2_with fail
            refine (PA _).out.mono ?_
            rintro e w5 ⟨rfl, hb⟩
            have HB5 := Lib.hid (bnext HB4.out hb)
            clear hb
            go_wp2_with fail
            refine (PB _).out.mono ?_
            rintro e w6 ⟨rfl, hb⟩
            have HB6 := Lib.hid (bnext HB5.out hb)
            clear hb
            go_wp2_with fail
            refine (PO _).out.mono ?_
            rintro e w7 ⟨rfl, hb⟩
            have HB7 := Lib.hid (bnext HB6.out hb)
            clear hb
            go_wp2_with fail
            refine (PE _).out.mono ?_
            rintro e w8 ⟨rfl, hb⟩
            have HB8 := Lib.hid (bnext HB7.out hb)
            clear hb
            go_wp2_with fail
            refine (PX _).out.mono ?_
            rintro e w9 ⟨rfl, hb⟩
            have HB9 := Lib.hid (bnext HB8.out hb)
            clear hb
            go_wp2_with fail
            refine (PC _).out.mono ?_
            rintro e w10 ⟨rfl, hb⟩
            have HB10 := Lib.hid (bnext HB9.out hb)
            clear hb
            go_wp2_with fail
            refine (PX _).out.mono ?_
            rintro e w11 ⟨rfl, hb⟩
            have HB11 := Lib.hid (bnext HB10.out hb)
            clear hb
            go_wp2_with fail
            refine (PU _).out.mono ?_
            rintro e w12 ⟨rfl, hb⟩
            have HB12 := Lib.hid (bnext HB11.out hb)
            clear hb
            go_wp2_with fail
            refine (C9 _).out.mono ?_
            rintro e w' ⟨rfl, rfl⟩
            go_wp2_with fail
            refine (CP _).out.mono ?_
            rintro e w13 ⟨rfl, hb⟩
            have HB13 := Lib.hid (bnext HB12.out hb)
            clear hb
            go_wp2_with fail
            refine (PX _).out.mono ?_
            rintro e w14 ⟨rfl, hb⟩
            have HB14 := Lib.hid (bnext HB13.out hb)
            clear hb
            go_wp2_with fail
            refine (PU _).out.mono ?_
            rintro e w15 ⟨rfl, hb⟩
            have HB15 := Lib.hid (bnext HB14.out hb)
            clear hb
            go_wp2_with fail
            go_ret
            exact ⟨rfl, HB15.out⟩
        · have V3 := fun w => Lib.hid (implPredValid_no o w ho)
          generalize bs (tb (wF p (hs q.data.toList))) = W at *
          clear hp he hl hq ho hW t1 q1 o1
          go_wp2_with fail
          refine (C1 _).out.mono ?_
          rintro e w3 ⟨rfl, hb⟩
          have HB3 := Lib.hid (bnext HB2.out hb)
          clear hb
          go_wp2_with fail
          refine (C2 _).out.mono ?_
          rintro e w4 ⟨rfl, hb⟩
          have HB4 := Lib.hid (bnext HB3.out hb)
          clear hb
          go_wp2_with fail
          refine (V3 _).out.mono ?_
          rintro e w' ⟨rfl, rfl⟩
          go_wp2_with fail
          go_ret
          exact ⟨rfl, HB4.out⟩
      · have C1 := fun w => Lib.hid (implFree_no t q hv w)
        have C2 := fun w => Lib.hid (specFree_no t q (Nat.le_trans q1 (by decide)) hv w)
        unfold NoPost at C1 C2
        clear hv t1 q1
        go_wp2_with fail
        refine (C1 _).out.mono ?_
        rintro e w3 ⟨rfl, hb⟩
        have HB3 := Lib.hid (bnext HB2.out hb)
        clear hb
        go_wp2_with fail
        refine (C2 _).out.mono ?_
        rintro e w4 ⟨rfl, hb⟩
        have HB4 := Lib.hid (bnext HB3.out hb)
        clear hb
        go_wp2_with fail
        go_ret
        exact ⟨rfl, HB4.out⟩

set_option linter.unusedVariables false in
set_option maxRecDepth 100000 in
theorem liftedConjunctive (os : Os) (started : os.Started) (H : Type) (enc : TypeId × Value → H) :
    ReturnsInHanded {} Tryz.checked os 5 .any (Rows.fnConjunctiveSpec.pre6 enc Tryz.prog Tryz.f5 Rows.fnConjunctiveRow.domain false) (Rows.fnConjunctiveSpec.post enc Tryz.prog Tryz.f5 false true false false) := by
  refine returnsInHanded_of_change (C := Tryz.checked) Tryz.own started (by kernel_rfl) Tryz.func5
    (ChangeSpec.witness6 (enc := enc) (C := Tryz.checked) false ⟨#[], #[.slice none 0 0, .slice none 0 0], []⟩ 8 (by kernel_rfl) (by kernel_rfl) (by kernel_rfl) (by kernel_rfl)) ?_
  intro W base args ds gs before hval0 hW hcnd _
  have hval : ∀ (j : Nat) t v, Tryz.f5.params[j]? = some t → args[j]? = some v → Value.okWide Tryz.prog W .any base t v := hval0
  have hW' := hW
  obtain ⟨p, q, hA0, hV, rfl, hfz, hnd⟩ := hW
  have hA : DataW.TrodAll enc Tryz.prog W 0 (fun _ => true) true Tryz.f5.params.toList args.toList ds p := hA0
  rw [Tryz.params5] at hA hval
  obtain ⟨v0, vs0, d0, ds0, p0, q0, hargs, rfl, rfl, h0, r0⟩ := trodAll_cons hA
  obtain ⟨v1, vs1, d1, ds1, p1, q1, rfl, rfl, rfl, h1, r1⟩ := trodAll_cons r0
  obtain ⟨rfl, rfl, rfl⟩ := trodAll_nil r1
  obtain rfl : args = #[v0, v1] := by cases args; simp_all
  obtain ⟨rfl, rfl⟩ := trodVars_none hV
  obtain ⟨a0, len0, cap0, rfl⟩ := okWide_slice Tryz.underlying22 (hval 0 22 v0 rfl rfl)
  have k0 := h0
  have lt0 : ∀ x ∈ p0, x.block < W.heap.size := by obtain ⟨m, hm⟩ := k0; exact DataW.trod_lt m _ _ _ hm
  obtain ⟨z0, w0⟩ : ∃ zs, IsRow W a0 len0 cap0 zs := by
    obtain ⟨fuel, hf⟩ := h0
    rcases open_ints Tryz.underlying22 Tryz.underlying5 (by kernel_rfl) hf with ⟨hcs, _⟩ | ⟨x, l, c, zs, hcs, _, hl, hm, hz, _, hcell, hwz⟩
    · simp [Value.cells] at hcs
      obtain ⟨rfl, rfl, rfl⟩ := hcs
      exact ⟨[], .inl ⟨rfl, rfl, rfl, rfl⟩⟩
    · simp [Value.cells] at hcs
      obtain ⟨rfl, rfl, rfl⟩ := hcs
      exact ⟨zs, .inr ⟨_, rfl, hl, hm, by simpa using hz, hcell, hwz⟩⟩
  obtain ⟨a1, len1, cap1, rfl⟩ := okWide_slice Tryz.underlying22 (hval 1 22 v1 rfl rfl)
  have k1 := h1
  have lt1 : ∀ x ∈ p1, x.block < W.heap.size := by obtain ⟨m, hm⟩ := k1; exact DataW.trod_lt m _ _ _ hm
  obtain ⟨z1, w1⟩ : ∃ zs, IsRow W a1 len1 cap1 zs := by
    obtain ⟨fuel, hf⟩ := h1
    rcases open_ints Tryz.underlying22 Tryz.underlying5 (by kernel_rfl) hf with ⟨hcs, _⟩ | ⟨x, l, c, zs, hcs, _, hl, hm, hz, _, hcell, hwz⟩
    · simp [Value.cells] at hcs
      obtain ⟨rfl, rfl, rfl⟩ := hcs
      exact ⟨[], .inl ⟨rfl, rfl, rfl, rfl⟩⟩
    · simp [Value.cells] at hcs
      obtain ⟨rfl, rfl, rfl⟩ := hcs
      exact ⟨zs, .inr ⟨_, rfl, hl, hm, by simpa using hz, hcell, hwz⟩⟩
  clear hA0 hval0
  refine (walkConjunctive W w0 w1).mono fun e W' ⟨he, bel⟩ => ?_
  subst he
  exact ⟨_, rfl, _, _, _, [], _, [], hW', trodAll_mk1 (shut_bool Tryz.underlying4 _), (trodAll_cons_mk (Below.trod laidOut (by kernel_rfl) (of_decide_eq_true (by kernel_rfl)) k0 bel lt0) (trodAll_cons_mk (Below.trod laidOut (by kernel_rfl) (of_decide_eq_true (by kernel_rfl)) k1 bel lt1) trodAll_mk0)), rfl, bel.frame _, fun h => by cases h⟩

theorem conjunctive_holds : Rows.FnConjunctiveSaid :=
  OpenClaim.holds_of_wide 5 Tryz.f5 rfl rfl rfl rfl rfl rfl rfl ⟨rfl, rfl, rfl, rfl, rfl⟩ rfl rfl rfl rfl rfl (by kernel_rfl) Tryz.func5 (by kernel_rfl)
    (of_decide_eq_true (by kernel_rfl)) (by unfold Func.isWrapper; first | (rw [if_pos (by decide +kernel)]; kernel_rfl) | (rw [if_neg (by decide +kernel)]; exact ⟨rfl, rfl⟩))
    (fun os started H enc _ => liftedConjunctive os started H enc)

#print axioms conjunctive_holds
end Go.Proofs.YthmghadepimcnaaGreat
