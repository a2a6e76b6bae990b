/-
  The law of quantified sets is true at all bytes: no condition.
-/
import Derived.Test.YtnhadmeadegckaaRows
import Derived.Test.YtnhadmeadegckaaTopN
import Derived.ProofKit
import Derived.OpenShut
import Derived.ShutString
import Derived.ChangeOld
namespace Go.Proofs.Ytnhadmeadegckaa
open Go.ChangeShapes Go.WideShapes Go.ChangeAt Go.RowKit
open Go.ChangeMaps (open_string shut_string)

theorem Try.own : ownKnob Try.prog.godebug = none := by kernel_rfl
theorem laidOut : laidOutB Try.prog = true := by kernel_rfl

theorem q_facts (p : ByteArray) (c : UInt8) (hc : c = 120 ∨ c = 121 ∨ c = 122) : ∃ (x y m o vx vy : ByteArray), Set27 x ∧ Set27 y ∧ Set27 m ∧
    bs (tb (someF c (hs p.data.toList))) = x ∧ bs (tb (allF c (hs p.data.toList))) = y ∧ bs (tb (fun i => !hs p.data.toList i)) = m ∧ bs (tb (someF c (hs m.data.toList))) = o ∧ bs (tb (fun i => !hs y.data.toList i)) = o ∧
    wi 27 (hs p.data.toList) (hs x.data.toList) = true ∧ wi 27 (hs y.data.toList) (hs p.data.toList) = true ∧ bs (depL (hs x.data.toList)) = vx ∧ bs (depL (hs y.data.toList)) = vy ∧
    decide (c ∈ vx.data.toList) = false ∧ decide (c ∈ vy.data.toList) = false ∧ vx.size ≤ 3 ∧ vy.size ≤ 3 := by
  have e : ∀ F : Nat → Bool, (bs (depL F)).data.toList = depL F := fun F => by simp [bs]
  refine ⟨_, _, _, _, _, _, set27_tb _, set27_tb _, set27_tb _, rfl, rfl, rfl, rfl, ?_, ?_, ?_, rfl, rfl, ?_, ?_, depL_size _, depL_size _⟩
  · refine bs_ext fun i hi => ?_
    rw [hs_bs _ i hi, some_congr (fun j hj => hs_bs _ j hj) hi, some_not]
  · rw [wi_iff]
    intro i hi h
    rw [hs_bs _ i hi]
    exact some_in hc hi h
  · rw [wi_iff]
    intro i hi h
    rw [hs_bs _ i hi] at h
    exact all_in hc hi h
  · rw [e, decide_eq_false_iff_not, depL_mem hc, depB_congr (letter_mem hc) (G := someF c (hs p.data.toList)) (fun i hi => hs_bs _ i hi), some_dep hc]
    simp
  · rw [e, decide_eq_false_iff_not, depL_mem hc, depB_congr (letter_mem hc) (G := allF c (hs p.data.toList)) (fun i hi => hs_bs _ i hi), all_dep hc]
    simp
theorem q_facts2 {p q x : ByteArray} (c : UInt8) (hc : c = 120 ∨ c = 121 ∨ c = 122) (hx : bs (tb (someF c (hs p.data.toList))) = x) : ∃ (z : ByteArray) (b : Bool), Set27 z ∧ bs (tb (allF c (hs q.data.toList))) = z ∧
    wi 27 (hs x.data.toList) (hs q.data.toList) = b ∧ wi 27 (hs p.data.toList) (hs z.data.toList) = b := by
  subst hx
  refine ⟨_, _, set27_tb _, rfl, rfl, ?_⟩
  rw [wi_congr (F' := hs p.data.toList) (G' := allF c (hs q.data.toList)) (fun _ _ => rfl) (fun i hi => hs_bs _ i hi), ← galois hc]
  exact (wi_congr (fun i hi => hs_bs _ i hi) (fun _ _ => rfl)).symm

set_option maxRecDepth 100000 in
set_option maxHeartbeats 16000000 in
theorem walkQuantPred {a0 : Option Addr} {len0 cap0 : Nat} {z0 : List Int} {a1 : Option Addr} {len1 cap1 : Nat} {z1 : List Int} (w : World) (h0 : IsRow w a0 len0 cap0 z0) (h1 : IsRow w a1 len1 cap1 z1) :
    Calls Try.prog 8 #[.slice a0 len0 cap0, .slice a1 len1 cap1] w fun e w' => e = .returned (.bool true) ∧ Below w.heap.size w w' := by
  have D := Lib.hid (drawSoV h0)
  have HR1 := Lib.hid h1
  clear h0 h1
  by_cases hl : (1048576 : Int) < len0
  · go_enter Try.func8, Try.ntmps8
    go_wp2_with fail
    go_ret
    exact ⟨rfl, Below.refl _ _⟩
  · by_cases hl1 : (1048576 : Int) < len1
    · go_enter Try.func8, Try.ntmps8
      go_wp2_with fail
      go_ret
      exact ⟨rfl, Below.refl _ _⟩
    · go_enter Try.func8, Try.ntmps8
      go_wp2_with fail
      refine D.out.mono ?_
      rintro e w1 ⟨t, v, t1, v1, rfl, hb⟩
      have HB1 := Lib.hid hb
      clear hb D
      by_cases hv : Set27 t ∧ IsVar v
      · obtain ⟨c, j, hj, rfl⟩ : ∃ c j, VarAt c j ∧ v = ⟨#[c]⟩ := by
          rcases hv.2 with rfl | rfl | rfl
          · exact ⟨120, 0, by simp [VarAt], rfl⟩
          · exact ⟨121, 1, by simp [VarAt], rfl⟩
          · exact ⟨122, 2, by simp [VarAt], rfl⟩
        have hv1 := hv.1
        have hc : c = 120 ∨ c = 121 ∨ c = 122 := by rcases hv.2 with h | h | h <;> simp at h <;> simp [h]
        obtain ⟨x, y, m, o, vx, vy, hx, hy, hm, e1, e2, e3, e4, e5, e6, e7, e8, e9, e10, e11, z1, z2⟩ := q_facts t c hc
        have C1 := fun w => Lib.hid (implSomeV_yes t ⟨#[c]⟩ c w hv1 rfl hc)
        have C2 := fun w => Lib.hid (specSomeV_yes t ⟨#[c]⟩ c j w hv1 rfl hj)
        have C3 := fun w => Lib.hid (implAllV_yes t ⟨#[c]⟩ c w hv1 rfl hc)
        have C4 := fun w => Lib.hid (specAllV_yes t ⟨#[c]⟩ c j w hv1 rfl hj)
        have C10 := fun w => Lib.hid (implNotP_yes t w hv1)
        have C11 := fun w => Lib.hid (implSomeV_yes m ⟨#[c]⟩ c w hm rfl hc)
        have C12 := fun w => Lib.hid (implPWithin_yes t x w hv1 hx)
        have C13 := fun w => Lib.hid (implPWithin_yes y t w hy hv1)
        have C16 := fun w => Lib.hid (implNotP_yes y w hy)
        have C14 := fun w => Lib.hid (implPV_yes x w hx)
        have C15 := fun w => Lib.hid (implPV_yes y w hy)
        have H1 := fun w => Lib.hid (has_any vx c w (by omega))
        have H2 := fun w => Lib.hid (has_any vy c w (by omega))
        have HHC := Lib.hid hc
        have HX1 := Lib.hid hx
        have HV1 := Lib.hid hv1
        have E1 := Lib.hid e1
        rw [e1] at C1 C2
        rw [e2] at C3 C4
        rw [e3] at C10
        rw [e4] at C11
        rw [e6] at C12
        rw [e7] at C13
        rw [e5] at C16
        rw [e8] at C14
        rw [e9] at C15
        rw [e10] at H1
        rw [e11] at H2
        have P1 := fun w => Lib.hid (ppNot_of t m true C10 w)
        have P2 := fun w => Lib.hid (ppNot_of y o true C16 w)
        clear hv hv1 hc hx hy hm e1 e2 e3 e4 e5 e6 e7 e8 e9 e10 e11 z1 z2 C10 C16 t1 v1 hj
        go_wp2_with fail
        refine (C1 _).out.mono ?_
        rintro e w2 ⟨rfl, hb⟩
        have HB2 := Lib.hid (bnext HB1.out hb)
        clear hb
        go_wp2_with fail
        refine (C2 _).out.mono ?_
        rintro e w3 ⟨rfl, hb⟩
        have HB3 := Lib.hid (bnext HB2.out hb)
        clear hb
        go_wp2_with fail
        refine (C3 _).out.mono ?_
        rintro e w4 ⟨rfl, hb⟩
        have HB4 := Lib.hid (bnext HB3.out hb)
        clear hb
        go_wp2_with fail
        refine (C4 _).out.mono ?_
        rintro e w5 ⟨rfl, hb⟩
        have HB5 := Lib.hid (bnext HB4.out hb)
        clear hb
        have D2 := Lib.hid (drawSoV (HR1.out.kept HB5.out))
        go_wp2_with fail
        refine D2.out.mono ?_
        rintro e w6 ⟨q, u, q1, u1, rfl, hb⟩
        have HB6 := Lib.hid (bnext HB5.out hb)
        clear hb D2 HR1
        by_cases hq : Set27 q
        · obtain ⟨z, b, hz, f1, f2, f3⟩ := q_facts2 (q := q) c HHC.out E1.out
          have C5 := fun w => Lib.hid (implAllV_yes q ⟨#[c]⟩ c w hq rfl HHC.out)
          have C6 := fun w => Lib.hid (implPWithin_yes x q w HX1.out hq)
          have C7 := fun w => Lib.hid (implPWithin_yes t z w HV1.out hz)
          rw [f1] at C5
          rw [f2] at C6
          rw [f3] at C7
          clear hq hz f1 f2 f3 q1 u1
          go_wp2_with fail
          refine (C5 _).out.mono ?_
          rintro e w7 ⟨rfl, hb⟩
          have HB7 := Lib.hid (bnext HB6.out hb)
          clear hb
          go_wp2_with fail
          refine (C6 _).out.mono ?_
          rintro e w' ⟨rfl, rfl⟩
          go_wp2_with fail
          refine (C7 _).out.mono ?_
          rintro e w' ⟨rfl, rfl⟩
          go_wp2_with fail
          refine (P1 _).out.mono ?_
          rintro e w8 ⟨rfl, hb⟩
          have HB8 := Lib.hid (bnext HB7.out hb)
          clear hb
          go_wp2_with fail
          refine (C11 _).out.mono ?_
          rintro e w9 ⟨rfl, hb⟩
          have HB9 := Lib.hid (bnext HB8.out hb)
          clear hb
          go_wp2_with fail
          refine (C12 _).out.mono ?_
          rintro e w' ⟨rfl, rfl⟩
          go_wp2_with fail
          refine (C13 _).out.mono ?_
          rintro e w' ⟨rfl, rfl⟩
          go_wp2_with fail
          refine (P2 _).out.mono ?_
          rintro e w10 ⟨rfl, hb⟩
          have HB10 := Lib.hid (bnext HB9.out hb)
          clear hb
          go_wp2_with fail
          refine (C14 _).out.mono ?_
          rintro e w11 ⟨rfl, hb⟩
          have HB11 := Lib.hid (bnext HB10.out hb)
          clear hb
          go_wp2_with fail
          refine (H1 _).out.mono ?_
          rintro e w' ⟨rfl, rfl⟩
          go_wp2_with fail
          refine (C15 _).out.mono ?_
          rintro e w12 ⟨rfl, hb⟩
          have HB12 := Lib.hid (bnext HB11.out hb)
          clear hb
          go_wp2_with fail
          refine (H2 _).out.mono ?_
          rintro e w' ⟨rfl, rfl⟩
          go_wp2_with fail
          go_ret
          exact ⟨rfl, HB12.out⟩
        · have C5 := fun w => Lib.hid (implAllV_no q ⟨#[c]⟩ w (by show 1 ≤ maxLen; decide) (fun h => hq h.1))
          clear hq q1 u1
          go_wp2_with fail
          refine (C5 _).out.mono ?_
          rintro e w7 ⟨rfl, hb⟩
          have HB7 := Lib.hid (bnext HB6.out hb)
          clear hb
          go_wp2_with fail
          refine (P1 _).out.mono ?_
          rintro e w8 ⟨rfl, hb⟩
          have HB8 := Lib.hid (bnext HB7.out hb)
          clear hb
          go_wp2_with fail
          refine (C11 _).out.mono ?_
          rintro e w9 ⟨rfl, hb⟩
          have HB9 := Lib.hid (bnext HB8.out hb)
          clear hb
          go_wp2_with fail
          refine (C12 _).out.mono ?_
          rintro e w' ⟨rfl, rfl⟩
          go_wp2_with fail
          refine (C13 _).out.mono ?_
          rintro e w' ⟨rfl, rfl⟩
          go_wp2_with fail
          refine (P2 _).out.mono ?_
          rintro e w10 ⟨rfl, hb⟩
          have HB10 := Lib.hid (bnext HB9.out hb)
          clear hb
          go_wp2_with fail
          refine (C14 _).out.mono ?_
          rintro e w11 ⟨rfl, hb⟩
          have HB11 := Lib.hid (bnext HB10.out hb)
          clear hb
          go_wp2_with fail
          refine (H1 _).out.mono ?_
          rintro e w' ⟨rfl, rfl⟩
          go_wp2_with fail
          refine (C15 _).out.mono ?_
          rintro e w12 ⟨rfl, hb⟩
          have HB12 := Lib.hid (bnext HB11.out hb)
          clear hb
          go_wp2_with fail
          refine (H2 _).out.mono ?_
          rintro e w' ⟨rfl, rfl⟩
          go_wp2_with fail
          go_ret
          exact ⟨rfl, HB12.out⟩
      · have C1 := fun w => Lib.hid (implSomeV_no t v w (Nat.le_trans v1 (by decide)) hv)
        have C2 := fun w => Lib.hid (specSomeV_no t v w (Nat.le_trans t1 (by decide)) (Nat.le_trans v1 (by decide)) hv)
        have C3 := fun w => Lib.hid (implAllV_no t v w (Nat.le_trans v1 (by decide)) hv)
        have C4 := fun w => Lib.hid (specAllV_no t v w (Nat.le_trans t1 (by decide)) (Nat.le_trans v1 (by decide)) hv)
        clear hv t1 v1
        go_wp2_with fail
        refine (C1 _).out.mono ?_
        rintro e w2 ⟨rfl, hb⟩
        have HB2 := Lib.hid (bnext HB1.out hb)
        clear hb
        go_wp2_with fail
        refine (C2 _).out.mono ?_
        rintro e w3 ⟨rfl, hb⟩
        have HB3 := Lib.hid (bnext HB2.out hb)
        clear hb
        go_wp2_with fail
        refine (C3 _).out.mono ?_
        rintro e w4 ⟨rfl, hb⟩
        have HB4 := Lib.hid (bnext HB3.out hb)
        clear hb
        go_wp2_with fail
        refine (C4 _).out.mono ?_
        rintro e w5 ⟨rfl, hb⟩
        have HB5 := Lib.hid (bnext HB4.out hb)
        clear hb
        go_wp2_with fail
        go_ret
        exact ⟨rfl, HB5.out⟩

set_option linter.unusedVariables false in
set_option maxRecDepth 100000 in
theorem liftedQuantPred (os : Os) (started : os.Started) (H : Type) (enc : TypeId × Value → H) :
    ReturnsInHanded {} Try.checked os 8 .any (Rows.fnQuantPredSpec.pre6 enc Try.prog Try.f8 Rows.fnQuantPredRow.domain false) (Rows.fnQuantPredSpec.post enc Try.prog Try.f8 false true false false) := by
  refine returnsInHanded_of_change (C := Try.checked) Try.own started (by kernel_rfl) Try.func8
    (ChangeSpec.witness6 (enc := enc) (C := Try.checked) false ⟨#[], #[.slice none 0 0, .slice none 0 0], []⟩ 8 (by kernel_rfl) (by kernel_rfl) (by kernel_rfl) (by kernel_rfl)) ?_
  intro W base args ds gs before hval0 hW hcnd _
  have hval : ∀ (j : Nat) t v, Try.f8.params[j]? = some t → args[j]? = some v → Value.okWide Try.prog W .any base t v := hval0
  have hW' := hW
  obtain ⟨p, q, hA0, hV, rfl, hfz, hnd⟩ := hW
  have hA : DataW.TrodAll enc Try.prog W 0 (fun _ => true) true Try.f8.params.toList args.toList ds p := hA0
  rw [Try.params8] at hA hval
  obtain ⟨v0, vs0, d0, ds0, p0, q0, hargs, rfl, rfl, h0, r0⟩ := trodAll_cons hA
  obtain ⟨v1, vs1, d1, ds1, p1, q1, rfl, rfl, rfl, h1, r1⟩ := trodAll_cons r0
  obtain ⟨rfl, rfl, rfl⟩ := trodAll_nil r1
  obtain rfl : args = #[v0, v1] := by cases args; simp_all
  obtain ⟨rfl, rfl⟩ := trodVars_none hV
  obtain ⟨a0, len0, cap0, rfl⟩ := okWide_slice Try.underlying22 (hval 0 22 v0 rfl rfl)
  have k0 := h0
  have lt0 : ∀ x ∈ p0, x.block < W.heap.size := by obtain ⟨m, hm⟩ := k0; exact DataW.trod_lt m _ _ _ hm
  obtain ⟨z0, w0⟩ : ∃ zs, IsRow W a0 len0 cap0 zs := by
    obtain ⟨fuel, hf⟩ := h0
    rcases open_ints Try.underlying22 Try.underlying5 (by kernel_rfl) hf with ⟨hcs, _⟩ | ⟨x, l, c, zs, hcs, _, hl, hm, hz, _, hcell, hwz⟩
    · simp [Value.cells] at hcs
      obtain ⟨rfl, rfl, rfl⟩ := hcs
      exact ⟨[], .inl ⟨rfl, rfl, rfl, rfl⟩⟩
    · simp [Value.cells] at hcs
      obtain ⟨rfl, rfl, rfl⟩ := hcs
      exact ⟨zs, .inr ⟨_, rfl, hl, hm, by simpa using hz, hcell, hwz⟩⟩
  obtain ⟨a1, len1, cap1, rfl⟩ := okWide_slice Try.underlying22 (hval 1 22 v1 rfl rfl)
  have k1 := h1
  have lt1 : ∀ x ∈ p1, x.block < W.heap.size := by obtain ⟨m, hm⟩ := k1; exact DataW.trod_lt m _ _ _ hm
  obtain ⟨z1, w1⟩ : ∃ zs, IsRow W a1 len1 cap1 zs := by
    obtain ⟨fuel, hf⟩ := h1
    rcases open_ints Try.underlying22 Try.underlying5 (by kernel_rfl) hf with ⟨hcs, _⟩ | ⟨x, l, c, zs, hcs, _, hl, hm, hz, _, hcell, hwz⟩
    · simp [Value.cells] at hcs
      obtain ⟨rfl, rfl, rfl⟩ := hcs
      exact ⟨[], .inl ⟨rfl, rfl, rfl, rfl⟩⟩
    · simp [Value.cells] at hcs
      obtain ⟨rfl, rfl, rfl⟩ := hcs
      exact ⟨zs, .inr ⟨_, rfl, hl, hm, by simpa using hz, hcell, hwz⟩⟩
  clear hA0 hval0
  refine (walkQuantPred W w0 w1).mono fun e W' ⟨he, bel⟩ => ?_
  subst he
  exact ⟨_, rfl, _, _, _, [], _, [], hW', trodAll_mk1 (shut_bool Try.underlying4 _), (trodAll_cons_mk (Below.trod laidOut (by kernel_rfl) (of_decide_eq_true (by kernel_rfl)) k0 bel lt0) (trodAll_cons_mk (Below.trod laidOut (by kernel_rfl) (of_decide_eq_true (by kernel_rfl)) k1 bel lt1) trodAll_mk0)), rfl, bel.frame _, fun h => by cases h⟩

theorem quantPred_holds : Rows.FnQuantPredSaid :=
  OpenClaim.holds_of_wide 8 Try.f8 rfl rfl rfl rfl rfl rfl rfl ⟨rfl, rfl, rfl, rfl, rfl⟩ rfl rfl rfl rfl rfl (by kernel_rfl) Try.func8 (by kernel_rfl)
    (of_decide_eq_true (by kernel_rfl)) (by unfold Func.isWrapper; first | (rw [if_pos (by decide +kernel)]; kernel_rfl) | (rw [if_neg (by decide +kernel)]; exact ⟨rfl, rfl⟩))
    (fun os started H enc _ => liftedQuantPred os started H enc)

#print axioms quantPred_holds
end Go.Proofs.Ytnhadmeadegckaa
