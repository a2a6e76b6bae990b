/-
  The law of what is in both and in one of two relations is true at all bytes: no condition.
-/
import Derived.Test.YtjhdimkplkfilaaRows
import Derived.Test.YtjhdimkplkfilaaR8
import Derived.Deep.RegionHeld3
import Derived.Test.YtjhdimkplkfilaaPpF
import Derived.ProofKit
import Derived.OpenShut
import Derived.ShutString
import Derived.ChangeOld
namespace Go.Proofs.Ytjhdimkplkfilaa
open Go.ChangeShapes Go.WideShapes Go.ChangeAt Go.RowKit
open Go.ChangeMaps (open_string shut_string)

theorem Try.own : ownKnob Try.prog.godebug = none := by kernel_rfl
theorem laidOut : laidOutB Try.prog = true := by kernel_rfl

set_option maxRecDepth 100000 in
set_option maxHeartbeats 16000000 in
theorem walkRelSets {a0 : Option Addr} {len0 cap0 : Nat} {z0 : List Int} (w : World) (h0 : IsRow w a0 len0 cap0 z0) :
    Calls Try.prog 3 #[.slice a0 len0 cap0] w fun e w' => e = .returned (.bool true) ∧ Below w.heap.size w w' := by
  have D := Lib.hid (dAndRel h0)
  clear h0
  by_cases hl : (1048576 : Int) < len0
  · go_enter Try.func3, Try.ntmps3
    go_wp2_with fail
    go_ret
    exact ⟨rfl, Below.refl _ _⟩
  · go_enter Try.func3, Try.ntmps3
    go_wp2_with fail
    refine D.out.mono ?_
    rintro e w1 ⟨s, t, s1, t1, rfl, hb⟩
    have HB1 := Lib.hid hb
    clear hb D
    by_cases hv : Rel729 s ∧ Rel729 t
    · obtain ⟨R, rfl⟩ : ∃ R, s = bs (relT R) := ⟨_, rel_bs hv.1⟩
      obtain ⟨Q, rfl⟩ : ∃ Q, t = bs (relT Q) := ⟨_, rel_bs hv.2⟩
      have P4 : Gives 17 #[.string (bs (relT (fun i j => !R i j))), .string (bs (relT (fun i j => !Q i j)))] (.string (bs (relT (fun i j => !(R i j && Q i j))))) := by
        have h := ppOrRel_of (iOr (fun i j => !R i j) (fun i j => !Q i j))
        simp only [← Bool.not_and] at h
        exact h
      have P8 : Gives 20 #[.string (bs (relT (turnR R))), .string (bs (relT (turnR Q)))] (.string (bs (relT (turnR (fun i j => R i j && Q i j))))) := ppAndRel_of (iAnd (turnR R) (turnR Q))
      have hsum := cntR_and_or R Q 27
      have b1 := cntR_729 (fun i j => R i j && Q i j)
      have b2 := cntR_729 (fun i j => R i j || Q i j)
      have b3 := cntR_729 R
      have b4 := cntR_729 Q
      have hE : ((bs (relT (fun i j => R i j && Q i j))).toList == (bs (relT R)).toList) = inR R Q := tl_eq _ _
      have W1 := iWithin (fun i j => R i j && Q i j) R
      rw [in_and] at W1
      have W2 := iWithin Q (fun i j => R i j || Q i j)
      rw [in_or] at W2
      have C1 := iAnd R Q
      unfold Gives at C1
      have C2 := sAnd R Q
      unfold Gives at C2
      have C3 := iOr R Q
      unfold Gives at C3
      have C4 := sOr R Q
      unfold Gives at C4
      have D1 := iCount (fun i j => R i j && Q i j)
      unfold Gives at D1
      have D2 := iCount (fun i j => R i j || Q i j)
      unfold Gives at D2
      have D3 := iCount R
      unfold Gives at D3
      have D4 := iCount Q
      unfold Gives at D4
      have P1 := ppNotRel_of (iNot (fun i j => R i j && Q i j))
      unfold Gives at P1
      have P2 := ppNotRel_of (iNot R)
      unfold Gives at P2
      have P3 := ppNotRel_of (iNot Q)
      unfold Gives at P3
      have P5 := ppTurn_of (iTurn (fun i j => R i j && Q i j))
      unfold Gives at P5
      have P6 := ppTurn_of (iTurn R)
      unfold Gives at P6
      have P7 := ppTurn_of (iTurn Q)
      unfold Gives at P7
      have W3 := iWithin R Q
      unfold Gives at W3
      unfold Gives at P4 P8 W1 W2
      generalize cntR (fun i j => R i j && Q i j) 27 = A at *
      generalize cntR (fun i j => R i j || Q i j) 27 = O at *
      generalize cntR R 27 = M at *
      generalize cntR Q 27 = N at *
      have e1 : IntKind.i64.wrap ((A : Int) + (O : Int)) = ((A + O : Nat) : Int) := (IntWalk.i64_in _ (by omega)).trans (by omega)
      have e2 : IntKind.i64.wrap ((M : Int) + (N : Int)) = ((A + O : Nat) : Int) := (IntWalk.i64_in _ (by omega)).trans (by omega)
      generalize A + O = S at *
      generalize inR R Q = b at *
      generalize bs (relT (turnR (fun i j => R i j && Q i j))) = X9 at *
      generalize bs (relT (fun i j => !(R i j && Q i j))) = X8 at *
      generalize bs (relT (fun i j => R i j && Q i j)) = X7 at *
      generalize bs (relT (fun i j => R i j || Q i j)) = X6 at *
      generalize bs (relT (fun i j => !R i j)) = X5 at *
      generalize bs (relT (fun i j => !Q i j)) = X4 at *
      generalize bs (relT (turnR R)) = X3 at *
      generalize bs (relT (turnR Q)) = X2 at *
      generalize bs (relT R) = X1 at *
      generalize bs (relT Q) = X0 at *
      clear hv hsum s1 t1 b1 b2 b3 b4
      cases b
      · go_wp2_with fail
        refine (C1 _).out.mono ?_
        rintro e w2 ⟨rfl, hb⟩
        have HB2 := Lib.hid (bnext HB1.out hb)
        clear hb
        go_wp2_with fail
        refine (C2 _).out.mono ?_
        rintro e w3 ⟨rfl, hb⟩
        have HB3 := Lib.hid (bnext HB2.out hb)
        clear hb
        go_wp2_with fail
        refine (C3 _).out.mono ?_
        rintro e w4 ⟨rfl, hb⟩
        have HB4 := Lib.hid (bnext HB3.out hb)
        clear hb
        go_wp2_with fail
        refine (C4 _).out.mono ?_
        rintro e w5 ⟨rfl, hb⟩
        have HB5 := Lib.hid (bnext HB4.out hb)
        clear hb
        go_wp2_with fail
        refine (D1 _).out.mono ?_
        rintro e w6 ⟨rfl, hb⟩
        have HB6 := Lib.hid (bnext HB5.out hb)
        clear hb
        go_wp2_with fail
        refine (D2 _).out.mono ?_
        rintro e w7 ⟨rfl, hb⟩
        have HB7 := Lib.hid (bnext HB6.out hb)
        clear hb
        go_wp2_with fail
        refine (D3 _).out.mono ?_
        rintro e w8 ⟨rfl, hb⟩
        have HB8 := Lib.hid (bnext HB7.out hb)
        clear hb
        go_wp2_with fail
        refine (D4 _).out.mono ?_
        rintro e w9 ⟨rfl, hb⟩
        have HB9 := Lib.hid (bnext HB8.out hb)
        clear hb
        go_wp2_with fail
        refine (P1 _).out.mono ?_
        rintro e w10 ⟨rfl, hb⟩
        have HB10 := Lib.hid (bnext HB9.out hb)
        clear hb
        go_wp2_with fail
        refine (P2 _).out.mono ?_
        rintro e w11 ⟨rfl, hb⟩
        have HB11 := Lib.hid (bnext HB10.out hb)
        clear hb
        go_wp2_with fail
        refine (P3 _).out.mono ?_
        rintro e w12 ⟨rfl, hb⟩
        have HB12 := Lib.hid (bnext HB11.out hb)
        clear hb
        go_wp2_with fail
        refine (P4 _).out.mono ?_
        rintro e w13 ⟨rfl, hb⟩
        have HB13 := Lib.hid (bnext HB12.out hb)
        clear hb
        go_wp2_with fail
        refine (W1 _).out.mono ?_
        rintro e w14 ⟨rfl, hb⟩
        have HB14 := Lib.hid (bnext HB13.out hb)
        clear hb
        go_wp2_with fail
        refine (W2 _).out.mono ?_
        rintro e w15 ⟨rfl, hb⟩
        have HB15 := Lib.hid (bnext HB14.out hb)
        clear hb
        go_wp2_with fail
        refine (P5 _).out.mono ?_
        rintro e w16 ⟨rfl, hb⟩
        have HB16 := Lib.hid (bnext HB15.out hb)
        clear hb
        go_wp2_with fail
        refine (P6 _).out.mono ?_
        rintro e w17 ⟨rfl, hb⟩
        have HB17 := Lib.hid (bnext HB16.out hb)
        clear hb
        go_wp2_with fail
        refine (P7 _).out.mono ?_
        rintro e w18 ⟨rfl, hb⟩
        have HB18 := Lib.hid (bnext HB17.out hb)
        clear hb
        go_wp2_with fail
        refine (P8 _).out.mono ?_
        rintro e w19 ⟨rfl, hb⟩
        have HB19 := Lib.hid (bnext HB18.out hb)
        clear hb
        go_wp2_with fail
        refine (W3 _).out.mono ?_
        rintro e w20 ⟨rfl, hb⟩
        have HB20 := Lib.hid (bnext HB19.out hb)
        clear hb
        go_wp2_with fail
        go_ret
        exact ⟨rfl, HB20.out⟩
      · go_wp2_with fail
        refine (C1 _).out.mono ?_
        rintro e w2 ⟨rfl, hb⟩
        have HB2 := Lib.hid (bnext HB1.out hb)
        clear hb
        go_wp2_with fail
        refine (C2 _).out.mono ?_
        rintro e w3 ⟨rfl, hb⟩
        have HB3 := Lib.hid (bnext HB2.out hb)
        clear hb
        go_wp2_with fail
        refine (C3 _).out.mono ?_
        rintro e w4 ⟨rfl, hb⟩
        have HB4 := Lib.hid (bnext HB3.out hb)
        clear hb
        go_wp2_with fail
        refine (C4 _).out.mono ?_
        rintro e w5 ⟨rfl, hb⟩
        have HB5 := Lib.hid (bnext HB4.out hb)
        clear hb
        go_wp2_with fail
        refine (D1 _).out.mono ?_
        rintro e w6 ⟨rfl, hb⟩
        have HB6 := Lib.hid (bnext HB5.out hb)
        clear hb
        go_wp2_with fail
        refine (D2 _).out.mono ?_
        rintro e w7 ⟨rfl, hb⟩
        have HB7 := Lib.hid (bnext HB6.out hb)
        clear hb
        go_wp2_with fail
        refine (D3 _).out.mono ?_
        rintro e w8 ⟨rfl, hb⟩
        have HB8 := Lib.hid (bnext HB7.out hb)
        clear hb
        go_wp2_with fail
        refine (D4 _).out.mono ?_
        rintro e w9 ⟨rfl, hb⟩
        have HB9 := Lib.hid (bnext HB8.out hb)
        clear hb
        go_wp2_with fail
        refine (P1 _).out.mono ?_
        rintro e w10 ⟨rfl, hb⟩
        have HB10 := Lib.hid (bnext HB9.out hb)
        clear hb
        go_wp2_with fail
        refine (P2 _).out.mono ?_
        rintro e w11 ⟨rfl, hb⟩
        have HB11 := Lib.hid (bnext HB10.out hb)
        clear hb
        go_wp2_with fail
        refine (P3 _).out.mono ?_
        rintro e w12 ⟨rfl, hb⟩
        have HB12 := Lib.hid (bnext HB11.out hb)
        clear hb
        go_wp2_with fail
        refine (P4 _).out.mono ?_
        rintro e w13 ⟨rfl, hb⟩
        have HB13 := Lib.hid (bnext HB12.out hb)
        clear hb
        go_wp2_with fail
        refine (W1 _).out.mono ?_
        rintro e w14 ⟨rfl, hb⟩
        have HB14 := Lib.hid (bnext HB13.out hb)
        clear hb
        go_wp2_with fail
        refine (W2 _).out.mono ?_
        rintro e w15 ⟨rfl, hb⟩
        have HB15 := Lib.hid (bnext HB14.out hb)
        clear hb
        go_wp2_with fail
        refine (P5 _).out.mono ?_
        rintro e w16 ⟨rfl, hb⟩
        have HB16 := Lib.hid (bnext HB15.out hb)
        clear hb
        go_wp2_with fail
        refine (P6 _).out.mono ?_
        rintro e w17 ⟨rfl, hb⟩
        have HB17 := Lib.hid (bnext HB16.out hb)
        clear hb
        go_wp2_with fail
        refine (P7 _).out.mono ?_
        rintro e w18 ⟨rfl, hb⟩
        have HB18 := Lib.hid (bnext HB17.out hb)
        clear hb
        go_wp2_with fail
        refine (P8 _).out.mono ?_
        rintro e w19 ⟨rfl, hb⟩
        have HB19 := Lib.hid (bnext HB18.out hb)
        clear hb
        go_wp2_with fail
        refine (W3 _).out.mono ?_
        rintro e w20 ⟨rfl, hb⟩
        have HB20 := Lib.hid (bnext HB19.out hb)
        clear hb
        go_wp2_with fail
        go_ret
        exact ⟨rfl, HB20.out⟩
    · have C1 := fun w => Lib.hid (implAndRel_no s t hv w)
      have C2 := fun w => Lib.hid (specAndRel_no s t hv (Nat.le_trans s1 (by decide)) (Nat.le_trans t1 (by decide)) w)
      have C3 := fun w => Lib.hid (implOrRel_no s t hv w)
      have C4 := fun w => Lib.hid (specOrRel_no s t hv (Nat.le_trans s1 (by decide)) (Nat.le_trans t1 (by decide)) w)
      unfold TextOk at C1 C2 C3 C4
      clear hv s1 t1
      go_wp2_with fail
      refine (C1 _).out.mono ?_
      rintro e w2 ⟨rfl, hb⟩
      have HB2 := Lib.hid (bnext HB1.out hb)
      clear hb
      go_wp2_with fail
      refine (C2 _).out.mono ?_
      rintro e w3 ⟨rfl, hb⟩
      have HB3 := Lib.hid (bnext HB2.out hb)
      clear hb
      go_wp2_with fail
      refine (C3 _).out.mono ?_
      rintro e w4 ⟨rfl, hb⟩
      have HB4 := Lib.hid (bnext HB3.out hb)
      clear hb
      go_wp2_with fail
      refine (C4 _).out.mono ?_
      rintro e w5 ⟨rfl, hb⟩
      have HB5 := Lib.hid (bnext HB4.out hb)
      clear hb
      go_wp2_with fail
      go_ret
      exact ⟨rfl, HB5.out⟩

set_option linter.unusedVariables false in
set_option maxRecDepth 100000 in
theorem liftedRelSets (os : Os) (started : os.Started) (H : Type) (enc : TypeId × Value → H) :
    ReturnsInHanded {} Try.checked os 3 .any (Rows.fnRelSetsSpec.pre6 enc Try.prog Try.f3 Rows.fnRelSetsRow.domain false) (Rows.fnRelSetsSpec.post enc Try.prog Try.f3 false true false false) := by
  refine returnsInHanded_of_change (C := Try.checked) Try.own started (by kernel_rfl) Try.func3
    (ChangeSpec.witness6 (enc := enc) (C := Try.checked) false ⟨#[], #[.slice none 0 0], []⟩ 8 (by kernel_rfl) (by kernel_rfl) (by kernel_rfl) (by kernel_rfl)) ?_
  intro W base args ds gs before hval0 hW hcnd _
  have hval : ∀ (j : Nat) t v, Try.f3.params[j]? = some t → args[j]? = some v → Value.okWide Try.prog W .any base t v := hval0
  have hW' := hW
  obtain ⟨p, q, hA0, hV, rfl, hfz, hnd⟩ := hW
  have hA : DataW.TrodAll enc Try.prog W 0 (fun _ => true) true Try.f3.params.toList args.toList ds p := hA0
  rw [Try.params3] at hA hval
  obtain ⟨v0, vs0, d0, ds0, p0, q0, hargs, rfl, rfl, h0, r0⟩ := trodAll_cons hA
  obtain ⟨rfl, rfl, rfl⟩ := trodAll_nil r0
  obtain rfl : args = #[v0] := by cases args; simp_all
  obtain ⟨rfl, rfl⟩ := trodVars_none hV
  obtain ⟨a0, len0, cap0, rfl⟩ := okWide_slice Try.underlying22 (hval 0 22 v0 rfl rfl)
  have k0 := h0
  have lt0 : ∀ x ∈ p0, x.block < W.heap.size := by obtain ⟨m, hm⟩ := k0; exact DataW.trod_lt m _ _ _ hm
  obtain ⟨z0, w0⟩ : ∃ zs, IsRow W a0 len0 cap0 zs := by
    obtain ⟨fuel, hf⟩ := h0
    rcases open_ints Try.underlying22 Try.underlying5 (by kernel_rfl) hf with ⟨hcs, _⟩ | ⟨x, l, c, zs, hcs, _, hl, hm, hz, _, hcell, hwz⟩
    · simp [Value.cells] at hcs
      obtain ⟨rfl, rfl, rfl⟩ := hcs
      exact ⟨[], .inl ⟨rfl, rfl, rfl, rfl⟩⟩
    · simp [Value.cells] at hcs
      obtain ⟨rfl, rfl, rfl⟩ := hcs
      exact ⟨zs, .inr ⟨_, rfl, hl, hm, by simpa using hz, hcell, hwz⟩⟩
  clear hA0 hval0
  refine (walkRelSets W w0).mono fun e W' ⟨he, bel⟩ => ?_
  subst he
  exact ⟨_, rfl, _, _, _, [], _, [], hW', trodAll_mk1 (shut_bool Try.underlying4 _), (trodAll_cons_mk (Below.trod laidOut (by kernel_rfl) (of_decide_eq_true (by kernel_rfl)) k0 bel lt0) trodAll_mk0), rfl, bel.frame _, fun h => by cases h⟩

theorem relSets_holds : Rows.FnRelSetsSaid :=
  OpenClaim.holds_of_wide 3 Try.f3 rfl rfl rfl rfl rfl rfl rfl ⟨rfl, rfl, rfl, rfl, rfl⟩ rfl rfl rfl rfl rfl (by kernel_rfl) Try.func3 (by kernel_rfl)
    (of_decide_eq_true (by kernel_rfl)) (by unfold Func.isWrapper; first | (rw [if_pos (by decide +kernel)]; kernel_rfl) | (rw [if_neg (by decide +kernel)]; exact ⟨rfl, rfl⟩))
    (fun os started H enc _ => liftedRelSets os started H enc)

#print axioms relSets_holds
end Go.Proofs.Ytjhdimkplkfilaa
