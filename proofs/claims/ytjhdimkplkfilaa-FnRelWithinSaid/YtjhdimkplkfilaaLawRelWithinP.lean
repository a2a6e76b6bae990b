/-
  The law of relations within others is true at all bytes: no condition.
-/
import Derived.Test.YtjhdimkplkfilaaRows
import Derived.Test.YtjhdimkplkfilaaR8
import Derived.Deep.RegionHeld3
import Derived.Test.YtjhdimkplkfilaaPpF
import Derived.ProofKit
import Derived.OpenShut
import Derived.ShutString
import Derived.ChangeOld
namespace Go.Proofs.Ytjhdimkplkfilaa
open Go.ChangeShapes Go.WideShapes Go.ChangeAt Go.RowKit
open Go.ChangeMaps (open_string shut_string)

theorem Try.own : ownKnob Try.prog.godebug = none := by kernel_rfl
theorem laidOut : laidOutB Try.prog = true := by kernel_rfl

set_option maxRecDepth 100000 in
set_option maxHeartbeats 16000000 in
theorem walkRelWithin {a0 : Option Addr} {len0 cap0 : Nat} {z0 : List Int} (w : World) (h0 : IsRow w a0 len0 cap0 z0) :
    Calls Try.prog 5 #[.slice a0 len0 cap0] w fun e w' => e = .returned (.bool true) ∧ Below w.heap.size w w' := by
  have D := Lib.hid (dRelWithin h0)
  clear h0
  by_cases hl : (1048576 : Int) < len0
  · go_enter Try.func5, Try.ntmps5
    go_wp2_with fail
    go_ret
    exact ⟨rfl, Below.refl _ _⟩
  · go_enter Try.func5, Try.ntmps5
    go_wp2_with fail
    refine D.out.mono ?_
    rintro e w1 ⟨s, t, s1, t1, rfl, hb⟩
    have HB1 := Lib.hid hb
    clear hb D
    by_cases hv : Rel729 s ∧ Rel729 t
    · obtain ⟨R, rfl⟩ : ∃ R, s = bs (relT R) := ⟨_, rel_bs hv.1⟩
      obtain ⟨Q, rfl⟩ : ∃ Q, t = bs (relT Q) := ⟨_, rel_bs hv.2⟩
      have W1 := iWithin (turnR R) (turnR Q)
      rw [in_turn] at W1
      have hN := in_count R Q
      have hE : ((bs (relT (fun i j => R i j || Q i j))).toList == (bs (relT Q)).toList) = inR R Q := by rw [tl_eq]; exact in_union R Q
      have C1 := iWithin R Q
      unfold Gives at C1
      have C2 := sWithin R Q
      unfold Gives at C2
      have V1 := iValid R
      unfold Gives at V1
      have V2 := iValid Q
      unfold Gives at V2
      have P1 := ppNotRel_of (iNot Q)
      unfold Gives at P1
      have P2 := ppAndRel_of (iAnd R (fun i j => !Q i j))
      unfold Gives at P2
      have D1 := iCount (fun i j => R i j && !Q i j)
      unfold Gives at D1
      have P3 := ppTurn_of (iTurn R)
      unfold Gives at P3
      have P4 := ppTurn_of (iTurn Q)
      unfold Gives at P4
      have P5 := ppOrRel_of (iOr R Q)
      unfold Gives at P5
      unfold Gives at W1
      generalize ((cntR (fun i j => R i j && !Q i j) 27 : Nat) : Int) = A at *
      generalize inR R Q = b at *
      generalize bs (relT (fun i j => R i j && !Q i j)) = X7 at *
      generalize bs (relT (fun i j => R i j || Q i j)) = X6 at *
      generalize bs (relT (fun i j => !Q i j)) = X4 at *
      generalize bs (relT (turnR R)) = X3 at *
      generalize bs (relT (turnR Q)) = X2 at *
      generalize bs (relT R) = X1 at *
      generalize bs (relT Q) = X0 at *
      clear hv s1 t1
      cases b
      · go_wp2_with fail
        refine (C1 _).out.mono ?_
        rintro e w2 ⟨rfl, hb⟩
        have HB2 := Lib.hid (bnext HB1.out hb)
        clear hb
        go_wp2_with fail
        refine (C2 _).out.mono ?_
        rintro e w3 ⟨rfl, hb⟩
        have HB3 := Lib.hid (bnext HB2.out hb)
        clear hb
        go_wp2_with fail
        refine (V1 _).out.mono ?_
        rintro e w4 ⟨rfl, hb⟩
        have HB4 := Lib.hid (bnext HB3.out hb)
        clear hb
        go_wp2_with fail
        refine (V2 _).out.mono ?_
        rintro e w5 ⟨rfl, hb⟩
        have HB5 := Lib.hid (bnext HB4.out hb)
        clear hb
        go_wp2_with fail
        refine (P1 _).out.mono ?_
        rintro e w6 ⟨rfl, hb⟩
        have HB6 := Lib.hid (bnext HB5.out hb)
        clear hb
        go_wp2_with fail
        refine (P2 _).out.mono ?_
        rintro e w7 ⟨rfl, hb⟩
        have HB7 := Lib.hid (bnext HB6.out hb)
        clear hb
        go_wp2_with fail
        refine (D1 _).out.mono ?_
        rintro e w8 ⟨rfl, hb⟩
        have HB8 := Lib.hid (bnext HB7.out hb)
        clear hb
        go_wp2_with fail
        refine (P3 _).out.mono ?_
        rintro e w9 ⟨rfl, hb⟩
        have HB9 := Lib.hid (bnext HB8.out hb)
        clear hb
        go_wp2_with fail
        refine (P4 _).out.mono ?_
        rintro e w10 ⟨rfl, hb⟩
        have HB10 := Lib.hid (bnext HB9.out hb)
        clear hb
        go_wp2_with fail
        refine (W1 _).out.mono ?_
        rintro e w11 ⟨rfl, hb⟩
        have HB11 := Lib.hid (bnext HB10.out hb)
        clear hb
        go_wp2_with fail
        refine (P5 _).out.mono ?_
        rintro e w12 ⟨rfl, hb⟩
        have HB12 := Lib.hid (bnext HB11.out hb)
        clear hb
        go_wp2_with fail
        go_ret
        exact ⟨rfl, HB12.out⟩
      · go_wp2_with fail
        refine (C1 _).out.mono ?_
        rintro e w2 ⟨rfl, hb⟩
        have HB2 := Lib.hid (bnext HB1.out hb)
        clear hb
        go_wp2_with fail
        refine (C2 _).out.mono ?_
        rintro e w3 ⟨rfl, hb⟩
        have HB3 := Lib.hid (bnext HB2.out hb)
        clear hb
        go_wp2_with fail
        refine (V1 _).out.mono ?_
        rintro e w4 ⟨rfl, hb⟩
        have HB4 := Lib.hid (bnext HB3.out hb)
        clear hb
        go_wp2_with fail
        refine (V2 _).out.mono ?_
        rintro e w5 ⟨rfl, hb⟩
        have HB5 := Lib.hid (bnext HB4.out hb)
        clear hb
        go_wp2_with fail
        refine (P1 _).out.mono ?_
        rintro e w6 ⟨rfl, hb⟩
        have HB6 := Lib.hid (bnext HB5.out hb)
        clear hb
        go_wp2_with fail
        refine (P2 _).out.mono ?_
        rintro e w7 ⟨rfl, hb⟩
        have HB7 := Lib.hid (bnext HB6.out hb)
        clear hb
        go_wp2_with fail
        refine (D1 _).out.mono ?_
        rintro e w8 ⟨rfl, hb⟩
        have HB8 := Lib.hid (bnext HB7.out hb)
        clear hb
        go_wp2_with fail
        refine (P3 _).out.mono ?_
        rintro e w9 ⟨rfl, hb⟩
        have HB9 := Lib.hid (bnext HB8.out hb)
        clear hb
        go_wp2_with fail
        refine (P4 _).out.mono ?_
        rintro e w10 ⟨rfl, hb⟩
        have HB10 := Lib.hid (bnext HB9.out hb)
        clear hb
        go_wp2_with fail
        refine (W1 _).out.mono ?_
        rintro e w11 ⟨rfl, hb⟩
        have HB11 := Lib.hid (bnext HB10.out hb)
        clear hb
        go_wp2_with fail
        refine (P5 _).out.mono ?_
        rintro e w12 ⟨rfl, hb⟩
        have HB12 := Lib.hid (bnext HB11.out hb)
        clear hb
        go_wp2_with fail
        go_ret
        exact ⟨rfl, HB12.out⟩
    · have C1 := fun w => Lib.hid (implRelWithin_no s t hv w)
      have C2 := fun w => Lib.hid (specRelWithin_no s t hv (Nat.le_trans s1 (by decide)) (Nat.le_trans t1 (by decide)) w)
      unfold BoolIs at C1 C2
      by_cases h1 : Rel729 s
      · have h2 : ¬ Rel729 t := fun h2 => hv ⟨h1, h2⟩
        have V1 := fun w => Lib.hid (implRelValid_yes s h1 w)
        have V2 := fun w => Lib.hid (implRelValid_no t h2 w)
        unfold BoolIs at V1 V2
        clear hv h1 h2 s1 t1
        go_wp2_with fail
        refine (C1 _).out.mono ?_
        rintro e w2 ⟨rfl, hb⟩
        have HB2 := Lib.hid (bnext HB1.out hb)
        clear hb
        go_wp2_with fail
        refine (C2 _).out.mono ?_
        rintro e w3 ⟨rfl, hb⟩
        have HB3 := Lib.hid (bnext HB2.out hb)
        clear hb
        go_wp2_with fail
        refine (V1 _).out.mono ?_
        rintro e w4 ⟨rfl, hb⟩
        have HB4 := Lib.hid (bnext HB3.out hb)
        clear hb
        go_wp2_with fail
        refine (V2 _).out.mono ?_
        rintro e w5 ⟨rfl, hb⟩
        have HB5 := Lib.hid (bnext HB4.out hb)
        clear hb
        go_wp2_with fail
        refine (C2 _).out.mono ?_
        rintro e w6 ⟨rfl, hb⟩
        have HB6 := Lib.hid (bnext HB5.out hb)
        clear hb
        go_wp2_with fail
        go_ret
        exact ⟨rfl, HB6.out⟩
      · have V1 := fun w => Lib.hid (implRelValid_no s h1 w)
        unfold BoolIs at V1
        clear hv h1 s1 t1
        go_wp2_with fail
        refine (C1 _).out.mono ?_
        rintro e w2 ⟨rfl, hb⟩
        have HB2 := Lib.hid (bnext HB1.out hb)
        clear hb
        go_wp2_with fail
        refine (C2 _).out.mono ?_
        rintro e w3 ⟨rfl, hb⟩
        have HB3 := Lib.hid (bnext HB2.out hb)
        clear hb
        go_wp2_with fail
        refine (V1 _).out.mono ?_
        rintro e w4 ⟨rfl, hb⟩
        have HB4 := Lib.hid (bnext HB3.out hb)
        clear hb
        go_wp2_with fail
        refine (C2 _).out.mono ?_
        rintro e w5 ⟨rfl, hb⟩
        have HB5 := Lib.hid (bnext HB4.out hb)
        clear hb
        go_wp2_with fail
        go_ret
        exact ⟨rfl, HB5.out⟩

set_option linter.unusedVariables false in
set_option maxRecDepth 100000 in
theorem liftedRelWithin (os : Os) (started : os.Started) (H : Type) (enc : TypeId × Value → H) :
    ReturnsInHanded {} Try.checked os 5 .any (Rows.fnRelWithinSpec.pre6 enc Try.prog Try.f5 Rows.fnRelWithinRow.domain false) (Rows.fnRelWithinSpec.post enc Try.prog Try.f5 false true false false) := by
  refine returnsInHanded_of_change (C := Try.checked) Try.own started (by kernel_rfl) Try.func5
    (ChangeSpec.witness6 (enc := enc) (C := Try.checked) false ⟨#[], #[.slice none 0 0], []⟩ 8 (by kernel_rfl) (by kernel_rfl) (by kernel_rfl) (by kernel_rfl)) ?_
  intro W base args ds gs before hval0 hW hcnd _
  have hval : ∀ (j : Nat) t v, Try.f5.params[j]? = some t → args[j]? = some v → Value.okWide Try.prog W .any base t v := hval0
  have hW' := hW
  obtain ⟨p, q, hA0, hV, rfl, hfz, hnd⟩ := hW
  have hA : DataW.TrodAll enc Try.prog W 0 (fun _ => true) true Try.f5.params.toList args.toList ds p := hA0
  rw [Try.params5] at hA hval
  obtain ⟨v0, vs0, d0, ds0, p0, q0, hargs, rfl, rfl, h0, r0⟩ := trodAll_cons hA
  obtain ⟨rfl, rfl, rfl⟩ := trodAll_nil r0
  obtain rfl : args = #[v0] := by cases args; simp_all
  obtain ⟨rfl, rfl⟩ := trodVars_none hV
  obtain ⟨a0, len0, cap0, rfl⟩ := okWide_slice Try.underlying22 (hval 0 22 v0 rfl rfl)
  have k0 := h0
  have lt0 : ∀ x ∈ p0, x.block < W.heap.size := by obtain ⟨m, hm⟩ := k0; exact DataW.trod_lt m _ _ _ hm
  obtain ⟨z0, w0⟩ : ∃ zs, IsRow W a0 len0 cap0 zs := by
    obtain ⟨fuel, hf⟩ := h0
    rcases open_ints Try.underlying22 Try.underlying5 (by kernel_rfl) hf with ⟨hcs, _⟩ | ⟨x, l, c, zs, hcs, _, hl, hm, hz, _, hcell, hwz⟩
    · simp [Value.cells] at hcs
      obtain ⟨rfl, rfl, rfl⟩ := hcs
      exact ⟨[], .inl ⟨rfl, rfl, rfl, rfl⟩⟩
    · simp [Value.cells] at hcs
      obtain ⟨rfl, rfl, rfl⟩ := hcs
      exact ⟨zs, .inr ⟨_, rfl, hl, hm, by simpa using hz, hcell, hwz⟩⟩
  clear hA0 hval0
  refine (walkRelWithin W w0).mono fun e W' ⟨he, bel⟩ => ?_
  subst he
  exact ⟨_, rfl, _, _, _, [], _, [], hW', trodAll_mk1 (shut_bool Try.underlying4 _), (trodAll_cons_mk (Below.trod laidOut (by kernel_rfl) (of_decide_eq_true (by kernel_rfl)) k0 bel lt0) trodAll_mk0), rfl, bel.frame _, fun h => by cases h⟩

theorem relWithin_holds : Rows.FnRelWithinSaid :=
  OpenClaim.holds_of_wide 5 Try.f5 rfl rfl rfl rfl rfl rfl rfl ⟨rfl, rfl, rfl, rfl, rfl⟩ rfl rfl rfl rfl rfl (by kernel_rfl) Try.func5 (by kernel_rfl)
    (of_decide_eq_true (by kernel_rfl)) (by unfold Func.isWrapper; first | (rw [if_pos (by decide +kernel)]; kernel_rfl) | (rw [if_neg (by decide +kernel)]; exact ⟨rfl, rfl⟩))
    (fun os started H enc _ => liftedRelWithin os started H enc)

#print axioms relWithin_holds
end Go.Proofs.Ytjhdimkplkfilaa
