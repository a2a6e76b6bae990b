/-
  The law of StateIndex is true at every state: no condition.
-/
import Derived.Test.YtghfnmmiimbphaaRows
import Derived.Test.YtghfnmmiimbphaaStIx
import Derived.ProofKit
import Derived.Lib.SmallJoins
import Derived.ChangeSame
import Derived.JoinedOf
import Derived.JoinedAt
import Derived.RowKit3
import Derived.ShutString
namespace Go.Proofs.Ytghfnmmiimbphaa
open Go.ChangeShapes Go.WideShapes Go.ChangeAt Go.RowKit Go.Joins
open Go.WideMaps Go.WideElems
open Go.ChangeMaps (open_string shut_string)

theorem Try.own : ownKnob Try.prog.godebug = none := by kernel_rfl
theorem cellsSt : Try.prog.cellsOf 23 = 3 := by kernel_rfl

set_option maxRecDepth 100000 in
set_option maxHeartbeats 4000000 in
theorem lawStateIndex_of (r0 : Int) (x0 y0 z0 : Int) (w : World)
    (c1 : ∀ w, Calls Try.prog 7 #[.agg #[.int .i64 x0, .int .i64 y0, .int .i64 z0]] w fun e w' => e = .returned (.int .i64 r0) ∧ Below w.heap.size w w')
    (c2 : ∀ w, Calls Try.prog 9 #[.agg #[.int .i64 x0, .int .i64 y0, .int .i64 z0]] w fun e w' => e = .returned (.int .i64 r0) ∧ Below w.heap.size w w') :
    Calls Try.prog 3 #[.agg #[.int .i64 x0, .int .i64 y0, .int .i64 z0]] w fun e w' => e = .returned (.bool true) ∧ Below w.heap.size w w' := by
  have C1 := Lib.hid c1
  have C2 := Lib.hid c2
  clear c1 c2
  go_enter Try.func3, Try.ntmps3
  go_wp2_with fail
  have t0 := Blk.new w #[.int .i64 x0, .int .i64 y0, .int .i64 z0] 23
  have hB := (Below.refl _ w).alloc (Nat.le_refl _) (.cells #[.int .i64 x0, .int .i64 y0, .int .i64 z0] 23)
  generalize w.alloc (.cells #[.int .i64 x0, .int .i64 y0, .int .i64 z0] 23) = w0 at *
  have HB0 := Lib.hid hB
  have HT0 := Lib.hid t0
  clear hB t0
  refine (lawToState _ _ _ _).mono ?_
  rintro e w1 ⟨rfl, hb⟩
  have HB1 := Lib.hid (bnext HB0.out hb)
  have HT1 := Lib.hid (HT0.out.kept hb)
  clear hb
  go_wp2_with fail
  refine (C1.out _).mono ?_
  rintro e w2 ⟨rfl, hb⟩
  have HB2 := Lib.hid (bnext HB1.out hb)
  have HT2 := Lib.hid (HT1.out.kept hb)
  clear hb
  obtain ⟨q0, q1, q2⟩ := HT2.out.c3
  go_wp2_with fail
  clear q0 q1 q2
  refine (lawToState _ _ _ _).mono ?_
  rintro e w3 ⟨rfl, hb⟩
  have HB3 := Lib.hid (bnext HB2.out hb)
  clear hb
  go_wp2_with fail
  refine (C2.out _).mono ?_
  rintro e w4 ⟨rfl, hb⟩
  have HB4 := Lib.hid (bnext HB3.out hb)
  clear hb
  go_wp2_with fail
  go_ret
  exact ⟨rfl, HB4.out⟩

theorem lawStateIndex (x y z : Int) (w : World) : Calls Try.prog 3 #[.agg #[.int .i64 x, .int .i64 y, .int .i64 z]] w fun e w' => e = .returned (.bool true) ∧ Below w.heap.size w w' := by
  cases h : st3 x y z
  · exact lawStateIndex_of _ x y z w (fun w => specIx_no x y z w h) (fun w => implIx_no x y z w h)
  · exact lawStateIndex_of _ x y z w (fun w => specIx_yes x y z w h) (fun w => implIx_yes x y z w h)

set_option maxRecDepth 100000 in
theorem liftedStateIndex (os : Os) (started : os.Started) (H : Type) (enc : TypeId × Value → H) :
    ReturnsInHanded {} Try.checked os 3 .any (Rows.fnExactStateIndexSpec.pre6 enc Try.prog Try.f3 Rows.fnExactStateIndexRow.domain false) (Rows.fnExactStateIndexSpec.post enc Try.prog Try.f3 false true false false) := by
  refine returnsInHanded_of_change (C := Try.checked) Try.own started (by kernel_rfl) Try.func3
    (ChangeSpec.witness6 (enc := enc) (C := Try.checked) false ⟨#[], #[.agg #[.int .i64 0, .int .i64 0, .int .i64 0]], []⟩ 8 (by kernel_rfl) (by kernel_rfl) (by kernel_rfl) (by kernel_rfl)) ?_
  intro W base args ds gs before hval0 hW _ _
  have hval : ∀ (j : Nat) t v, Try.f3.params[j]? = some t → args[j]? = some v → Value.okWide Try.prog W .any base t v := hval0
  have hW' := hW
  obtain ⟨p, q, hA0, hV, rfl, _, _⟩ := hW
  have hA : DataW.TrodAll enc Try.prog W 0 (fun _ => true) true Try.f3.params.toList args.toList ds p := hA0
  rw [Try.params3] at hA hval
  obtain ⟨v0, d0, rfl, rfl, h0⟩ := trodAll_one hA
  obtain ⟨rfl, rfl⟩ := trodVars_none hV
  obtain ⟨ca0, cb0, cc0, ya0, yb0, yc0, m0, rfl, rfl, rfl, hya0, hyb0, hyc0⟩ := open_agg3 Try.underlying23 (by kernel_rfl) cellsSt (hval 0 23 v0 rfl rfl) h0
  obtain ⟨x0, ea0, rfl, wx0⟩ := DataW.trod_int Try.underlying3 hya0
  obtain ⟨y0, eb0, rfl, wy0⟩ := DataW.trod_int Try.underlying3 hyb0
  obtain ⟨z0, ec0, rfl, wz0⟩ := DataW.trod_int Try.underlying3 hyc0
  simp at ea0 eb0 ec0
  subst ea0 eb0 ec0
  have rd0 : ∀ (W' : World) (sp : Nat → Bool), DataW.Trod enc Try.prog W' 0 sp true 23 (.agg #[.int .i64 x0, .int .i64 y0, .int .i64 z0]) (.agg [.lit (.int .i64 x0), .lit (.int .i64 y0), .lit (.int .i64 z0)]) [] := fun W' sp =>
    shut_agg3 (y0 := (.lit (.int .i64 x0), [])) (y1 := (.lit (.int .i64 y0), [])) (y2 := (.lit (.int .i64 z0), [])) Try.underlying23 (by kernel_rfl) cellsSt ⟨1, by simp [DataW.trod, Try.underlying3, wx0]⟩ ⟨1, by simp [DataW.trod, Try.underlying3, wy0]⟩ ⟨1, by simp [DataW.trod, Try.underlying3, wz0]⟩
  clear hA0 hval0
  simp only [List.append_nil] at hW'
  refine (lawStateIndex x0 y0 z0 W).mono fun e W' ⟨he, hb⟩ => ?_
  subst he
  refine ⟨_, rfl, _, _, _, [], [], [], hW', ?_, ?_, ?_, hb.frame _, fun h => by cases h⟩
  · exact trodAll_mk1 (shut_bool Try.underlying4 true)
  · exact trodAll_mk1 (rd0 _ _)
  · rfl

theorem stateIndex_holds : Rows.FnExactStateIndexSaid :=
  OpenClaim.holds_of_wide 3 Try.f3 rfl rfl rfl rfl rfl rfl rfl ⟨rfl, rfl, rfl, rfl, rfl⟩ rfl rfl rfl rfl rfl (by kernel_rfl) Try.func3 (by kernel_rfl)
    (of_decide_eq_true (by kernel_rfl)) (by unfold Func.isWrapper; rw [if_neg (of_decide_eq_false (by kernel_rfl))]; exact ⟨rfl, rfl⟩)
    (fun os started H enc _ => liftedStateIndex os started H enc)

#print axioms stateIndex_holds
end Go.Proofs.Ytghfnmmiimbphaa
