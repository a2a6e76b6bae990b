/-
  The law of HasState is true at every text and state: no condition.
-/
import Derived.Test.YtbicokobbpmgnaaRows
import Derived.Test.YtbicokobbpmgnaaSetI
import Derived.Test.YtbicokobbpmgnaaSetJ
import Derived.ProofKit
import Derived.Lib.SmallJoins
import Derived.ChangeSame
import Derived.JoinedOf
import Derived.JoinedAt
import Derived.RowKit3
import Derived.ShutString
namespace Go.Proofs.Ytbicokobbpmgnaa
open Go.ChangeShapes Go.WideShapes Go.ChangeAt Go.RowKit Go.Joins
open Go.WideMaps Go.WideElems
open Go.ChangeMaps (open_string shut_string)

theorem Try.own : ownKnob Try.prog.godebug = none := by kernel_rfl
theorem cellsSt : Try.prog.cellsOf 24 = 3 := by kernel_rfl

set_option maxRecDepth 100000 in
set_option maxHeartbeats 4000000 in
theorem lawHasState_of (r0 : Bool) (s0 : ByteArray) (x1 y1 z1 : Int) (w : World)
    (c1 : ∀ w, Calls Try.prog 12 #[.string s0, .agg #[.int .i64 x1, .int .i64 y1, .int .i64 z1]] w fun e w' => e = .returned (.bool r0) ∧ Below w.heap.size w w')
    (c2 : ∀ w, Calls Try.prog 14 #[.string s0, .agg #[.int .i64 x1, .int .i64 y1, .int .i64 z1]] w fun e w' => e = .returned (.bool r0) ∧ Below w.heap.size w w') :
    Calls Try.prog 4 #[.string s0, .agg #[.int .i64 x1, .int .i64 y1, .int .i64 z1]] w fun e w' => e = .returned (.bool true) ∧ Below w.heap.size w w' := by
  have C1 := Lib.hid c1
  have C2 := Lib.hid c2
  clear c1 c2
  by_cases hl0 : (s0.size : Int) ≤ 1048576
  · skip
    go_enter Try.func4, Try.ntmps4
    go_wp2_with fail
    have t0 := Blk.new w #[.int .i64 x1, .int .i64 y1, .int .i64 z1] 24
    have hB := (Below.refl _ w).alloc (Nat.le_refl _) (.cells #[.int .i64 x1, .int .i64 y1, .int .i64 z1] 24)
    generalize w.alloc (.cells #[.int .i64 x1, .int .i64 y1, .int .i64 z1] 24) = w0 at *
    have HB0 := Lib.hid hB
    have HT0 := Lib.hid t0
    clear hB t0
    refine (lawToState _ _ _ _).mono ?_
    rintro e w1 ⟨rfl, hb⟩
    have HB1 := Lib.hid (bnext HB0.out hb)
    have HT1 := Lib.hid (HT0.out.kept hb)
    clear hb
    go_wp2_with fail
    refine (C1.out _).mono ?_
    rintro e w2 ⟨rfl, hb⟩
    have HB2 := Lib.hid (bnext HB1.out hb)
    have HT2 := Lib.hid (HT1.out.kept hb)
    clear hb
    obtain ⟨q0, q1, q2⟩ := HT2.out.c3
    go_wp2_with fail
    clear q0 q1 q2
    refine (lawToState _ _ _ _).mono ?_
    rintro e w3 ⟨rfl, hb⟩
    have HB3 := Lib.hid (bnext HB2.out hb)
    clear hb
    go_wp2_with fail
    refine (C2.out _).mono ?_
    rintro e w4 ⟨rfl, hb⟩
    have HB4 := Lib.hid (bnext HB3.out hb)
    clear hb
    go_wp2_with fail
    go_ret
    exact ⟨rfl, HB4.out⟩
  · skip
    go_enter Try.func4, Try.ntmps4
    go_wp2_with fail
    go_ret
    exact ⟨rfl, (Below.refl _ _).alloc (Nat.le_refl _) _⟩

theorem lawHasState (p : ByteArray) (x y z : Int) (w : World) (hm : p.size ≤ maxLen) : Calls Try.prog 4 #[.string p, .agg #[.int .i64 x, .int .i64 y, .int .i64 z]] w fun e w' => e = .returned (.bool true) ∧ Below w.heap.size w w' := by
  by_cases h : Set27 p
  · cases hst : st3 x y z
    · exact lawHasState_of _ p x y z w (fun w => specHasS_st p x y z w h hst) (fun w => implHasS_st p x y z w h hst)
    · exact lawHasState_of _ p x y z w (fun w => specHasS_yes p x y z w h hst) (fun w => implHasS_yes p x y z w h hst)
  · exact lawHasState_of _ p x y z w (fun w => specHasS_no p x y z w h hm) (fun w => implHasS_no p x y z w h)

set_option maxRecDepth 100000 in
theorem liftedHasState (os : Os) (started : os.Started) (H : Type) (enc : TypeId × Value → H) :
    ReturnsInHanded {} Try.checked os 4 .any (Rows.fnExactHasStateSpec.pre6 enc Try.prog Try.f4 Rows.fnExactHasStateRow.domain false) (Rows.fnExactHasStateSpec.post enc Try.prog Try.f4 false true false false) := by
  refine returnsInHanded_of_change (C := Try.checked) Try.own started (by kernel_rfl) Try.func4
    (ChangeSpec.witness6 (enc := enc) (C := Try.checked) false ⟨#[], #[.string ByteArray.empty, .agg #[.int .i64 0, .int .i64 0, .int .i64 0]], []⟩ 8 (by kernel_rfl) (by kernel_rfl) (by kernel_rfl) (by kernel_rfl)) ?_
  intro W base args ds gs before hval0 hW _ _
  have hval : ∀ (j : Nat) t v, Try.f4.params[j]? = some t → args[j]? = some v → Value.okWide Try.prog W .any base t v := hval0
  have hW' := hW
  obtain ⟨p, q, hA0, hV, rfl, _, _⟩ := hW
  have hA : DataW.TrodAll enc Try.prog W 0 (fun _ => true) true Try.f4.params.toList args.toList ds p := hA0
  rw [Try.params4] at hA hval
  obtain ⟨v0, v1, d0, d1, p0, p1, rfl, rfl, rfl, h0, h1⟩ := trodAll_two hA
  obtain ⟨rfl, rfl⟩ := trodVars_none hV
  obtain ⟨s0, rfl, rfl, rfl, hs0⟩ := open_string Try.underlying9 (hval 0 9 v0 rfl rfl) h0
  obtain ⟨ca1, cb1, cc1, ya1, yb1, yc1, m1, rfl, rfl, rfl, hya1, hyb1, hyc1⟩ := open_agg3 Try.underlying24 (by kernel_rfl) cellsSt (hval 1 24 v1 rfl rfl) h1
  obtain ⟨x1, ea1, rfl, wx1⟩ := DataW.trod_int Try.underlying3 hya1
  obtain ⟨y1, eb1, rfl, wy1⟩ := DataW.trod_int Try.underlying3 hyb1
  obtain ⟨z1, ec1, rfl, wz1⟩ := DataW.trod_int Try.underlying3 hyc1
  simp at ea1 eb1 ec1
  subst ea1 eb1 ec1
  have rd1 : ∀ (W' : World) (sp : Nat → Bool), DataW.Trod enc Try.prog W' 0 sp true 24 (.agg #[.int .i64 x1, .int .i64 y1, .int .i64 z1]) (.agg [.lit (.int .i64 x1), .lit (.int .i64 y1), .lit (.int .i64 z1)]) [] := fun W' sp =>
    shut_agg3 (y0 := (.lit (.int .i64 x1), [])) (y1 := (.lit (.int .i64 y1), [])) (y2 := (.lit (.int .i64 z1), [])) Try.underlying24 (by kernel_rfl) cellsSt ⟨1, by simp [DataW.trod, Try.underlying3, wx1]⟩ ⟨1, by simp [DataW.trod, Try.underlying3, wy1]⟩ ⟨1, by simp [DataW.trod, Try.underlying3, wz1]⟩
  clear hA0 hval0
  simp only [List.append_nil] at hW'
  refine (lawHasState s0 x1 y1 z1 W hs0).mono fun e W' ⟨he, hb⟩ => ?_
  subst he
  refine ⟨_, rfl, _, _, _, [], [], [], hW', ?_, ?_, ?_, hb.frame _, fun h => by cases h⟩
  · exact trodAll_mk1 (shut_bool Try.underlying4 true)
  · exact trodAll_mk2 (shut_string Try.underlying9 hs0) (rd1 _ _)
  · rfl

theorem hasState_holds : Rows.FnExactHasStateSaid :=
  OpenClaim.holds_of_wide 4 Try.f4 rfl rfl rfl rfl rfl rfl rfl ⟨rfl, rfl, rfl, rfl, rfl⟩ rfl rfl rfl rfl rfl (by kernel_rfl) Try.func4 (by kernel_rfl)
    (of_decide_eq_true (by kernel_rfl)) (by unfold Func.isWrapper; rw [if_neg (of_decide_eq_false (by kernel_rfl))]; exact ⟨rfl, rfl⟩)
    (fun os started H enc _ => liftedHasState os started H enc)

#print axioms hasState_holds
end Go.Proofs.Ytbicokobbpmgnaa
