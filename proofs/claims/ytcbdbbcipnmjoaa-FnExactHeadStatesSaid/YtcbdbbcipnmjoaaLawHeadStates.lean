/-
  The law of HeadStates is true at all texts and states: no condition.
-/
import Derived.Test.YtcbdbbcipnmjoaaRows
import Derived.Test.YtcbdbbcipnmjoaaTopH
import Derived.ProofKit
import Derived.Lib.SmallJoins
import Derived.ChangeSame
import Derived.JoinedOf
import Derived.JoinedAt
import Derived.RowKit3
import Derived.ShutString
namespace Go.Proofs.Ytcbdbbcipnmjoaa
open Go.ChangeShapes Go.WideShapes Go.ChangeAt Go.RowKit Go.Joins
open Go.WideMaps Go.WideElems
open Go.ChangeMaps (open_string shut_string)

theorem Try.own : ownKnob Try.prog.godebug = none := by kernel_rfl
theorem cellsSt : Try.prog.cellsOf 23 = 3 := by kernel_rfl

set_option maxRecDepth 100000 in
set_option maxHeartbeats 4000000 in
theorem lawHeadStates_of (r0 : ByteArray) (r1 : Bool) (s0 : ByteArray) (s1 : ByteArray) (x2 y2 z2 : Int) (w : World)
    (c1 : ∀ w, Calls Try.prog 16 #[.string s0, .string s1, .agg #[.int .i64 x2, .int .i64 y2, .int .i64 z2]] w fun e w' => e = .returned (.tuple #[.string r0, .bool r1]) ∧ Below w.heap.size w w')
    (c2 : ∀ w, Calls Try.prog 17 #[.string s0, .string s1, .agg #[.int .i64 x2, .int .i64 y2, .int .i64 z2]] w fun e w' => e = .returned (.tuple #[.string r0, .bool r1]) ∧ Below w.heap.size w w') :
    Calls Try.prog 4 #[.string s0, .string s1, .agg #[.int .i64 x2, .int .i64 y2, .int .i64 z2]] w fun e w' => e = .returned (.bool true) ∧ Below w.heap.size w w' := by
  have C1 := Lib.hid c1
  have C2 := Lib.hid c2
  clear c1 c2
  by_cases hl0 : (s0.size : Int) ≤ 1048576
  · skip
    by_cases hl1 : (s1.size : Int) ≤ 1048576
    · skip
      go_enter Try.func4, Try.ntmps4
      go_wp2_with fail
      have t0 := Blk.new w #[.int .i64 x2, .int .i64 y2, .int .i64 z2] 23
      have hB := (Below.refl _ w).alloc (Nat.le_refl _) (.cells #[.int .i64 x2, .int .i64 y2, .int .i64 z2] 23)
      generalize w.alloc (.cells #[.int .i64 x2, .int .i64 y2, .int .i64 z2] 23) = w0 at *
      have HB0 := Lib.hid hB
      have HT0 := Lib.hid t0
      clear hB t0
      refine (lawToState _ _ _ _).mono ?_
      rintro e w1 ⟨rfl, hb⟩
      have HB1 := Lib.hid (bnext HB0.out hb)
      have HT1 := Lib.hid (HT0.out.kept hb)
      clear hb
      go_wp2_with fail
      refine (C1.out _).mono ?_
      rintro e w2 ⟨rfl, hb⟩
      have HB2 := Lib.hid (bnext HB1.out hb)
      have HT2 := Lib.hid (HT1.out.kept hb)
      clear hb
      obtain ⟨q0, q1, q2⟩ := HT2.out.c3
      go_wp2_with fail
      clear q0 q1 q2
      refine (lawToState _ _ _ _).mono ?_
      rintro e w3 ⟨rfl, hb⟩
      have HB3 := Lib.hid (bnext HB2.out hb)
      clear hb
      go_wp2_with fail
      refine (C2.out _).mono ?_
      rintro e w4 ⟨rfl, hb⟩
      have HB4 := Lib.hid (bnext HB3.out hb)
      clear hb
      go_wp2_with fail
      go_ret
      exact ⟨rfl, HB4.out⟩
    · skip
      go_enter Try.func4, Try.ntmps4
      go_wp2_with fail
      go_ret
      exact ⟨rfl, (Below.refl _ _).alloc (Nat.le_refl _) _⟩
  · skip
    go_enter Try.func4, Try.ntmps4
    go_wp2_with fail
    go_ret
    exact ⟨rfl, (Below.refl _ _).alloc (Nat.le_refl _) _⟩

theorem lawHeadStates (s b : ByteArray) (x y z : Int) (w : World) (_hm : s.size ≤ maxLen) (_hm2 : b.size ≤ maxLen) : Calls Try.prog 4 #[.string s, .string b, .agg #[.int .i64 x, .int .i64 y, .int .i64 z]] w fun e w' => e = .returned (.bool true) ∧ Below w.heap.size w w' := by
  by_cases h : (IsT s ∧ IsP b) ∧ st3 x y z = true
  · obtain ⟨⟨⟨⟨t, ht, hs0⟩, hl⟩, ⟨⟨p, hp, he⟩, hl2⟩⟩, hst⟩ := h
    exact lawHeadStates_of _ _ s b x y z w (fun w => specHead_yes s b ht hs0 hl hp he hl2 x y z hst w) (fun w => implHead_yes s b ht hs0 hl hp he hl2 x y z hst w)
  · exact lawHeadStates_of _ _ s b x y z w (fun w => specHead_no s b x y z h w) (fun w => implHead_no s b x y z h w)

set_option maxRecDepth 100000 in
theorem liftedHeadStates (os : Os) (started : os.Started) (H : Type) (enc : TypeId × Value → H) :
    ReturnsInHanded {} Try.checked os 4 .any (Rows.fnExactHeadStatesSpec.pre6 enc Try.prog Try.f4 Rows.fnExactHeadStatesRow.domain false) (Rows.fnExactHeadStatesSpec.post enc Try.prog Try.f4 false true false false) := by
  refine returnsInHanded_of_change (C := Try.checked) Try.own started (by kernel_rfl) Try.func4
    (ChangeSpec.witness6 (enc := enc) (C := Try.checked) false ⟨#[], #[.string ByteArray.empty, .string ByteArray.empty, .agg #[.int .i64 0, .int .i64 0, .int .i64 0]], []⟩ 8 (by kernel_rfl) (by kernel_rfl) (by kernel_rfl) (by kernel_rfl)) ?_
  intro W base args ds gs before hval0 hW _ _
  have hval : ∀ (j : Nat) t v, Try.f4.params[j]? = some t → args[j]? = some v → Value.okWide Try.prog W .any base t v := hval0
  have hW' := hW
  obtain ⟨p, q, hA0, hV, rfl, _, _⟩ := hW
  have hA : DataW.TrodAll enc Try.prog W 0 (fun _ => true) true Try.f4.params.toList args.toList ds p := hA0
  rw [Try.params4] at hA hval
  obtain ⟨v0, v1, v2, d0, d1, d2, p0, p1, p2, rfl, rfl, rfl, h0, h1, h2⟩ := trodAll_three hA
  obtain ⟨rfl, rfl⟩ := trodVars_none hV
  obtain ⟨s0, rfl, rfl, rfl, hs0⟩ := open_string Try.underlying9 (hval 0 9 v0 rfl rfl) h0
  obtain ⟨s1, rfl, rfl, rfl, hs1⟩ := open_string Try.underlying9 (hval 1 9 v1 rfl rfl) h1
  obtain ⟨ca2, cb2, cc2, ya2, yb2, yc2, m2, rfl, rfl, rfl, hya2, hyb2, hyc2⟩ := open_agg3 Try.underlying23 (by kernel_rfl) cellsSt (hval 2 23 v2 rfl rfl) h2
  obtain ⟨x2, ea2, rfl, wx2⟩ := DataW.trod_int Try.underlying3 hya2
  obtain ⟨y2, eb2, rfl, wy2⟩ := DataW.trod_int Try.underlying3 hyb2
  obtain ⟨z2, ec2, rfl, wz2⟩ := DataW.trod_int Try.underlying3 hyc2
  simp at ea2 eb2 ec2
  subst ea2 eb2 ec2
  have rd2 : ∀ (W' : World) (sp : Nat → Bool), DataW.Trod enc Try.prog W' 0 sp true 23 (.agg #[.int .i64 x2, .int .i64 y2, .int .i64 z2]) (.agg [.lit (.int .i64 x2), .lit (.int .i64 y2), .lit (.int .i64 z2)]) [] := fun W' sp =>
    shut_agg3 (y0 := (.lit (.int .i64 x2), [])) (y1 := (.lit (.int .i64 y2), [])) (y2 := (.lit (.int .i64 z2), [])) Try.underlying23 (by kernel_rfl) cellsSt ⟨1, by simp [DataW.trod, Try.underlying3, wx2]⟩ ⟨1, by simp [DataW.trod, Try.underlying3, wy2]⟩ ⟨1, by simp [DataW.trod, Try.underlying3, wz2]⟩
  clear hA0 hval0
  simp only [List.append_nil] at hW'
  refine (lawHeadStates s0 s1 x2 y2 z2 W hs0 hs1).mono fun e W' ⟨he, hb⟩ => ?_
  subst he
  refine ⟨_, rfl, _, _, _, [], [], [], hW', ?_, ?_, ?_, hb.frame _, fun h => by cases h⟩
  · exact trodAll_mk1 (shut_bool Try.underlying4 true)
  · exact trodAll_mk3 (shut_string Try.underlying9 hs0) (shut_string Try.underlying9 hs1) (rd2 _ _)
  · rfl

theorem headStates_holds : Rows.FnExactHeadStatesSaid :=
  OpenClaim.holds_of_wide 4 Try.f4 rfl rfl rfl rfl rfl rfl rfl ⟨rfl, rfl, rfl, rfl, rfl⟩ rfl rfl rfl rfl rfl (by kernel_rfl) Try.func4 (by kernel_rfl)
    (of_decide_eq_true (by kernel_rfl)) (by unfold Func.isWrapper; rw [if_neg (of_decide_eq_false (by kernel_rfl))]; exact ⟨rfl, rfl⟩)
    (fun os started H enc _ => liftedHeadStates os started H enc)

#print axioms headStates_holds
end Go.Proofs.Ytcbdbbcipnmjoaa
