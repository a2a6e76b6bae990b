/-
  The law of HasPair is true at every text and at all states: no condition.
-/
import Derived.Test.YtpodlkmdjighmaaRows
import Derived.Test.YtpodlkmdjighmaaHp
import Derived.ProofKit
import Derived.Lib.SmallJoins
import Derived.ChangeSame
import Derived.JoinedOf
import Derived.JoinedAt
import Derived.RowKit3
import Derived.ShutString
namespace Go.Proofs.Ytpodlkmdjighmaa
open Go.ChangeShapes Go.WideShapes Go.ChangeAt Go.RowKit Go.Joins
open Go.WideMaps Go.WideElems
open Go.ChangeMaps (open_string shut_string)

theorem Try.own : ownKnob Try.prog.godebug = none := by kernel_rfl
theorem cellsSt : Try.prog.cellsOf 24 = 3 := by kernel_rfl

set_option maxRecDepth 100000 in
set_option maxHeartbeats 8000000 in
theorem lawHasPair_of (r0 : Bool) (s0 : ByteArray) (x1 y1 z1 x2 y2 z2 : Int) (w : World)
    (c1 : ∀ w, Calls Try.prog 18 #[.string s0, .agg #[.int .i64 x1, .int .i64 y1, .int .i64 z1], .agg #[.int .i64 x2, .int .i64 y2, .int .i64 z2]] w fun e w' => e = .returned (.bool r0) ∧ Below w.heap.size w w')
    (c2 : ∀ w, Calls Try.prog 20 #[.string s0, .agg #[.int .i64 x1, .int .i64 y1, .int .i64 z1], .agg #[.int .i64 x2, .int .i64 y2, .int .i64 z2]] w fun e w' => e = .returned (.bool r0) ∧ Below w.heap.size w w') :
    Calls Try.prog 4 #[.string s0, .agg #[.int .i64 x1, .int .i64 y1, .int .i64 z1], .agg #[.int .i64 x2, .int .i64 y2, .int .i64 z2]] w fun e w' => e = .returned (.bool true) ∧ Below w.heap.size w w' := by
  have C1 := Lib.hid c1
  have C2 := Lib.hid c2
  have T1 := fun w => Lib.hid (lawToState x1 y1 z1 w)
  have T2 := fun w => Lib.hid (lawToState x2 y2 z2 w)
  obtain ⟨b1, b2, bb, bz⟩ := two_blk w #[.int .i64 x1, .int .i64 y1, .int .i64 z1] #[.int .i64 x2, .int .i64 y2, .int .i64 z2] 24 24
  have B1 := Lib.hid b1
  have B2 := Lib.hid b2
  have KB := Lib.hid bb
  have BZ := Lib.hid bz
  clear c1 c2 b1 b2 bb bz
  by_cases hl0 : (s0.size : Int) ≤ 1048576
  · skip
    go_enter Try.func4, Try.ntmps4
    go_wp2_with fail
    generalize (w.alloc (.cells #[.int .i64 x1, .int .i64 y1, .int .i64 z1] 24)).alloc (.cells #[.int .i64 x2, .int .i64 y2, .int .i64 z2] 24) = wx at *
    obtain ⟨q0, q1, q2⟩ := B1.out.c3
    obtain ⟨q3, q4, q5⟩ := B2.out.c3
    have hbb := (Below.refl wx.heap.size wx).drew
    have RG : ∀ w', Below wx.heap.size wx w' → Below wx.heap.size wx w' ∧ w'.cell? ⟨w.heap.size, 0, none⟩ = some (.int .i64 x1) ∧ w'.cell? ⟨w.heap.size, 1, none⟩ = some (.int .i64 y1) ∧ w'.cell? ⟨w.heap.size, 2, none⟩ = some (.int .i64 z1) ∧ w'.cell? ⟨w.heap.size + 1, 0, none⟩ = some (.int .i64 x2) ∧ w'.cell? ⟨w.heap.size + 1, 1, none⟩ = some (.int .i64 y2) ∧ w'.cell? ⟨w.heap.size + 1, 2, none⟩ = some (.int .i64 z2) := fun w' h => ⟨h, ckeep h q0, ckeep h q1, ckeep h q2, ckeep h q3, ckeep h q4, ckeep h q5⟩
    have RG' := Lib.hid RG
    clear RG q0 q1 q2 q3 q4 q5
    go_region_held3 (fun w' => Below wx.heap.size wx w' ∧ w'.cell? ⟨w.heap.size, 0, none⟩ = some (.int .i64 x1) ∧ w'.cell? ⟨w.heap.size, 1, none⟩ = some (.int .i64 y1) ∧ w'.cell? ⟨w.heap.size, 2, none⟩ = some (.int .i64 z1) ∧ w'.cell? ⟨w.heap.size + 1, 0, none⟩ = some (.int .i64 x2) ∧ w'.cell? ⟨w.heap.size + 1, 1, none⟩ = some (.int .i64 y2) ∧ w'.cell? ⟨w.heap.size + 1, 2, none⟩ = some (.int .i64 z2))
      ((first
        | assumption
        | exact RG'.out _ (by assumption)
        | (go_split_ands; exact RG'.out _ (by assumption))
        | (go_split_ands; exact RG'.out _ (bnext (by assumption) hq))))
      (first
        | ((with_reducible refine (T1 _).out.mono ?_); rintro e w5 ⟨rfl, hq⟩)
        | ((with_reducible refine (T2 _).out.mono ?_); rintro e w5 ⟨rfl, hq⟩)
        | ((with_reducible refine (C1.out _).mono ?_); rintro e w5 ⟨rfl, hq⟩))
    all_goals
      go_split_ands
      rename_i hbw _ _ _ _ _ _
      have hbb2 := bnext hbw (Below.refl _ _).drew
      clear hbb
      go_wp2_with fail
      go_region_held3 (fun w' => Below wx.heap.size wx w' ∧ w'.cell? ⟨w.heap.size, 0, none⟩ = some (.int .i64 x1) ∧ w'.cell? ⟨w.heap.size, 1, none⟩ = some (.int .i64 y1) ∧ w'.cell? ⟨w.heap.size, 2, none⟩ = some (.int .i64 z1) ∧ w'.cell? ⟨w.heap.size + 1, 0, none⟩ = some (.int .i64 x2) ∧ w'.cell? ⟨w.heap.size + 1, 1, none⟩ = some (.int .i64 y2) ∧ w'.cell? ⟨w.heap.size + 1, 2, none⟩ = some (.int .i64 z2))
        ((first
          | assumption
          | exact RG'.out _ (by assumption)
          | (go_split_ands; exact RG'.out _ (by assumption))
          | (go_split_ands; exact RG'.out _ (bnext (by assumption) hq))))
        (first
          | ((with_reducible refine (T1 _).out.mono ?_); rintro e w5 ⟨rfl, hq⟩)
          | ((with_reducible refine (T2 _).out.mono ?_); rintro e w5 ⟨rfl, hq⟩)
          | ((with_reducible refine (C2.out _).mono ?_); rintro e w5 ⟨rfl, hq⟩))
      all_goals
        go_split_ands
        rename_i hbv _ _ _ _ _ _
        have HF := Lib.hid (bnext KB.out hbv)
        go_wp2_with fail
        go_ret
        exact ⟨rfl, HF.out⟩
  · skip
    go_enter Try.func4, Try.ntmps4
    go_wp2_with fail
    go_ret
    exact ⟨rfl, KB.out⟩

theorem lawHasPair (s : ByteArray) (x y z x2 y2 z2 : Int) (w : World) (hm : s.size ≤ maxLen) : Calls Try.prog 4 #[.string s, .agg #[.int .i64 x, .int .i64 y, .int .i64 z], .agg #[.int .i64 x2, .int .i64 y2, .int .i64 z2]] w fun e w' => e = .returned (.bool true) ∧ Below w.heap.size w w' := by
  by_cases h : Rel729 s
  · by_cases ha : st3 x y z = true
    · by_cases hb : st3 x2 y2 z2 = true
      · exact lawHasPair_of _ s x y z x2 y2 z2 w (fun w => specHasPair_yes s x y z x2 y2 z2 h ha hb w) (fun w => implHasPair_yes s x y z x2 y2 z2 h ha hb w)
      · have hb : st3 x2 y2 z2 = false := by simpa using hb
        exact lawHasPair_of _ s x y z x2 y2 z2 w (fun w => specHasPair_b s x y z x2 y2 z2 h ha hb w) (fun w => implHasPair_b s x y z x2 y2 z2 h ha hb w)
    · have ha : st3 x y z = false := by simpa using ha
      exact lawHasPair_of _ s x y z x2 y2 z2 w (fun w => specHasPair_a s x y z x2 y2 z2 h ha w) (fun w => implHasPair_a s x y z x2 y2 z2 h ha w)
  · exact lawHasPair_of _ s x y z x2 y2 z2 w (fun w => specHasPair_no s x y z x2 y2 z2 h hm w) (fun w => implHasPair_no s x y z x2 y2 z2 h w)

set_option maxRecDepth 100000 in
theorem liftedHasPair (os : Os) (started : os.Started) (H : Type) (enc : TypeId × Value → H) :
    ReturnsInHanded {} Try.checked os 4 .any (Rows.fnExactHasPairSpec.pre6 enc Try.prog Try.f4 Rows.fnExactHasPairRow.domain false) (Rows.fnExactHasPairSpec.post enc Try.prog Try.f4 false true false false) := by
  refine returnsInHanded_of_change (C := Try.checked) Try.own started (by kernel_rfl) Try.func4
    (ChangeSpec.witness6 (enc := enc) (C := Try.checked) false ⟨#[], #[.string ByteArray.empty, .agg #[.int .i64 0, .int .i64 0, .int .i64 0], .agg #[.int .i64 0, .int .i64 0, .int .i64 0]], []⟩ 8 (by kernel_rfl) (by kernel_rfl) (by kernel_rfl) (by kernel_rfl)) ?_
  intro W base args ds gs before hval0 hW _ _
  have hval : ∀ (j : Nat) t v, Try.f4.params[j]? = some t → args[j]? = some v → Value.okWide Try.prog W .any base t v := hval0
  have hW' := hW
  obtain ⟨p, q, hA0, hV, rfl, _, _⟩ := hW
  have hA : DataW.TrodAll enc Try.prog W 0 (fun _ => true) true Try.f4.params.toList args.toList ds p := hA0
  rw [Try.params4] at hA hval
  obtain ⟨v0, v1, v2, d0, d1, d2, p0, p1, p2, rfl, rfl, rfl, h0, h1, h2⟩ := trodAll_three hA
  obtain ⟨rfl, rfl⟩ := trodVars_none hV
  obtain ⟨s0, rfl, rfl, rfl, hs0⟩ := open_string Try.underlying9 (hval 0 9 v0 rfl rfl) h0
  obtain ⟨ca1, cb1, cc1, ya1, yb1, yc1, m1, rfl, rfl, rfl, hya1, hyb1, hyc1⟩ := open_agg3 Try.underlying24 (by kernel_rfl) cellsSt (hval 1 24 v1 rfl rfl) h1
  obtain ⟨x1, ea1, rfl, wx1⟩ := DataW.trod_int Try.underlying3 hya1
  obtain ⟨y1, eb1, rfl, wy1⟩ := DataW.trod_int Try.underlying3 hyb1
  obtain ⟨z1, ec1, rfl, wz1⟩ := DataW.trod_int Try.underlying3 hyc1
  simp at ea1 eb1 ec1
  subst ea1 eb1 ec1
  have rd1 : ∀ (W' : World) (sp : Nat → Bool), DataW.Trod enc Try.prog W' 0 sp true 24 (.agg #[.int .i64 x1, .int .i64 y1, .int .i64 z1]) (.agg [.lit (.int .i64 x1), .lit (.int .i64 y1), .lit (.int .i64 z1)]) [] := fun W' sp =>
    shut_agg3 (y0 := (.lit (.int .i64 x1), [])) (y1 := (.lit (.int .i64 y1), [])) (y2 := (.lit (.int .i64 z1), [])) Try.underlying24 (by kernel_rfl) cellsSt ⟨1, by simp [DataW.trod, Try.underlying3, wx1]⟩ ⟨1, by simp [DataW.trod, Try.underlying3, wy1]⟩ ⟨1, by simp [DataW.trod, Try.underlying3, wz1]⟩
  obtain ⟨ca2, cb2, cc2, ya2, yb2, yc2, m2, rfl, rfl, rfl, hya2, hyb2, hyc2⟩ := open_agg3 Try.underlying24 (by kernel_rfl) cellsSt (hval 2 24 v2 rfl rfl) h2
  obtain ⟨x2, ea2, rfl, wx2⟩ := DataW.trod_int Try.underlying3 hya2
  obtain ⟨y2, eb2, rfl, wy2⟩ := DataW.trod_int Try.underlying3 hyb2
  obtain ⟨z2, ec2, rfl, wz2⟩ := DataW.trod_int Try.underlying3 hyc2
  simp at ea2 eb2 ec2
  subst ea2 eb2 ec2
  have rd2 : ∀ (W' : World) (sp : Nat → Bool), DataW.Trod enc Try.prog W' 0 sp true 24 (.agg #[.int .i64 x2, .int .i64 y2, .int .i64 z2]) (.agg [.lit (.int .i64 x2), .lit (.int .i64 y2), .lit (.int .i64 z2)]) [] := fun W' sp =>
    shut_agg3 (y0 := (.lit (.int .i64 x2), [])) (y1 := (.lit (.int .i64 y2), [])) (y2 := (.lit (.int .i64 z2), [])) Try.underlying24 (by kernel_rfl) cellsSt ⟨1, by simp [DataW.trod, Try.underlying3, wx2]⟩ ⟨1, by simp [DataW.trod, Try.underlying3, wy2]⟩ ⟨1, by simp [DataW.trod, Try.underlying3, wz2]⟩
  clear hA0 hval0
  simp only [List.append_nil] at hW'
  refine (lawHasPair s0 x1 y1 z1 x2 y2 z2 W hs0).mono fun e W' ⟨he, hb⟩ => ?_
  subst he
  refine ⟨_, rfl, _, _, _, [], [], [], hW', ?_, ?_, ?_, hb.frame _, fun h => by cases h⟩
  · exact trodAll_mk1 (shut_bool Try.underlying4 true)
  · exact trodAll_mk3 (shut_string Try.underlying9 hs0) (rd1 _ _) (rd2 _ _)
  · rfl

theorem hasPair_holds : Rows.FnExactHasPairSaid :=
  OpenClaim.holds_of_wide 4 Try.f4 rfl rfl rfl rfl rfl rfl rfl ⟨rfl, rfl, rfl, rfl, rfl⟩ rfl rfl rfl rfl rfl (by kernel_rfl) Try.func4 (by kernel_rfl)
    (of_decide_eq_true (by kernel_rfl)) (by unfold Func.isWrapper; rw [if_neg (of_decide_eq_false (by kernel_rfl))]; exact ⟨rfl, rfl⟩)
    (fun os started H enc _ => liftedHasPair os started H enc)

#print axioms hasPair_holds
end Go.Proofs.Ytpodlkmdjighmaa
