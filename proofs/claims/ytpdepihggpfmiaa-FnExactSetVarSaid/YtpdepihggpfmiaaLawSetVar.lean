/-
  The law of SetVar is true at every state, text and number: no condition.
-/
import Derived.Test.YtpdepihggpfmiaaRows
import Derived.Test.YtpdepihggpfmiaaSetV
import Derived.ProofKit
import Derived.Lib.SmallJoins
import Derived.ChangeSame
import Derived.JoinedOf
import Derived.JoinedAt
import Derived.RowKit3
import Derived.ShutString
namespace Go.Proofs.Ytpdepihggpfmiaa
open Go.ChangeShapes Go.WideShapes Go.ChangeAt Go.RowKit Go.Joins
open Go.WideMaps Go.WideElems
open Go.ChangeMaps (open_string shut_string)

theorem Try.own : ownKnob Try.prog.godebug = none := by kernel_rfl

set_option maxHeartbeats 1000000 in
theorem eqSame (p q r : Int) (w : World) : Calls Try.prog 7 #[.agg #[.int .i64 p, .int .i64 q, .int .i64 r], .agg #[.int .i64 p, .int .i64 q, .int .i64 r]] w fun e w' => e = .returned (.bool true) ∧ Below w.heap.size w w' := by
  go_enter Try.func7, Try.ntmps7
  go_wp2_with fail
  go_ret
  exact ⟨rfl, ((Below.refl _ _).alloc (Nat.le_refl _) _).alloc (by simp) _⟩

set_option maxHeartbeats 2000000 in
theorem lawSetVar_of (p q r : Int) (b : Bool) (x y z n : Int) (v : ByteArray) (w : World)
    (c1 : ∀ w, Calls Try.prog 4 #[.agg #[.int .i64 x, .int .i64 y, .int .i64 z], .string v, .int .i64 n] w fun e w' => e = .returned (.tuple #[.agg #[.int .i64 p, .int .i64 q, .int .i64 r], .bool b]) ∧ Below w.heap.size w w')
    (c2 : ∀ w, Calls Try.prog 6 #[.agg #[.int .i64 x, .int .i64 y, .int .i64 z], .string v, .int .i64 n] w fun e w' => e = .returned (.tuple #[.agg #[.int .i64 p, .int .i64 q, .int .i64 r], .bool b]) ∧ Below w.heap.size w w') :
    Calls Try.prog 3 #[.agg #[.int .i64 x, .int .i64 y, .int .i64 z], .string v, .int .i64 n] w fun e w' => e = .returned (.bool true) ∧ Below w.heap.size w w' := by
  have C1 := Lib.hid c1
  have C2 := Lib.hid c2
  clear c1 c2
  by_cases hl : (v.size : Int) ≤ 1048576
  · go_enter Try.func3, Try.ntmps3
    go_wp2_with fail
    have t3 := Box3.new w x y z 23
    have hB := (Below.refl w.heap.size w).alloc (Nat.le_refl _) (.cells #[.int .i64 x, .int .i64 y, .int .i64 z] 23)
    generalize w.alloc (.cells #[.int .i64 x, .int .i64 y, .int .i64 z] 23) = w0 at *
    refine (lawToState _ _ _ _).mono ?_
    rintro e w1 ⟨rfl, hb⟩
    have t3' := t3.below hb (cell_lt' t3.1)
    have HB := Lib.hid (hB.trans (hb.mono hB.size))
    clear hb hB t3
    go_wp2_with fail
    refine (C1.out _).mono ?_
    rintro e w2 ⟨rfl, hb⟩
    have t4 := t3'.below hb (cell_lt' t3'.1)
    have HB2 := Lib.hid (HB.out.trans (hb.mono HB.out.size))
    have q0 := t4.1; have q1 := t4.2.1; have q2 := t4.2.2
    have hlt := cell_lt' q0
    clear hb t3'
    go_wp2_with fail
    have u3 := Box3.new w2 p q r 24
    have t5 := t4.alloc hlt (.cells #[.int .i64 p, .int .i64 q, .int .i64 r] 24)
    have HB3 := Lib.hid (HB2.out.alloc HB2.out.size (.cells #[.int .i64 p, .int .i64 q, .int .i64 r] 24))
    clear q0 q1 q2 t4 hlt
    generalize w2.alloc (.cells #[.int .i64 p, .int .i64 q, .int .i64 r] 24) = w3 at *
    refine (lawToState _ _ _ _).mono ?_
    rintro e w4 ⟨rfl, hb⟩
    have u4 := u3.below hb (cell_lt' u3.1)
    have HB4 := Lib.hid (HB3.out.trans (hb.mono HB3.out.size))
    clear hb u3 t5
    go_wp2_with fail
    refine (C2.out _).mono ?_
    rintro e w5 ⟨rfl, hb⟩
    have u5 := u4.below hb (cell_lt' u4.1)
    have HB5 := Lib.hid (HB4.out.trans (hb.mono HB4.out.size))
    have q0 := u5.1; have q1 := u5.2.1; have q2 := u5.2.2
    have hlt := cell_lt' q0
    clear hb u4 u5
    go_wp2_with fail
    refine (eqSame p q r _).mono ?_
    rintro e w6 ⟨rfl, hb⟩
    have HB6 := Lib.hid ((HB5.out.alloc HB5.out.size (.cells #[.int .i64 p, .int .i64 q, .int .i64 r] 24)).trans (hb.mono (by have := HB5.out.size; simp; omega)))
    clear hb q0 q1 q2 hlt
    go_wp2_with fail
    go_ret
    exact ⟨rfl, HB6.out⟩
  · go_enter Try.func3, Try.ntmps3
    go_wp2_with fail
    go_ret
    exact ⟨rfl, (Below.refl _ _).alloc (Nat.le_refl _) _⟩

theorem lawSetVar (x y z : Int) (v : ByteArray) (n : Int) (w : World) (hs : v.size ≤ maxLen) :
    Calls Try.prog 3 #[.agg #[.int .i64 x, .int .i64 y, .int .i64 z], .string v, .int .i64 n] w fun e w' => e = .returned (.bool true) ∧ Below w.heap.size w w' := by
  cases hst : st3 x y z
  · exact lawSetVar_of 0 0 0 false x y z n v w (fun w => specSet_st x y z n v w hst) (fun w => implSet_st x y z n v w hst)
  · by_cases hv : IsVar v
    · cases hn : val3 n
      · rcases hv with rfl | rfl | rfl
        · exact lawSetVar_of 0 0 0 false x y z n _ w (fun w => specSet_nx x y z n w hst hn) (fun w => implSet_nx x y z n w hst hn)
        · exact lawSetVar_of 0 0 0 false x y z n _ w (fun w => specSet_ny x y z n w hst hn) (fun w => implSet_ny x y z n w hst hn)
        · exact lawSetVar_of 0 0 0 false x y z n _ w (fun w => specSet_nz x y z n w hst hn) (fun w => implSet_nz x y z n w hst hn)
      · rcases hv with rfl | rfl | rfl
        · exact lawSetVar_of n y z true x y z n _ w (fun w => specSet_x x y z n w hst hn) (fun w => implSet_x x y z n w hst hn)
        · exact lawSetVar_of x n z true x y z n _ w (fun w => specSet_y x y z n w hst hn) (fun w => implSet_y x y z n w hst hn)
        · exact lawSetVar_of x y n true x y z n _ w (fun w => specSet_z x y z n w hst hn) (fun w => implSet_z x y z n w hst hn)
    · exact lawSetVar_of 0 0 0 false x y z n v w (fun w => specSet_var x y z n v w hs hst hv) (fun w => implSet_var x y z n v w hs hst hv)

theorem cellsSt : Try.prog.cellsOf 23 = 3 := by kernel_rfl

set_option maxRecDepth 100000 in
theorem liftedSetVar (os : Os) (started : os.Started) (H : Type) (enc : TypeId × Value → H) :
    ReturnsInHanded {} Try.checked os 3 .any (Rows.fnExactSetVarSpec.pre6 enc Try.prog Try.f3 Rows.fnExactSetVarRow.domain false) (Rows.fnExactSetVarSpec.post enc Try.prog Try.f3 false true false false) := by
  refine returnsInHanded_of_change (C := Try.checked) Try.own started (by kernel_rfl) Try.func3
    (ChangeSpec.witness6 (enc := enc) (C := Try.checked) false ⟨#[], #[.agg #[.int .i64 0, .int .i64 0, .int .i64 0], .string ByteArray.empty, .int .i64 0], []⟩ 8 (by kernel_rfl) (by kernel_rfl) (by kernel_rfl) (by kernel_rfl)) ?_
  intro W base args ds gs before hval0 hW _ _
  have hval : ∀ (j : Nat) t v, Try.f3.params[j]? = some t → args[j]? = some v → Value.okWide Try.prog W .any base t v := hval0
  have hW' := hW
  obtain ⟨p, q, hA0, hV, rfl, _, _⟩ := hW
  have hA : DataW.TrodAll enc Try.prog W 0 (fun _ => true) true Try.f3.params.toList args.toList ds p := hA0
  rw [Try.params3] at hA hval
  obtain ⟨v0, v1, v2, d0, d1, d2, p0, p1, p2, rfl, rfl, rfl, h0, h1, h2⟩ := trodAll_three hA
  obtain ⟨rfl, rfl⟩ := trodVars_none hV
  obtain ⟨ca0, cb0, cc0, ya0, yb0, yc0, m0, rfl, rfl, rfl, hya0, hyb0, hyc0⟩ := open_agg3 Try.underlying23 (by kernel_rfl) cellsSt (hval 0 23 v0 rfl rfl) h0
  obtain ⟨x0, ea0, rfl, wx0⟩ := DataW.trod_int Try.underlying3 hya0
  obtain ⟨y0, eb0, rfl, wy0⟩ := DataW.trod_int Try.underlying3 hyb0
  obtain ⟨z0, ec0, rfl, wz0⟩ := DataW.trod_int Try.underlying3 hyc0
  simp at ea0 eb0 ec0
  subst ea0 eb0 ec0
  have rd0 : ∀ (W' : World) (sp : Nat → Bool), DataW.Trod enc Try.prog W' 0 sp true 23 (.agg #[.int .i64 x0, .int .i64 y0, .int .i64 z0]) (.agg [.lit (.int .i64 x0), .lit (.int .i64 y0), .lit (.int .i64 z0)]) [] := fun W' sp =>
    shut_agg3 (y0 := (.lit (.int .i64 x0), [])) (y1 := (.lit (.int .i64 y0), [])) (y2 := (.lit (.int .i64 z0), [])) Try.underlying23 (by kernel_rfl) cellsSt ⟨1, by simp [DataW.trod, Try.underlying3, wx0]⟩ ⟨1, by simp [DataW.trod, Try.underlying3, wy0]⟩ ⟨1, by simp [DataW.trod, Try.underlying3, wz0]⟩
  obtain ⟨s1, rfl, rfl, rfl, hs1⟩ := open_string Try.underlying9 (hval 1 9 v1 rfl rfl) h1
  obtain ⟨n2, rfl, rfl, rfl, wn2⟩ := open_int Try.underlying3 (hval 2 3 v2 rfl rfl) h2
  clear hA0 hval0
  simp only [List.append_nil] at hW'
  refine (lawSetVar x0 y0 z0 s1 n2 W hs1).mono fun e W' ⟨he, hb⟩ => ?_
  subst he
  refine ⟨_, rfl, _, _, _, [], [], [], hW', ?_, ?_, ?_, hb.frame _, fun h => by cases h⟩
  · exact trodAll_mk1 (shut_bool Try.underlying4 true)
  · exact trodAll_mk3 (rd0 _ _) (shut_string Try.underlying9 hs1) (shut_int Try.underlying3 wn2)
  · rfl

theorem setVar_holds : Rows.FnExactSetVarSaid :=
  OpenClaim.holds_of_wide 3 Try.f3 rfl rfl rfl rfl rfl rfl rfl ⟨rfl, rfl, rfl, rfl, rfl⟩ rfl rfl rfl rfl rfl (by kernel_rfl) Try.func3 (by kernel_rfl)
    (of_decide_eq_true (by kernel_rfl)) (by unfold Func.isWrapper; rw [if_neg (of_decide_eq_false (by kernel_rfl))]; exact ⟨rfl, rfl⟩)
    (fun os started H enc _ => liftedSetVar os started H enc)

#print axioms setVar_holds
end Go.Proofs.Ytpdepihggpfmiaa
