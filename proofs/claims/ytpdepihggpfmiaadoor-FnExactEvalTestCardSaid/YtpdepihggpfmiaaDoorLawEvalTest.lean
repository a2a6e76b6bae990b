/-
  The law of EvalTest is true at every text and state: no condition. The card.
-/
import Derived.Test.YtpdepihggpfmiaaDoorCards
import Derived.Test.YtpdepihggpfmiaaDoorTie
import Derived.Test.YtpdepihggpfmiaaDoorIev
import Derived.ProofKit
import Derived.Lib.SmallJoins
import Derived.ChangeSame
import Derived.JoinedOf
import Derived.JoinedAt
import Derived.RowKit3
import Derived.ShutString
import Derived.OpenShut
import Derived.LaidMore
import Derived.Lay
import Derived.SevenTiedAt
import Derived.Stop.Joined
namespace Go.Proofs.YtpdepihggpfmiaaDoor
open Go.ChangeShapes Go.WideShapes Go.ChangeAt Go.RowKit Go.Joins
open Go.WideMaps Go.WideElems Tm
open Go.ChangeMaps (open_string shut_string)

set_option maxHeartbeats 2000000 in
theorem lawEvalTest_of (r : Bool) (b : Bool) (s : ByteArray) (x y z : Int) (w : World)
    (c1 : ∀ w, Calls Tryd.prog 21 #[.string s, .agg #[.int .i64 x, .int .i64 y, .int .i64 z]] w fun e w' => e = .returned (.tuple #[.bool r, .bool b]) ∧ Below w.heap.size w w')
    (c2 : ∀ w, Calls Tryd.prog 22 #[.string s, .agg #[.int .i64 x, .int .i64 y, .int .i64 z]] w fun e w' => e = .returned (.tuple #[.bool r, .bool b]) ∧ Below w.heap.size w w') :
    Calls Tryd.prog 6 #[.string s, .agg #[.int .i64 x, .int .i64 y, .int .i64 z]] w fun e w' => e = .returned (.bool true) ∧ Below w.heap.size w w' := by
  have C1 := Lib.hid c1
  have C2 := Lib.hid c2
  clear c1 c2
  by_cases hl : (s.size : Int) ≤ 1048576
  · go_enter Tryd.func6, Tryd.ntmps6
    go_wp2_with fail
    have t3 := Box3.new w x y z 24
    have hB := (Below.refl w.heap.size w).alloc (Nat.le_refl _) (.cells #[.int .i64 x, .int .i64 y, .int .i64 z] 24)
    generalize w.alloc (.cells #[.int .i64 x, .int .i64 y, .int .i64 z] 24) = w0 at *
    refine (lawToState _ _ _ _).mono ?_
    rintro e w1 ⟨rfl, hb⟩
    have q0 := cell_keep hb t3.1; have q1 := cell_keep hb t3.2.1; have q2 := cell_keep hb t3.2.2
    have HB := Lib.hid (hB.trans (hb.mono hB.size))
    clear hb hB t3
    go_wp2_with fail
    refine (C1.out _).mono ?_
    rintro e w2 ⟨rfl, hb⟩
    have n0 := cell_keep hb q0; have n1 := cell_keep hb q1; have n2 := cell_keep hb q2
    have HB2 := Lib.hid (HB.out.trans (hb.mono HB.out.size))
    clear hb q0 q1 q2
    go_wp2_with fail
    refine (lawToState _ _ _ _).mono ?_
    rintro e w3 ⟨rfl, hb⟩
    have HB3 := Lib.hid (HB2.out.trans (hb.mono HB2.out.size))
    clear hb n0 n1 n2
    go_wp2_with fail
    refine (C2.out _).mono ?_
    rintro e w4 ⟨rfl, hb⟩
    have HB4 := Lib.hid (HB3.out.trans (hb.mono HB3.out.size))
    clear hb
    go_wp2_with fail
    go_ret
    exact ⟨rfl, HB4.out⟩
  · go_enter Tryd.func6, Tryd.ntmps6
    go_wp2_with fail
    go_ret
    exact ⟨rfl, (Below.refl _ _).alloc (Nat.le_refl _) _⟩

theorem lawEvalTest (s : ByteArray) (x y z : Int) (w : World) (_hs : s.size ≤ maxLen) :
    Calls Tryd.prog 6 #[.string s, .agg #[.int .i64 x, .int .i64 y, .int .i64 z]] w fun e w' => e = .returned (.bool true) ∧ Below w.heap.size w w' := by
  by_cases hv : Valid false true s.data.toList ∧ s.size ≤ 200
  · obtain ⟨⟨t, ht, he⟩, hl⟩ := hv
    cases hst : st3 x y z
    · exact lawEvalTest_of false false s x y z w (fun w => specEvalT_st s x y z w ht he hl hst) (fun w => implEvalT_st s x y z w ht he hl hst)
    · exact lawEvalTest_of (tru (one x y z) t) true s x y z w (fun w => specEvalT_yes s x y z w ht he hl hst) (fun w => implEvalT_yes s x y z w ht he hl hst)
  · exact lawEvalTest_of false false s x y z w (fun w => specEvalT_no s x y z w hv) (fun w => implEvalT_no s x y z w hv)



theorem walkExactEvalTest (s0 : ByteArray) (x1 y1 z1 : Int) (w : World) (hs0 : s0.size ≤ maxLen) : Calls Tryd.prog 6 #[.string s0, .agg #[.int .i64 x1, .int .i64 y1, .int .i64 z1]] w fun e w' => e = .returned (.bool true) ∧ Below w.heap.size w w' :=
  lawEvalTest s0 x1 y1 z1 w hs0

theorem Tryd.own : ownKnob Tryd.prog.godebug = none := by kernel_rfl
theorem cellsSt : Tryd.prog.cellsOf 24 = 3 := by kernel_rfl

set_option maxRecDepth 100000 in
set_option maxHeartbeats 2000000 in
theorem lifted (os : Os) (started : os.Started) (H : Type) (enc : TypeId × Value → H) :
    ReturnsInHanded {} Tryd.checked os 6 .any (fun w args => (Rows.fnExactEvalTestSpec.pre enc Tryd.prog Tryd.f6 Rows.fnExactEvalTestRow.domain false w args ∧ laidMetH Tryd.prog Rows.fnExactEvalTestRow.laid w) ∧ sizedMet enc Tryd.prog Tryd.f6 (OpenSpec.ofChange Rows.fnExactEvalTestSpec) false w args)
      (Rows.fnExactEvalTestSpec.post enc Tryd.prog Tryd.f6 false true false false) := by
  refine returnsInHanded_of_change_and (C := Tryd.checked) (X := fun w _ => laidMetH Tryd.prog Rows.fnExactEvalTestRow.laid w) (fun _ _ _ hh h => h.of_heap hh) Tryd.own started (by kernel_rfl) Tryd.func6
    (ChangeSpec.witness_shaped (enc := enc) (C := Tryd.checked) (os := os) (X := fun w _ => laidMetH Tryd.prog Rows.fnExactEvalTestRow.laid w) false (World.laidAll Tryd.prog os Rows.fnExactEvalTestRow.laid) #[.string ByteArray.empty, .agg #[.int .i64 0, .int .i64 0, .int .i64 0]] 8 (World.laidAll_os _ _ _)
      (World.shaped_of_ZipB (by kernel_rfl) (by kernel_rfl)) (by kernel_rfl) (by kernel_rfl) (by kernel_rfl)
      (by rw [MakeChecks.laidMetH_plain _ _ _ (by kernel_rfl)]; exact laidMet_laidAll _ (by kernel_rfl) (by kernel_rfl))) ?_
  intro W base args ds gs before hval0 hW _ _ hL _
  have hval : ∀ (j : Nat) t v, Tryd.f6.params[j]? = some t → args[j]? = some v → Value.okWide Tryd.prog W .any base t v := hval0
  have hW' := hW
  obtain ⟨p, q, hA0, hV, rfl, _, _⟩ := hW
  have hA : DataW.TrodAll enc Tryd.prog W 0 (fun _ => true) true Tryd.f6.params.toList args.toList ds p := hA0
  rw [Tryd.params6] at hA hval
  obtain ⟨v0, v1, d0, d1, p0, p1, rfl, rfl, rfl, h0, h1⟩ := trodAll_two hA
  obtain ⟨rfl, rfl⟩ := trodVars_none hV
  obtain ⟨s0, rfl, rfl, rfl, hs0⟩ := open_string Tryd.underlying9 (hval 0 9 v0 rfl rfl) h0
  obtain ⟨ca1, cb1, cc1, ya1, yb1, yc1, m1, rfl, rfl, rfl, hya1, hyb1, hyc1⟩ := open_agg3 Tryd.underlying24 (by kernel_rfl) cellsSt (hval 1 24 v1 rfl rfl) h1
  obtain ⟨x1, ea1, rfl, wx1⟩ := DataW.trod_int Tryd.underlying3 hya1
  obtain ⟨y1, eb1, rfl, wy1⟩ := DataW.trod_int Tryd.underlying3 hyb1
  obtain ⟨z1, ec1, rfl, wz1⟩ := DataW.trod_int Tryd.underlying3 hyc1
  simp at ea1 eb1 ec1
  subst ea1 eb1 ec1
  have rd1 : ∀ (W' : World) (sp : Nat → Bool), DataW.Trod enc Tryd.prog W' 0 sp true 24 (.agg #[.int .i64 x1, .int .i64 y1, .int .i64 z1]) (.agg [.lit (.int .i64 x1), .lit (.int .i64 y1), .lit (.int .i64 z1)]) [] := fun W' sp =>
    shut_agg3 (y0 := (.lit (.int .i64 x1), [])) (y1 := (.lit (.int .i64 y1), [])) (y2 := (.lit (.int .i64 z1), [])) Tryd.underlying24 (by kernel_rfl) cellsSt ⟨1, by simp [DataW.trod, Tryd.underlying3, wx1]⟩ ⟨1, by simp [DataW.trod, Tryd.underlying3, wy1]⟩ ⟨1, by simp [DataW.trod, Tryd.underlying3, wz1]⟩
  clear hA0 hval0
  simp only [List.append_nil] at hW'
  refine (walkExactEvalTest s0 x1 y1 z1 W hs0).mono fun e W' ⟨he, hb⟩ => ?_
  subst he
  refine ⟨_, rfl, _, _, _, [], [], [], hW', ?_, ?_, ?_, hb.frame _, fun h => by cases h⟩
  · exact trodAll_mk1 (shut_bool Tryd.underlying4 true)
  · exact trodAll_mk2 (shut_string Tryd.underlying9 hs0) (rd1 _ _)
  · rfl

-- each of the three walks over the program by itself: together they are too much for the kernel's memory
theorem jf1 : (Rows.fnExactEvalTestRow.inPlace == Tryd.prog.inPlace 6) = true := by kernel_rfl
theorem jf2 : (Rows.fnExactEvalTestRow.unfollowed == Tryd.prog.unfollowed 6) = true := by kernel_rfl
theorem jf3 : (Rows.fnExactEvalTestRow.recurses == Tryd.prog.recurses 6) = true := by kernel_rfl
theorem jf4 : (Rows.fnExactEvalTestRow.named == Tryd.prog.varsNamed 6) = true := by kernel_rfl
theorem jf5 : laidOutB Tryd.prog = true := by kernel_rfl
theorem jf6 : mapsRowed Tryd.prog = true := by kernel_rfl
theorem jf7 : Tryd.prog.stopsHeard = true := by kernel_rfl
theorem jg : false = (Rows.fnExactEvalTestRow).goesBy Tryd.pinned.checked.prog := by kernel_rfl
theorem closed : joinedFacts Tryd.prog 6 Tryd.f6 Rows.fnExactEvalTestSpec Rows.fnExactEvalTestRow = true := by
  unfold joinedFacts
  rw [jf1, jf2, jf3, jf4, jf5, jf6, jf7]
  kernel_rfl

theorem said : Rows.FnExactEvalTestSaid :=
  OpenClaim.holds_of_wide 6 Tryd.f6 rfl rfl rfl rfl rfl rfl rfl ⟨rfl, rfl, rfl, rfl, rfl⟩ rfl rfl rfl rfl rfl (by kernel_rfl) Tryd.func6 closed
    (of_decide_eq_true (by kernel_rfl)) (by unfold Func.isWrapper; first | (rw [if_pos (by decide +kernel)]; kernel_rfl) | (rw [if_neg (by decide +kernel)]; exact ⟨rfl, rfl⟩))
    (fun os started H enc _ => by rw [OpenClaim.pre_eq_preRow]; exact lifted os started H enc)

theorem plain (f : FuncId) (fn : Func) (hf : Tryd.pinned.checked.prog.funcNamed Rows.fnExactEvalTestRow.func = some f) (hfn : Tryd.pinned.checked.prog.funcs[f]? = some fn) :
    false = Tryd.pinned.checked.prog.looks [] ∧ ∀ (j : Nat) t, fn.params[j]? = some t → Tryd.pinned.checked.prog.wantsStandIn t = false := by
  obtain rfl : f = 6 := Option.some.inj ((show Tryd.prog.funcNamed Rows.fnExactEvalTestRow.func = some 6 by kernel_rfl).symm.trans hf) |>.symm
  obtain rfl : fn = Tryd.f6 := (Option.some.inj (Tryd.func6.symm.trans hfn)).symm
  refine ⟨by kernel_rfl, fun j t ht => ?_⟩
  rw [Tryd.params6] at ht
  have hm : t ∈ [9, 24] := by simpa using Array.mem_of_getElem? ht
  have hall : ([9, 24].all fun u => !Tryd.prog.wantsStandIn u) = true := by kernel_rfl
  exact (show Tryd.prog.wantsStandIn t = false by simpa using List.all_eq_true.1 hall t hm)

theorem exactEvalTest_card : Rows.FnExactEvalTestCardSaid :=
  Claim7.holds_tied_plain_at .later [] _ _ _ _ said (fun _ h => by cases h) (by kernel_rfl) (fun _ h => by cases h) fnExactEvalTest_row_tie rfl ⟨rfl, rfl⟩ (by kernel_rfl) rfl plain jg

#print axioms exactEvalTest_card
end Go.Proofs.YtpdepihggpfmiaaDoor
