/-
  The law of EvalWide is true at every text and two states: no condition. The card.
-/
import Derived.Test.YtinillnccfgooaaDoorCards
import Derived.Test.YtinillnccfgooaaDoorTie
import Derived.Test.YtinillnccfgooaaDoorEvW
import Derived.Test.YtinillnccfgooaaDoorBlk
import Derived.Deep.RegionHeld3
import Derived.Deep.MidRow
import Derived.ProofKit
import Derived.Lib.SmallJoins
import Derived.ChangeSame
import Derived.JoinedOf
import Derived.JoinedAt
import Derived.RowKit3
import Derived.ShutString
import Derived.OpenShut
import Derived.LaidMore
import Derived.Lay
import Derived.SevenTiedAt
import Derived.Stop.Joined
namespace Go.Proofs.YtinillnccfgooaaDoor
open Go.ChangeShapes Go.WideShapes Go.ChangeAt Go.RowKit Go.Joins
open Go.WideMaps Go.WideElems Tm
open Go.ChangeMaps (open_string shut_string)

theorem two_blk (w : World) (A B : Array Value) (t u : TypeId) : Blk ((w.alloc (.cells A t)).alloc (.cells B u)) w.heap.size A t ∧ Blk ((w.alloc (.cells A t)).alloc (.cells B u)) (w.heap.size + 1) B u ∧ Below w.heap.size w ((w.alloc (.cells A t)).alloc (.cells B u)) ∧ ((w.alloc (.cells A t)).alloc (.cells B u)).heap.size = w.heap.size + 2 := by
  have h1 := Blk.new (w.alloc (.cells A t)) B u
  rw [show (w.alloc (.cells A t)).heap.size = w.heap.size + 1 by simp] at h1
  exact ⟨(Blk.new w A t).alloc _, h1, ((Below.refl _ _).alloc (Nat.le_refl _) _).alloc (by simp) _, by simp⟩

set_option maxRecDepth 100000 in
set_option maxHeartbeats 8000000 in
theorem lawEvalWide_of (r0 q0 : Bool) (s0 : ByteArray) (x1 y1 z1 x2 y2 z2 : Int) (w : World)
    (c1 : ∀ w, Calls Tryd.prog 28 #[.string s0, .agg #[.int .i64 x1, .int .i64 y1, .int .i64 z1], .agg #[.int .i64 x2, .int .i64 y2, .int .i64 z2]] w fun e w' => e = .returned (.tuple #[.bool r0, .bool q0]) ∧ Below w.heap.size w w')
    (c2 : ∀ w, Calls Tryd.prog 30 #[.string s0, .agg #[.int .i64 x1, .int .i64 y1, .int .i64 z1], .agg #[.int .i64 x2, .int .i64 y2, .int .i64 z2]] w fun e w' => e = .returned (.tuple #[.bool r0, .bool q0]) ∧ Below w.heap.size w w') :
    Calls Tryd.prog 10 #[.string s0, .agg #[.int .i64 x1, .int .i64 y1, .int .i64 z1], .agg #[.int .i64 x2, .int .i64 y2, .int .i64 z2]] w fun e w' => e = .returned (.bool true) ∧ Below w.heap.size w w' := by
  have C1 := Lib.hid c1
  have C2 := Lib.hid c2
  have T1 := fun w => Lib.hid (lawToState x1 y1 z1 w)
  have T2 := fun w => Lib.hid (lawToState x2 y2 z2 w)
  obtain ⟨b1, b2, bb, bz⟩ := two_blk w #[.int .i64 x1, .int .i64 y1, .int .i64 z1] #[.int .i64 x2, .int .i64 y2, .int .i64 z2] 29 29
  have B1 := Lib.hid b1
  have B2 := Lib.hid b2
  have KB := Lib.hid bb
  have BZ := Lib.hid bz
  clear c1 c2 b1 b2 bb bz
  by_cases hl0 : (s0.size : Int) ≤ 1048576
  · skip
    go_enter Tryd.func10, Tryd.ntmps10
    go_wp2_with fail
    generalize (w.alloc (.cells #[.int .i64 x1, .int .i64 y1, .int .i64 z1] 29)).alloc (.cells #[.int .i64 x2, .int .i64 y2, .int .i64 z2] 29) = wx at *
    obtain ⟨q0, q1, q2⟩ := B1.out.c3
    obtain ⟨q3, q4, q5⟩ := B2.out.c3
    have hbb := (Below.refl wx.heap.size wx).drew
    have RG : ∀ w', Below wx.heap.size wx w' → Below wx.heap.size wx w' ∧ w'.cell? ⟨w.heap.size, 0, none⟩ = some (.int .i64 x1) ∧ w'.cell? ⟨w.heap.size, 1, none⟩ = some (.int .i64 y1) ∧ w'.cell? ⟨w.heap.size, 2, none⟩ = some (.int .i64 z1) ∧ w'.cell? ⟨w.heap.size + 1, 0, none⟩ = some (.int .i64 x2) ∧ w'.cell? ⟨w.heap.size + 1, 1, none⟩ = some (.int .i64 y2) ∧ w'.cell? ⟨w.heap.size + 1, 2, none⟩ = some (.int .i64 z2) := fun w' h => ⟨h, ckeep h q0, ckeep h q1, ckeep h q2, ckeep h q3, ckeep h q4, ckeep h q5⟩
    have RG' := Lib.hid RG
    clear RG q0 q1 q2 q3 q4 q5
    go_region_held3 (fun w' => Below wx.heap.size wx w' ∧ w'.cell? ⟨w.heap.size, 0, none⟩ = some (.int .i64 x1) ∧ w'.cell? ⟨w.heap.size, 1, none⟩ = some (.int .i64 y1) ∧ w'.cell? ⟨w.heap.size, 2, none⟩ = some (.int .i64 z1) ∧ w'.cell? ⟨w.heap.size + 1, 0, none⟩ = some (.int .i64 x2) ∧ w'.cell? ⟨w.heap.size + 1, 1, none⟩ = some (.int .i64 y2) ∧ w'.cell? ⟨w.heap.size + 1, 2, none⟩ = some (.int .i64 z2))
      ((first
        | assumption
        | exact RG'.out _ (by assumption)
        | (go_split_ands; exact RG'.out _ (by assumption))
        | (go_split_ands; exact RG'.out _ (bnext (by assumption) hq))))
      (first
        | ((with_reducible refine (T1 _).out.mono ?_); rintro e w5 ⟨rfl, hq⟩)
        | ((with_reducible refine (T2 _).out.mono ?_); rintro e w5 ⟨rfl, hq⟩)
        | ((with_reducible refine (C1.out _).mono ?_); rintro e w5 ⟨rfl, hq⟩))
    all_goals
      go_split_ands
      rename_i hbw _ _ _ _ _ _
      have hbb2 := bnext hbw (Below.refl _ _).drew
      clear hbb
      go_wp2_with fail
      go_region_held3 (fun w' => Below wx.heap.size wx w' ∧ w'.cell? ⟨w.heap.size, 0, none⟩ = some (.int .i64 x1) ∧ w'.cell? ⟨w.heap.size, 1, none⟩ = some (.int .i64 y1) ∧ w'.cell? ⟨w.heap.size, 2, none⟩ = some (.int .i64 z1) ∧ w'.cell? ⟨w.heap.size + 1, 0, none⟩ = some (.int .i64 x2) ∧ w'.cell? ⟨w.heap.size + 1, 1, none⟩ = some (.int .i64 y2) ∧ w'.cell? ⟨w.heap.size + 1, 2, none⟩ = some (.int .i64 z2))
        ((first
          | assumption
          | exact RG'.out _ (by assumption)
          | (go_split_ands; exact RG'.out _ (by assumption))
          | (go_split_ands; exact RG'.out _ (bnext (by assumption) hq))))
        (first
          | ((with_reducible refine (T1 _).out.mono ?_); rintro e w5 ⟨rfl, hq⟩)
          | ((with_reducible refine (T2 _).out.mono ?_); rintro e w5 ⟨rfl, hq⟩)
          | ((with_reducible refine (C2.out _).mono ?_); rintro e w5 ⟨rfl, hq⟩))
      all_goals
        go_split_ands
        rename_i hbv _ _ _ _ _ _
        have HF := Lib.hid (bnext KB.out hbv)
        go_wp2_with fail
        go_ret
        exact ⟨rfl, HF.out⟩
  · skip
    go_enter Tryd.func10, Tryd.ntmps10
    go_wp2_with fail
    go_ret
    exact ⟨rfl, KB.out⟩


theorem walkExactEvalWide (s : ByteArray) (x y z X Y Z : Int) (w : World) (_hs : s.size ≤ maxLen) :
    Calls Tryd.prog 10 #[.string s, .agg #[.int .i64 x, .int .i64 y, .int .i64 z], .agg #[.int .i64 X, .int .i64 Y, .int .i64 Z]] w fun e w' => e = .returned (.bool true) ∧ Below w.heap.size w w' := by
  by_cases hv : Valid true true s.data.toList ∧ s.size ≤ 200
  · obtain ⟨⟨t, ht, he⟩, hl⟩ := hv
    cases hst : st3 x y z
    · exact lawEvalWide_of false false s x y z X Y Z w (fun w => specEvalW_sa s x y z X Y Z w ht he hl hst) (fun w => implEvalW_sa s x y z X Y Z w ht he hl hst)
    · cases hsu : st3 X Y Z
      · exact lawEvalWide_of false false s x y z X Y Z w (fun w => specEvalW_sb s x y z X Y Z w ht he hl hst hsu) (fun w => implEvalW_sb s x y z X Y Z w ht he hl hst hsu)
      · exact lawEvalWide_of _ true s x y z X Y Z w (fun w => specEvalW_yes s x y z X Y Z w ht he hl hst hsu) (fun w => implEvalW_yes s x y z X Y Z w ht he hl hst hsu)
  · exact lawEvalWide_of false false s x y z X Y Z w (fun w => specEvalW_no s x y z X Y Z w hv) (fun w => implEvalW_no s x y z X Y Z w hv)

theorem Tryd.own : ownKnob Tryd.prog.godebug = none := by kernel_rfl
theorem cellsSt : Tryd.prog.cellsOf 29 = 3 := by kernel_rfl

set_option maxRecDepth 100000 in
set_option maxHeartbeats 2000000 in
theorem lifted (os : Os) (started : os.Started) (H : Type) (enc : TypeId × Value → H) :
    ReturnsInHanded {} Tryd.checked os 10 .any (fun w args => (Rows.fnExactEvalWideSpec.pre enc Tryd.prog Tryd.f10 Rows.fnExactEvalWideRow.domain false w args ∧ laidMetH Tryd.prog Rows.fnExactEvalWideRow.laid w) ∧ sizedMet enc Tryd.prog Tryd.f10 (OpenSpec.ofChange Rows.fnExactEvalWideSpec) false w args)
      (Rows.fnExactEvalWideSpec.post enc Tryd.prog Tryd.f10 false true false false) := by
  refine returnsInHanded_of_change_and (C := Tryd.checked) (X := fun w _ => laidMetH Tryd.prog Rows.fnExactEvalWideRow.laid w) (fun _ _ _ hh h => h.of_heap hh) Tryd.own started (by kernel_rfl) Tryd.func10
    (ChangeSpec.witness_shaped (enc := enc) (C := Tryd.checked) (os := os) (X := fun w _ => laidMetH Tryd.prog Rows.fnExactEvalWideRow.laid w) false (World.laidAll Tryd.prog os Rows.fnExactEvalWideRow.laid) #[.string ByteArray.empty, .agg #[.int .i64 0, .int .i64 0, .int .i64 0], .agg #[.int .i64 0, .int .i64 0, .int .i64 0]] 8 (World.laidAll_os _ _ _)
      (World.shaped_of_ZipB (by kernel_rfl) (by kernel_rfl)) (by kernel_rfl) (by kernel_rfl) (by kernel_rfl)
      (by rw [MakeChecks.laidMetH_plain _ _ _ (by kernel_rfl)]; exact laidMet_laidAll _ (by kernel_rfl) (by kernel_rfl))) ?_
  intro W base args ds gs before hval0 hW _ _ hL _
  have hval : ∀ (j : Nat) t v, Tryd.f10.params[j]? = some t → args[j]? = some v → Value.okWide Tryd.prog W .any base t v := hval0
  have hW' := hW
  obtain ⟨p, q, hA0, hV, rfl, _, _⟩ := hW
  have hA : DataW.TrodAll enc Tryd.prog W 0 (fun _ => true) true Tryd.f10.params.toList args.toList ds p := hA0
  rw [Tryd.params10] at hA hval
  obtain ⟨v0, v1, v2, d0, d1, d2, p0, p1, p2, rfl, rfl, rfl, h0, h1, h2⟩ := trodAll_three hA
  obtain ⟨rfl, rfl⟩ := trodVars_none hV
  obtain ⟨s0, rfl, rfl, rfl, hs0⟩ := open_string Tryd.underlying9 (hval 0 9 v0 rfl rfl) h0
  obtain ⟨ca1, cb1, cc1, ya1, yb1, yc1, m1, rfl, rfl, rfl, hya1, hyb1, hyc1⟩ := open_agg3 Tryd.underlying29 (by kernel_rfl) cellsSt (hval 1 29 v1 rfl rfl) h1
  obtain ⟨x1, ea1, rfl, wx1⟩ := DataW.trod_int Tryd.underlying3 hya1
  obtain ⟨y1, eb1, rfl, wy1⟩ := DataW.trod_int Tryd.underlying3 hyb1
  obtain ⟨z1, ec1, rfl, wz1⟩ := DataW.trod_int Tryd.underlying3 hyc1
  simp at ea1 eb1 ec1
  subst ea1 eb1 ec1
  have rd1 : ∀ (W' : World) (sp : Nat → Bool), DataW.Trod enc Tryd.prog W' 0 sp true 29 (.agg #[.int .i64 x1, .int .i64 y1, .int .i64 z1]) (.agg [.lit (.int .i64 x1), .lit (.int .i64 y1), .lit (.int .i64 z1)]) [] := fun W' sp =>
    shut_agg3 (y0 := (.lit (.int .i64 x1), [])) (y1 := (.lit (.int .i64 y1), [])) (y2 := (.lit (.int .i64 z1), [])) Tryd.underlying29 (by kernel_rfl) cellsSt ⟨1, by simp [DataW.trod, Tryd.underlying3, wx1]⟩ ⟨1, by simp [DataW.trod, Tryd.underlying3, wy1]⟩ ⟨1, by simp [DataW.trod, Tryd.underlying3, wz1]⟩
  obtain ⟨ca2, cb2, cc2, ya2, yb2, yc2, m2, rfl, rfl, rfl, hya2, hyb2, hyc2⟩ := open_agg3 Tryd.underlying29 (by kernel_rfl) cellsSt (hval 2 29 v2 rfl rfl) h2
  obtain ⟨x2, ea2, rfl, wx2⟩ := DataW.trod_int Tryd.underlying3 hya2
  obtain ⟨y2, eb2, rfl, wy2⟩ := DataW.trod_int Tryd.underlying3 hyb2
  obtain ⟨z2, ec2, rfl, wz2⟩ := DataW.trod_int Tryd.underlying3 hyc2
  simp at ea2 eb2 ec2
  subst ea2 eb2 ec2
  have rd2 : ∀ (W' : World) (sp : Nat → Bool), DataW.Trod enc Tryd.prog W' 0 sp true 29 (.agg #[.int .i64 x2, .int .i64 y2, .int .i64 z2]) (.agg [.lit (.int .i64 x2), .lit (.int .i64 y2), .lit (.int .i64 z2)]) [] := fun W' sp =>
    shut_agg3 (y0 := (.lit (.int .i64 x2), [])) (y1 := (.lit (.int .i64 y2), [])) (y2 := (.lit (.int .i64 z2), [])) Tryd.underlying29 (by kernel_rfl) cellsSt ⟨1, by simp [DataW.trod, Tryd.underlying3, wx2]⟩ ⟨1, by simp [DataW.trod, Tryd.underlying3, wy2]⟩ ⟨1, by simp [DataW.trod, Tryd.underlying3, wz2]⟩
  clear hA0 hval0
  simp only [List.append_nil] at hW'
  refine (walkExactEvalWide s0 x1 y1 z1 x2 y2 z2 W hs0).mono fun e W' ⟨he, hb⟩ => ?_
  subst he
  refine ⟨_, rfl, _, _, _, [], [], [], hW', ?_, ?_, ?_, hb.frame _, fun h => by cases h⟩
  · exact trodAll_mk1 (shut_bool Tryd.underlying4 true)
  · exact trodAll_mk3 (shut_string Tryd.underlying9 hs0) (rd1 _ _) (rd2 _ _)
  · rfl

-- each of the three walks over the program by itself: together they are too much for the kernel's memory
theorem jf1 : (Rows.fnExactEvalWideRow.inPlace == Tryd.prog.inPlace 10) = true := by kernel_rfl
theorem jf2 : (Rows.fnExactEvalWideRow.unfollowed == Tryd.prog.unfollowed 10) = true := by kernel_rfl
theorem jf3 : (Rows.fnExactEvalWideRow.recurses == Tryd.prog.recurses 10) = true := by kernel_rfl
theorem closed : joinedFacts Tryd.prog 10 Tryd.f10 Rows.fnExactEvalWideSpec Rows.fnExactEvalWideRow = true := by
  unfold joinedFacts
  rw [jf1, jf2, jf3]
  kernel_rfl

theorem said : Rows.FnExactEvalWideSaid :=
  OpenClaim.holds_of_wide 10 Tryd.f10 rfl rfl rfl rfl rfl rfl rfl ⟨rfl, rfl, rfl, rfl, rfl⟩ rfl rfl rfl rfl rfl (by kernel_rfl) Tryd.func10 closed
    (of_decide_eq_true (by kernel_rfl)) (by unfold Func.isWrapper; first | (rw [if_pos (by decide +kernel)]; kernel_rfl) | (rw [if_neg (by decide +kernel)]; exact ⟨rfl, rfl⟩))
    (fun os started H enc _ => by rw [OpenClaim.pre_eq_preRow]; exact lifted os started H enc)

theorem plain (f : FuncId) (fn : Func) (hf : Tryd.pinned.checked.prog.funcNamed Rows.fnExactEvalWideRow.func = some f) (hfn : Tryd.pinned.checked.prog.funcs[f]? = some fn) :
    true = Tryd.pinned.checked.prog.looks [] ∧ ∀ (j : Nat) t, fn.params[j]? = some t → Tryd.pinned.checked.prog.wantsStandIn t = false := by
  obtain rfl : f = 10 := Option.some.inj ((show Tryd.prog.funcNamed Rows.fnExactEvalWideRow.func = some 10 by kernel_rfl).symm.trans hf) |>.symm
  obtain rfl : fn = Tryd.f10 := (Option.some.inj (Tryd.func10.symm.trans hfn)).symm
  refine ⟨by kernel_rfl, fun j t ht => ?_⟩
  rw [Tryd.params10] at ht
  have hm : t ∈ [9, 29, 29] := by simpa using Array.mem_of_getElem? ht
  have hall : ([9, 29, 29].all fun u => !Tryd.prog.wantsStandIn u) = true := by kernel_rfl
  exact (show Tryd.prog.wantsStandIn t = false by simpa using List.all_eq_true.1 hall t hm)

theorem exactEvalWide_card : Rows.FnExactEvalWideCardSaid :=
  Claim7.holds_tied_plain_at .later [] _ _ _ _ said (fun _ h => by cases h) (by kernel_rfl) (fun _ h => by cases h) fnExactEvalWide_row_tie rfl ⟨rfl, rfl⟩ (by kernel_rfl) rfl plain (by kernel_rfl)

#print axioms exactEvalWide_card
end Go.Proofs.YtinillnccfgooaaDoor
