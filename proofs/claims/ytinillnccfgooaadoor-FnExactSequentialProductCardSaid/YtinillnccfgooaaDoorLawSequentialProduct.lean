/-
  The law of SequentialProduct is true at every two texts: no condition. The card.
-/
import Derived.Test.YtinillnccfgooaaDoorCards
import Derived.Test.YtinillnccfgooaaDoorTie
import Derived.Test.YtinillnccfgooaaDoorSqP
import Derived.ProofKit
import Derived.Lib.SmallJoins
import Derived.ChangeSame
import Derived.JoinedOf
import Derived.JoinedAt
import Derived.RowKit3
import Derived.ShutString
import Derived.OpenShut
import Derived.LaidMore
import Derived.Lay
import Derived.SevenTiedAt
import Derived.Stop.Joined
namespace Go.Proofs.YtinillnccfgooaaDoor
open Go.ChangeShapes Go.WideShapes Go.ChangeAt Go.RowKit Go.Joins
open Go.WideMaps Go.WideElems Tm
open Go.ChangeMaps (open_string shut_string)

theorem tabs_of {W : World} (hL : laidMetH Tryd.prog Rows.fnExactSequentialProductRow.laid W) : Lib.Utf8Tabs 1 2 W := by
  rw [MakeChecks.laidMetH_plain _ _ _ (by kernel_rfl)] at hL
  obtain ⟨ps, hv, _⟩ := hL
  have e1 : Lib.firstData = Rows.laid_unicode_utf8_first := by kernel_rfl
  have e2 : Lib.acceptData = Rows.laid_unicode_utf8_acceptRanges := by kernel_rfl
  exact utf8Tabs_of_reads Tryd.lays260 u8extra (by rw [e1]; exact Lib.LaidVars_reads hv _ _ (List.Mem.tail _ (List.Mem.tail _ (List.Mem.head _)))) (by rw [e2]; exact Lib.LaidVars_reads hv _ _ (List.Mem.head _))

set_option maxHeartbeats 2000000 in
theorem lawSequentialProduct_of (p : ByteArray) (q : Bool) (s t : ByteArray) (w : World) (hT : Lib.Utf8Tabs 1 2 w)
    (c1 : ∀ w, Calls Tryd.prog 14 #[.string s, .string t] w fun e w' => e = .returned (.tuple #[.string p, .bool q]) ∧ Below w.heap.size w w')
    (c2 : ∀ w, Lib.Utf8Tabs 1 2 w → Calls Tryd.prog 15 #[.string s, .string t] w fun e w' => e = .returned (.tuple #[.string p, .bool q]) ∧ Below w.heap.size w w') :
    Calls Tryd.prog 3 #[.string s, .string t] w fun e w' => e = .returned (.bool true) ∧ Below w.heap.size w w' := by
  have C1 := Lib.hid c1
  have C2 := Lib.hid c2
  have HT := Lib.hid hT
  clear c1 c2 hT
  by_cases hl : (s.size : Int) ≤ 1048576
  · by_cases hl2 : (t.size : Int) ≤ 1048576
    · cases q
      all_goals
        go_enter Tryd.func3, Tryd.ntmps3
        go_wp2_with fail
        refine (C1.out _).mono ?_
        rintro e w1 ⟨rfl, hb⟩
        have HB := Lib.hid hb
        clear hb
        go_wp2_with fail
        refine (C2.out _ (Utf8Tabs_below HT.out HB.out)).mono ?_
        rintro e w2 ⟨rfl, hb⟩
        have HB2 := Lib.hid (HB.out.trans (hb.mono HB.out.size))
        clear hb
        go_wp2_with fail
        go_ret
        exact ⟨rfl, HB2.out⟩
    · go_enter Tryd.func3, Tryd.ntmps3
      go_wp2_with fail
      go_ret
      exact ⟨rfl, Below.refl _ _⟩
  · go_enter Tryd.func3, Tryd.ntmps3
    go_wp2_with fail
    go_ret
    exact ⟨rfl, Below.refl _ _⟩

theorem walkExactSequentialProduct (s t : ByteArray) (w : World) (_hs : s.size ≤ maxLen) (_ht : t.size ≤ maxLen) (hL : laidMetH Tryd.prog Rows.fnExactSequentialProductRow.laid w) : Calls Tryd.prog 3 #[.string s, .string t] w fun e w' => e = .returned (.bool true) ∧ Below w.heap.size w w' := by
  by_cases hv : PValid false s.data.toList ∧ s.size ≤ 200
  · by_cases hu : PValid false t.data.toList ∧ t.size ≤ 200
    · exact lawSequentialProduct_of _ true s t w (tabs_of hL) (fun w => specSq_yes s t w hv.1 hv.2 hu.1 hu.2) (fun w hT => implSq_yes s t w hv.1 hv.2 hu.1 hu.2 hT)
    · exact lawSequentialProduct_of _ false s t w (tabs_of hL) (fun w => specSq_noB s t w hv.1 hv.2 hu) (fun w _ => implSq_no s t w (fun w => two_noB s t w hv.1 hv.2 hu))
  · exact lawSequentialProduct_of _ false s t w (tabs_of hL) (fun w => specSq_noA s t w hv) (fun w _ => implSq_no s t w (fun w => two_noA s t w hv))

theorem Tryd.own : ownKnob Tryd.prog.godebug = none := by kernel_rfl

set_option maxRecDepth 100000 in
set_option maxHeartbeats 2000000 in
theorem lifted (os : Os) (started : os.Started) (H : Type) (enc : TypeId × Value → H) :
    ReturnsInHanded {} Tryd.checked os 3 .any (fun w args => (Rows.fnExactSequentialProductSpec.pre enc Tryd.prog Tryd.f3 Rows.fnExactSequentialProductRow.domain false w args ∧ laidMetH Tryd.prog Rows.fnExactSequentialProductRow.laid w) ∧ sizedMet enc Tryd.prog Tryd.f3 (OpenSpec.ofChange Rows.fnExactSequentialProductSpec) false w args)
      (Rows.fnExactSequentialProductSpec.post enc Tryd.prog Tryd.f3 false true false false) := by
  refine returnsInHanded_of_change_and (C := Tryd.checked) (X := fun w _ => laidMetH Tryd.prog Rows.fnExactSequentialProductRow.laid w) (fun _ _ _ hh h => h.of_heap hh) Tryd.own started (by kernel_rfl) Tryd.func3
    (ChangeSpec.witness_shaped (enc := enc) (C := Tryd.checked) (os := os) (X := fun w _ => laidMetH Tryd.prog Rows.fnExactSequentialProductRow.laid w) false (World.laidAll Tryd.prog os Rows.fnExactSequentialProductRow.laid) #[.string ByteArray.empty, .string ByteArray.empty] 8 (World.laidAll_os _ _ _)
      (World.shaped_of_ZipB (by kernel_rfl) (by kernel_rfl)) (by kernel_rfl) (by kernel_rfl) (by kernel_rfl)
      (by rw [MakeChecks.laidMetH_plain _ _ _ (by kernel_rfl)]; exact laidMet_laidAll _ (by kernel_rfl) (by kernel_rfl))) ?_
  intro W base args ds gs before hval0 hW _ _ hL _
  have hval : ∀ (j : Nat) t v, Tryd.f3.params[j]? = some t → args[j]? = some v → Value.okWide Tryd.prog W .any base t v := hval0
  have hW' := hW
  obtain ⟨p, q, hA0, hV, rfl, _, _⟩ := hW
  have hA : DataW.TrodAll enc Tryd.prog W 0 (fun _ => true) true Tryd.f3.params.toList args.toList ds p := hA0
  rw [Tryd.params3] at hA hval
  obtain ⟨v0, v1, d0, d1, p0, p1, rfl, rfl, rfl, h0, h1⟩ := trodAll_two hA
  obtain ⟨rfl, rfl⟩ := trodVars_none hV
  obtain ⟨s0, rfl, rfl, rfl, hs0⟩ := open_string Tryd.underlying9 (hval 0 9 v0 rfl rfl) h0
  obtain ⟨s1, rfl, rfl, rfl, hs1⟩ := open_string Tryd.underlying9 (hval 1 9 v1 rfl rfl) h1
  clear hA0 hval0
  simp only [List.append_nil] at hW'
  refine (walkExactSequentialProduct s0 s1 W hs0 hs1 hL).mono fun e W' ⟨he, hb⟩ => ?_
  subst he
  refine ⟨_, rfl, _, _, _, [], [], [], hW', ?_, ?_, ?_, hb.frame _, fun h => by cases h⟩
  · exact trodAll_mk1 (shut_bool Tryd.underlying4 true)
  · exact trodAll_mk2 (shut_string Tryd.underlying9 hs0) (shut_string Tryd.underlying9 hs1)
  · rfl

-- each of the three walks over the program by itself: together they are too much for the kernel's memory
theorem jf1 : (Rows.fnExactSequentialProductRow.inPlace == Tryd.prog.inPlace 3) = true := by kernel_rfl
theorem jf2 : (Rows.fnExactSequentialProductRow.unfollowed == Tryd.prog.unfollowed 3) = true := by kernel_rfl
theorem jf3 : (Rows.fnExactSequentialProductRow.recurses == Tryd.prog.recurses 3) = true := by kernel_rfl
theorem closed : joinedFacts Tryd.prog 3 Tryd.f3 Rows.fnExactSequentialProductSpec Rows.fnExactSequentialProductRow = true := by
  unfold joinedFacts
  rw [jf1, jf2, jf3]
  kernel_rfl

theorem said : Rows.FnExactSequentialProductSaid :=
  OpenClaim.holds_of_wide 3 Tryd.f3 rfl rfl rfl rfl rfl rfl rfl ⟨rfl, rfl, rfl, rfl, rfl⟩ rfl rfl rfl rfl rfl (by kernel_rfl) Tryd.func3 closed
    (of_decide_eq_true (by kernel_rfl)) (by unfold Func.isWrapper; first | (rw [if_pos (by decide +kernel)]; kernel_rfl) | (rw [if_neg (by decide +kernel)]; exact ⟨rfl, rfl⟩))
    (fun os started H enc _ => by rw [OpenClaim.pre_eq_preRow]; exact lifted os started H enc)

theorem plain (f : FuncId) (fn : Func) (hf : Tryd.pinned.checked.prog.funcNamed Rows.fnExactSequentialProductRow.func = some f) (hfn : Tryd.pinned.checked.prog.funcs[f]? = some fn) :
    true = Tryd.pinned.checked.prog.looks [] ∧ ∀ (j : Nat) t, fn.params[j]? = some t → Tryd.pinned.checked.prog.wantsStandIn t = false := by
  obtain rfl : f = 3 := Option.some.inj ((show Tryd.prog.funcNamed Rows.fnExactSequentialProductRow.func = some 3 by kernel_rfl).symm.trans hf) |>.symm
  obtain rfl : fn = Tryd.f3 := (Option.some.inj (Tryd.func3.symm.trans hfn)).symm
  refine ⟨by kernel_rfl, fun j t ht => ?_⟩
  rw [Tryd.params3] at ht
  have hm : t ∈ [9, 9] := by simpa using Array.mem_of_getElem? ht
  have hall : ([9, 9].all fun u => !Tryd.prog.wantsStandIn u) = true := by kernel_rfl
  exact (show Tryd.prog.wantsStandIn t = false by simpa using List.all_eq_true.1 hall t hm)

theorem exactSequentialProduct_card : Rows.FnExactSequentialProductCardSaid :=
  Claim7.holds_tied_plain_at .later [] _ _ _ _ said (fun _ h => by cases h) (by kernel_rfl) (fun _ h => by cases h) fnExactSequentialProduct_row_tie rfl ⟨rfl, rfl⟩ (by kernel_rfl) rfl plain (by kernel_rfl)

#print axioms exactSequentialProduct_card
end Go.Proofs.YtinillnccfgooaaDoor
