/-
  The law of StatementsOf is true at every text: no condition. The card.
-/
import Derived.Test.YtheclmdpiijakaaDoorCards
import Derived.Test.YtheclmdpiijakaaDoorTie
import Derived.Test.YtheclmdpiijakaaDoorSto
import Derived.ProofKit
import Derived.Lib.SmallJoins
import Derived.ChangeSame
import Derived.JoinedOf
import Derived.JoinedAt
import Derived.RowKit3
import Derived.ShutString
import Derived.OpenShut
import Derived.LaidMore
import Derived.Lay
import Derived.SevenTiedAt
import Derived.Stop.Joined
namespace Go.Proofs.YtheclmdpiijakaaDoor
open Go.ChangeShapes Go.WideShapes Go.ChangeAt Go.RowKit Go.Joins
open Go.WideMaps Go.WideElems Tm
open Go.ChangeMaps (open_string shut_string)


set_option maxRecDepth 100000 in
set_option maxHeartbeats 4000000 in
theorem lawStatementsOf_of (ls : List (List UInt8)) (s : ByteArray) (w : World) (hn : ls.length ≤ 900)
    (c1 : ∀ w, Calls Tryd.prog 25 #[.string s] w fun e w' => ∃ sl, e = .returned sl ∧ Row w' w.heap.size 9 sl (strs ls) ∧ Below w.heap.size w w')
    (c2 : ∀ w, Calls Tryd.prog 26 #[.string s] w fun e w' => ∃ sl, e = .returned sl ∧ Row w' w.heap.size 9 sl (strs ls) ∧ Below w.heap.size w w') :
    Calls Tryd.prog 6 #[.string s] w fun e w' => e = .returned (.bool true) ∧ Below w.heap.size w w' := by
  have C1 := Lib.hid c1
  have C2 := Lib.hid c2
  clear c1 c2
  have hlen : (strs ls).length = ls.length := by simp [strs]
  by_cases hl0 : (s.size : Int) ≤ 1048576
  · go_enter Tryd.func6, Tryd.ntmps6
    go_wp2_with fail
    refine (C1.out _).mono ?_
    rintro e w1 ⟨sa, rfl, ra, hb1⟩
    have HB1 := Lib.hid hb1
    have HRA := Lib.hid ra
    clear hb1 ra
    go_wp2_with fail
    refine (C2.out _).mono ?_
    rintro e w2 ⟨sb, rfl, rb, hb2⟩
    have HB2 := Lib.hid hb2
    have HRB := Lib.hid rb
    clear hb2 rb
    go_wp2_with fail
    refine (eqS_any w2 _ _ _ _ ls (by omega) HRB.out (HRA.out.kept HB2.out)).mono ?_
    rintro e w3 ⟨rfl, hb3⟩
    have HB3 := Lib.hid (bnext HB2.out hb3)
    have HRB3 := Lib.hid (HRB.out.kept hb3)
    clear hb3
    go_wp2_with fail
    refine (markS_any w3 w1.heap.size sb ls 1 (by omega) (by omega) (by omega) HRB3.out).mono ?_
    rintro e w4 ⟨rfl, rm, hb4⟩
    have HB4 := Lib.hid (HB3.out.trans hb4)
    have HRM := Lib.hid rm
    clear hb4 rm
    go_wp2_with fail
    refine (heldS_any w4 w1.heap.size sb ls.length 1 (by omega) (by omega) (by omega) HRM.out).mono ?_
    rintro e w5 ⟨rfl, hb5⟩
    have HB5 := Lib.hid (bnext HB4.out hb5)
    have HRM5 := Lib.hid (HRM.out.kept hb5)
    clear hb5
    go_wp2_with fail
    refine (C2.out _).mono ?_
    rintro e w6 ⟨sc, rfl, rc, hb6⟩
    have HB6 := Lib.hid (bnext HB5.out hb6)
    have HRM6 := Lib.hid (HRM5.out.kept hb6)
    have HRC := Lib.hid rc
    clear hb6 rc
    go_wp2_with fail
    refine (eqS_any w6 _ _ _ _ ls (by omega) HRC.out (HRA.out.kept HB6.out)).mono ?_
    rintro e w7 ⟨rfl, hb7⟩
    have HB7 := Lib.hid (bnext HB6.out hb7)
    have HRM7 := Lib.hid (HRM6.out.kept hb7)
    clear hb7
    go_wp2_with fail
    refine (heldS_any w7 w1.heap.size sb ls.length 1 (by omega) (by omega) (by omega) HRM7.out).mono ?_
    rintro e w8 ⟨rfl, hb8⟩
    have HB8 := Lib.hid (bnext HB1.out (bnext HB7.out hb8))
    clear hb8
    go_wp2_with fail
    go_ret
    exact ⟨rfl, HB8.out⟩
  · go_enter Tryd.func6, Tryd.ntmps6
    go_wp2_with fail
    go_ret
    exact ⟨rfl, Below.refl _ _⟩

theorem walkExactStatementsOf (s : ByteArray) (w : World) (_hs : s.size ≤ maxLen) : Calls Tryd.prog 6 #[.string s] w fun e w' => e = .returned (.bool true) ∧ Below w.heap.size w w' := by
  by_cases hv : PValid false s.data.toList ∧ s.size ≤ 200
  · obtain ⟨⟨p, hp, he⟩, hl⟩ := hv
    have hn : ((exq p).map Pg.ser).length ≤ 900 := by
      have h1 := exq_le p
      have h2 := congrArg List.length he
      simp at h2 ⊢
      omega
    exact lawStatementsOf_of _ s w hn (fun w => specSto_yes s w hp he hl) (fun w => implSto_yes s w hp he hl)
  · exact lawStatementsOf_of [] s w (by simp) (fun w => specSto_no s w hv) (fun w => implSto_no s w hv)

theorem Tryd.own : ownKnob Tryd.prog.godebug = none := by kernel_rfl

set_option maxRecDepth 100000 in
set_option maxHeartbeats 2000000 in
theorem lifted (os : Os) (started : os.Started) (H : Type) (enc : TypeId × Value → H) :
    ReturnsInHanded {} Tryd.checked os 6 .any (fun w args => (Rows.fnExactStatementsOfSpec.pre enc Tryd.prog Tryd.f6 Rows.fnExactStatementsOfRow.domain false w args ∧ laidMetH Tryd.prog Rows.fnExactStatementsOfRow.laid w) ∧ sizedMet enc Tryd.prog Tryd.f6 (OpenSpec.ofChange Rows.fnExactStatementsOfSpec) false w args)
      (Rows.fnExactStatementsOfSpec.post enc Tryd.prog Tryd.f6 false true false false) := by
  refine returnsInHanded_of_change_and (C := Tryd.checked) (X := fun w _ => laidMetH Tryd.prog Rows.fnExactStatementsOfRow.laid w) (fun _ _ _ hh h => h.of_heap hh) Tryd.own started (by kernel_rfl) Tryd.func6
    (ChangeSpec.witness_shaped (enc := enc) (C := Tryd.checked) (os := os) (X := fun w _ => laidMetH Tryd.prog Rows.fnExactStatementsOfRow.laid w) false (World.laidAll Tryd.prog os Rows.fnExactStatementsOfRow.laid) #[.string ByteArray.empty] 8 (World.laidAll_os _ _ _)
      (World.shaped_of_ZipB (by kernel_rfl) (by kernel_rfl)) (by kernel_rfl) (by kernel_rfl) (by kernel_rfl)
      (by rw [MakeChecks.laidMetH_plain _ _ _ (by kernel_rfl)]; exact laidMet_laidAll _ (by kernel_rfl) (by kernel_rfl))) ?_
  intro W base args ds gs before hval0 hW _ _ hL _
  have hval : ∀ (j : Nat) t v, Tryd.f6.params[j]? = some t → args[j]? = some v → Value.okWide Tryd.prog W .any base t v := hval0
  have hW' := hW
  obtain ⟨p, q, hA0, hV, rfl, _, _⟩ := hW
  have hA : DataW.TrodAll enc Tryd.prog W 0 (fun _ => true) true Tryd.f6.params.toList args.toList ds p := hA0
  rw [Tryd.params6] at hA hval
  obtain ⟨v0, d0, rfl, rfl, h0⟩ := trodAll_one hA
  obtain ⟨rfl, rfl⟩ := trodVars_none hV
  obtain ⟨s0, rfl, rfl, rfl, hs0⟩ := open_string Tryd.underlying9 (hval 0 9 v0 rfl rfl) h0
  clear hA0 hval0
  simp only [List.append_nil] at hW'
  refine (walkExactStatementsOf s0 W hs0).mono fun e W' ⟨he, hb⟩ => ?_
  subst he
  refine ⟨_, rfl, _, _, _, [], [], [], hW', ?_, ?_, ?_, hb.frame _, fun h => by cases h⟩
  · exact trodAll_mk1 (shut_bool Tryd.underlying4 true)
  · exact trodAll_mk1 (shut_string Tryd.underlying9 hs0)
  · rfl

-- each of the three walks over the program by itself: together they are too much for the kernel's memory
theorem jf1 : (Rows.fnExactStatementsOfRow.inPlace == Tryd.prog.inPlace 6) = true := by kernel_rfl
theorem jf2 : (Rows.fnExactStatementsOfRow.unfollowed == Tryd.prog.unfollowed 6) = true := by kernel_rfl
theorem jf3 : (Rows.fnExactStatementsOfRow.recurses == Tryd.prog.recurses 6) = true := by kernel_rfl
theorem closed : joinedFacts Tryd.prog 6 Tryd.f6 Rows.fnExactStatementsOfSpec Rows.fnExactStatementsOfRow = true := by
  unfold joinedFacts
  rw [jf1, jf2, jf3]
  kernel_rfl

theorem said : Rows.FnExactStatementsOfSaid :=
  OpenClaim.holds_of_wide 6 Tryd.f6 rfl rfl rfl rfl rfl rfl rfl ⟨rfl, rfl, rfl, rfl, rfl⟩ rfl rfl rfl rfl rfl (by kernel_rfl) Tryd.func6 closed
    (of_decide_eq_true (by kernel_rfl)) (by unfold Func.isWrapper; first | (rw [if_pos (by decide +kernel)]; kernel_rfl) | (rw [if_neg (by decide +kernel)]; exact ⟨rfl, rfl⟩))
    (fun os started H enc _ => by rw [OpenClaim.pre_eq_preRow]; exact lifted os started H enc)

theorem plain (f : FuncId) (fn : Func) (hf : Tryd.pinned.checked.prog.funcNamed Rows.fnExactStatementsOfRow.func = some f) (hfn : Tryd.pinned.checked.prog.funcs[f]? = some fn) :
    true = Tryd.pinned.checked.prog.looks [] ∧ ∀ (j : Nat) t, fn.params[j]? = some t → Tryd.pinned.checked.prog.wantsStandIn t = false := by
  obtain rfl : f = 6 := Option.some.inj ((show Tryd.prog.funcNamed Rows.fnExactStatementsOfRow.func = some 6 by kernel_rfl).symm.trans hf) |>.symm
  obtain rfl : fn = Tryd.f6 := (Option.some.inj (Tryd.func6.symm.trans hfn)).symm
  refine ⟨by kernel_rfl, fun j t ht => ?_⟩
  rw [Tryd.params6] at ht
  have hm : t ∈ [9] := by simpa using Array.mem_of_getElem? ht
  have hall : ([9].all fun u => !Tryd.prog.wantsStandIn u) = true := by kernel_rfl
  exact (show Tryd.prog.wantsStandIn t = false by simpa using List.all_eq_true.1 hall t hm)

theorem exactStatementsOf_card : Rows.FnExactStatementsOfCardSaid :=
  Claim7.holds_tied_plain_at .later [] _ _ _ _ said (fun _ h => by cases h) (by kernel_rfl) (fun _ h => by cases h) fnExactStatementsOf_row_tie rfl ⟨rfl, rfl⟩ (by kernel_rfl) rfl plain (by kernel_rfl)

#print axioms exactStatementsOf_card
end Go.Proofs.YtheclmdpiijakaaDoor
