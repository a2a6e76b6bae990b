/-
  The law of PartsOf is true at every text: no condition.
-/
import Derived.Test.YtekcbadebjbhmaaRows
import Derived.Test.YtekcbadebjbhmaaPO
import Derived.ProofKit
import Derived.Lib.SmallJoins
import Derived.ChangeSame
import Derived.JoinedOf
import Derived.JoinedAt
import Derived.RowKit3
import Derived.ShutString
namespace Go.Proofs.Ytekcbadebjbhmaa
open Go.ChangeShapes Go.WideShapes Go.ChangeAt Go.RowKit Go.Joins
open Go.WideMaps Go.WideElems
open Go.ChangeMaps (open_string shut_string)

theorem Try.own : ownKnob Try.prog.godebug = none := by kernel_rfl

set_option maxRecDepth 100000 in
set_option maxHeartbeats 4000000 in
theorem lawPartsOf_of (ls : List (List UInt8)) (s : ByteArray) (w : World) (hn : ls.length ≤ 900)
    (c1 : ∀ w, Calls Try.prog 8 #[.string s] w fun e w' => ∃ sl, e = .returned sl ∧ Row w' w.heap.size 9 sl (strs ls) ∧ Below w.heap.size w w')
    (c2 : ∀ w, Calls Try.prog 9 #[.string s] w fun e w' => ∃ sl, e = .returned sl ∧ Row w' w.heap.size 9 sl (strs ls) ∧ Below w.heap.size w w') :
    Calls Try.prog 3 #[.string s] w fun e w' => e = .returned (.bool true) ∧ Below w.heap.size w w' := by
  have C1 := Lib.hid c1
  have C2 := Lib.hid c2
  clear c1 c2
  have hlen : (strs ls).length = ls.length := by simp [strs]
  by_cases hl0 : (s.size : Int) ≤ 1048576
  · go_enter Try.func3, Try.ntmps3
    go_wp2_with fail
    refine (C1.out _).mono ?_
    rintro e w1 ⟨sa, rfl, ra, hb1⟩
    have HB1 := Lib.hid hb1
    have HRA := Lib.hid ra
    clear hb1 ra
    go_wp2_with fail
    refine (C2.out _).mono ?_
    rintro e w2 ⟨sb, rfl, rb, hb2⟩
    have HB2 := Lib.hid hb2
    have HRB := Lib.hid rb
    clear hb2 rb
    go_wp2_with fail
    refine (eqS_any w2 _ _ _ _ ls (by omega) HRB.out (HRA.out.kept HB2.out)).mono ?_
    rintro e w3 ⟨rfl, hb3⟩
    have HB3 := Lib.hid (bnext HB2.out hb3)
    have HRB3 := Lib.hid (HRB.out.kept hb3)
    clear hb3
    go_wp2_with fail
    refine (markS_any w3 w1.heap.size sb ls 1 (by omega) (by omega) (by omega) HRB3.out).mono ?_
    rintro e w4 ⟨rfl, rm, hb4⟩
    have HB4 := Lib.hid (HB3.out.trans hb4)
    have HRM := Lib.hid rm
    clear hb4 rm
    go_wp2_with fail
    refine (heldS_any w4 w1.heap.size sb ls.length 1 (by omega) (by omega) (by omega) HRM.out).mono ?_
    rintro e w5 ⟨rfl, hb5⟩
    have HB5 := Lib.hid (bnext HB4.out hb5)
    have HRM5 := Lib.hid (HRM.out.kept hb5)
    clear hb5
    go_wp2_with fail
    refine (C2.out _).mono ?_
    rintro e w6 ⟨sc, rfl, rc, hb6⟩
    have HB6 := Lib.hid (bnext HB5.out hb6)
    have HRM6 := Lib.hid (HRM5.out.kept hb6)
    have HRC := Lib.hid rc
    clear hb6 rc
    go_wp2_with fail
    refine (eqS_any w6 _ _ _ _ ls (by omega) HRC.out (HRA.out.kept HB6.out)).mono ?_
    rintro e w7 ⟨rfl, hb7⟩
    have HB7 := Lib.hid (bnext HB6.out hb7)
    have HRM7 := Lib.hid (HRM6.out.kept hb7)
    clear hb7
    go_wp2_with fail
    refine (heldS_any w7 w1.heap.size sb ls.length 1 (by omega) (by omega) (by omega) HRM7.out).mono ?_
    rintro e w8 ⟨rfl, hb8⟩
    have HB8 := Lib.hid (bnext HB1.out (bnext HB7.out hb8))
    clear hb8
    go_wp2_with fail
    go_ret
    exact ⟨rfl, HB8.out⟩
  · go_enter Try.func3, Try.ntmps3
    go_wp2_with fail
    go_ret
    exact ⟨rfl, Below.refl _ _⟩

theorem lawPartsOf (s : ByteArray) (w : World) (_hm : s.size ≤ maxLen) : Calls Try.prog 3 #[.string s] w fun e w' => e = .returned (.bool true) ∧ Below w.heap.size w w' := by
  by_cases h : PValid false s.data.toList ∧ s.size ≤ 200
  · obtain ⟨⟨p, hp, he⟩, hl⟩ := h
    exact lawPartsOf_of (p.pks.map Pg.ser) s w (by have : p.pks.length ≤ 2 := by cases p <;> simp [Pg.pks]
                                                   simp; omega) (fun w => specParts_yes s w hp he hl) (fun w => implParts_yes s w hp he hl)
  · exact lawPartsOf_of [] s w (by simp) (fun w => specParts_no s w h) (fun w => implParts_no s w h)

set_option maxRecDepth 100000 in
theorem liftedPartsOf (os : Os) (started : os.Started) (H : Type) (enc : TypeId × Value → H) :
    ReturnsInHanded {} Try.checked os 3 .any (Rows.fnExactPartsOfSpec.pre6 enc Try.prog Try.f3 Rows.fnExactPartsOfRow.domain false) (Rows.fnExactPartsOfSpec.post enc Try.prog Try.f3 false true false false) := by
  refine returnsInHanded_of_change (C := Try.checked) Try.own started (by kernel_rfl) Try.func3
    (ChangeSpec.witness6 (enc := enc) (C := Try.checked) false ⟨#[], #[.string ByteArray.empty], []⟩ 8 (by kernel_rfl) (by kernel_rfl) (by kernel_rfl) (by kernel_rfl)) ?_
  intro W base args ds gs before hval0 hW _ _
  have hval : ∀ (j : Nat) t v, Try.f3.params[j]? = some t → args[j]? = some v → Value.okWide Try.prog W .any base t v := hval0
  have hW' := hW
  obtain ⟨p, q, hA0, hV, rfl, _, _⟩ := hW
  have hA : DataW.TrodAll enc Try.prog W 0 (fun _ => true) true Try.f3.params.toList args.toList ds p := hA0
  rw [Try.params3] at hA hval
  obtain ⟨v0, d0, rfl, rfl, h0⟩ := trodAll_one hA
  obtain ⟨rfl, rfl⟩ := trodVars_none hV
  obtain ⟨s0, rfl, rfl, rfl, hs0⟩ := open_string Try.underlying9 (hval 0 9 v0 rfl rfl) h0
  clear hA0 hval0
  simp only [List.append_nil] at hW'
  refine (lawPartsOf s0 W hs0).mono fun e W' ⟨he, hb⟩ => ?_
  subst he
  refine ⟨_, rfl, _, _, _, [], [], [], hW', ?_, ?_, ?_, hb.frame _, fun h => by cases h⟩
  · exact trodAll_mk1 (shut_bool Try.underlying4 true)
  · exact trodAll_mk1 (shut_string Try.underlying9 hs0)
  · rfl

theorem partsOf_holds : Rows.FnExactPartsOfSaid :=
  OpenClaim.holds_of_wide 3 Try.f3 rfl rfl rfl rfl rfl rfl rfl ⟨rfl, rfl, rfl, rfl, rfl⟩ rfl rfl rfl rfl rfl (by kernel_rfl) Try.func3 (by kernel_rfl)
    (of_decide_eq_true (by kernel_rfl)) (by unfold Func.isWrapper; rw [if_neg (of_decide_eq_false (by kernel_rfl))]; exact ⟨rfl, rfl⟩)
    (fun os started H enc _ => liftedPartsOf os started H enc)

#print axioms partsOf_holds
end Go.Proofs.Ytekcbadebjbhmaa
