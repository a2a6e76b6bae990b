/-
  The law of TotalHolds is true at all texts: no condition.
-/
import Derived.Test.YtcbdbbcipnmjoaaGreatRows
import Derived.Test.YtcbdbbcipnmjoaaGreatWt
import Derived.ProofKit
import Derived.Lib.SmallJoins
import Derived.ChangeSame
import Derived.JoinedOf
import Derived.JoinedAt
import Derived.RowKit3
import Derived.ShutString
namespace Go.Proofs.YtcbdbbcipnmjoaaGreat
open Go.ChangeShapes Go.WideShapes Go.ChangeAt Go.RowKit Go.Joins
open Go.WideMaps Go.WideElems
open Go.ChangeMaps (open_string shut_string)

theorem Tryz.own : ownKnob Tryz.prog.godebug = none := by kernel_rfl

set_option maxRecDepth 100000 in
set_option maxHeartbeats 4000000 in
theorem lawTotalHolds_of (r0 : Bool) (s0 : ByteArray) (s1 : ByteArray) (s2 : ByteArray) (w : World)
    (c1 : ∀ w, Calls Tryz.prog 7 #[.string s0, .string s1, .string s2] w fun e w' => e = .returned (.bool r0) ∧ Below w.heap.size w w')
    (c2 : ∀ w, Calls Tryz.prog 8 #[.string s0, .string s1, .string s2] w fun e w' => e = .returned (.bool r0) ∧ Below w.heap.size w w') :
    Calls Tryz.prog 4 #[.string s0, .string s1, .string s2] w fun e w' => e = .returned (.bool true) ∧ Below w.heap.size w w' := by
  have C1 := Lib.hid c1
  have C2 := Lib.hid c2
  clear c1 c2
  by_cases hl0 : (s0.size : Int) ≤ 1048576
  · skip
    by_cases hl1 : (s1.size : Int) ≤ 1048576
    · skip
      by_cases hl2 : (s2.size : Int) ≤ 1048576
      · skip
        go_enter Tryz.func4, Tryz.ntmps4
        go_wp2_with fail
        have HB1 := Lib.hid (Below.refl w.heap.size w)
        refine (C1.out _).mono ?_
        rintro e w2 ⟨rfl, hb⟩
        have HB2 := Lib.hid (bnext HB1.out hb)
        clear hb
        go_wp2_with fail
        refine (C2.out _).mono ?_
        rintro e w4 ⟨rfl, hb⟩
        have HB4 := Lib.hid (bnext HB2.out hb)
        clear hb
        go_wp2_with fail
        go_ret
        exact ⟨rfl, HB4.out⟩
      · skip
        go_enter Tryz.func4, Tryz.ntmps4
        go_wp2_with fail
        go_ret
        exact ⟨rfl, Below.refl _ _⟩
    · skip
      go_enter Tryz.func4, Tryz.ntmps4
      go_wp2_with fail
      go_ret
      exact ⟨rfl, Below.refl _ _⟩
  · skip
    go_enter Tryz.func4, Tryz.ntmps4
    go_wp2_with fail
    go_ret
    exact ⟨rfl, Below.refl _ _⟩

theorem lawTotalHolds (a s q : ByteArray) (w : World) (hm : a.size ≤ maxLen) (_hm2 : s.size ≤ maxLen) (hm3 : q.size ≤ maxLen) : Calls Tryz.prog 4 #[.string a, .string s, .string q] w fun e w' => e = .returned (.bool true) ∧ Below w.heap.size w w' := by
  by_cases h : IsP s ∧ Set27 q
  · obtain ⟨⟨⟨p, hp, he⟩, hl⟩, hq⟩ := h
    by_cases ha : Set27 a
    · exact lawTotalHolds_of _ a s q w (fun w => specTotalH_yes a s q hp he hl hq ha hm3 w) (fun w => implTotalH_yes a s q hp he hl hq ha w)
    · exact lawTotalHolds_of _ a s q w (fun w => specTotalH_out a s q hp he hl hq ha hm hm3 w) (fun w => implTotalH_out a s q hp he hl hq ha w)
  · exact lawTotalHolds_of _ a s q w (fun w => specTotalH_no a s q h hm3 w) (fun w => implTotalH_no a s q h w)

set_option maxRecDepth 100000 in
theorem liftedTotalHolds (os : Os) (started : os.Started) (H : Type) (enc : TypeId × Value → H) :
    ReturnsInHanded {} Tryz.checked os 4 .any (Rows.fnExactTotalHoldsSpec.pre6 enc Tryz.prog Tryz.f4 Rows.fnExactTotalHoldsRow.domain false) (Rows.fnExactTotalHoldsSpec.post enc Tryz.prog Tryz.f4 false true false false) := by
  refine returnsInHanded_of_change (C := Tryz.checked) Tryz.own started (by kernel_rfl) Tryz.func4
    (ChangeSpec.witness6 (enc := enc) (C := Tryz.checked) false ⟨#[], #[.string ByteArray.empty, .string ByteArray.empty, .string ByteArray.empty], []⟩ 8 (by kernel_rfl) (by kernel_rfl) (by kernel_rfl) (by kernel_rfl)) ?_
  intro W base args ds gs before hval0 hW _ _
  have hval : ∀ (j : Nat) t v, Tryz.f4.params[j]? = some t → args[j]? = some v → Value.okWide Tryz.prog W .any base t v := hval0
  have hW' := hW
  obtain ⟨p, q, hA0, hV, rfl, _, _⟩ := hW
  have hA : DataW.TrodAll enc Tryz.prog W 0 (fun _ => true) true Tryz.f4.params.toList args.toList ds p := hA0
  rw [Tryz.params4] at hA hval
  obtain ⟨v0, v1, v2, d0, d1, d2, p0, p1, p2, rfl, rfl, rfl, h0, h1, h2⟩ := trodAll_three hA
  obtain ⟨rfl, rfl⟩ := trodVars_none hV
  obtain ⟨s0, rfl, rfl, rfl, hs0⟩ := open_string Tryz.underlying9 (hval 0 9 v0 rfl rfl) h0
  obtain ⟨s1, rfl, rfl, rfl, hs1⟩ := open_string Tryz.underlying9 (hval 1 9 v1 rfl rfl) h1
  obtain ⟨s2, rfl, rfl, rfl, hs2⟩ := open_string Tryz.underlying9 (hval 2 9 v2 rfl rfl) h2
  clear hA0 hval0
  simp only [List.append_nil] at hW'
  refine (lawTotalHolds s0 s1 s2 W hs0 hs1 hs2).mono fun e W' ⟨he, hb⟩ => ?_
  subst he
  refine ⟨_, rfl, _, _, _, [], [], [], hW', ?_, ?_, ?_, hb.frame _, fun h => by cases h⟩
  · exact trodAll_mk1 (shut_bool Tryz.underlying4 true)
  · exact trodAll_mk3 (shut_string Tryz.underlying9 hs0) (shut_string Tryz.underlying9 hs1) (shut_string Tryz.underlying9 hs2)
  · rfl

theorem totalHolds_holds : Rows.FnExactTotalHoldsSaid :=
  OpenClaim.holds_of_wide 4 Tryz.f4 rfl rfl rfl rfl rfl rfl rfl ⟨rfl, rfl, rfl, rfl, rfl⟩ rfl rfl rfl rfl rfl (by kernel_rfl) Tryz.func4 (by kernel_rfl)
    (of_decide_eq_true (by kernel_rfl)) (by unfold Func.isWrapper; rw [if_neg (of_decide_eq_false (by kernel_rfl))]; exact ⟨rfl, rfl⟩)
    (fun os started H enc _ => liftedTotalHolds os started H enc)

#print axioms totalHolds_holds
end Go.Proofs.YtcbdbbcipnmjoaaGreat
