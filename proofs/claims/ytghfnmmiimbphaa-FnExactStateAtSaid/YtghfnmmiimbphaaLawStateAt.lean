/-
  The law of StateAt is true at every number: no condition.
-/
import Derived.Test.YtghfnmmiimbphaaRows
import Derived.Test.YtghfnmmiimbphaaStIx
import Derived.ProofKit
import Derived.Lib.SmallJoins
import Derived.ChangeSame
import Derived.JoinedOf
import Derived.JoinedAt
import Derived.RowKit3
import Derived.ShutString
namespace Go.Proofs.Ytghfnmmiimbphaa
open Go.ChangeShapes Go.WideShapes Go.ChangeAt Go.RowKit Go.Joins
open Go.WideMaps Go.WideElems
open Go.ChangeMaps (open_string shut_string)

theorem Try.own : ownKnob Try.prog.godebug = none := by kernel_rfl

set_option maxHeartbeats 1000000 in
theorem eqSame (p q r : Int) (w : World) : Calls Try.prog 12 #[.agg #[.int .i64 p, .int .i64 q, .int .i64 r], .agg #[.int .i64 p, .int .i64 q, .int .i64 r]] w fun e w' => e = .returned (.bool true) ∧ Below w.heap.size w w' := by
  go_enter Try.func12, Try.ntmps12
  go_wp2_with fail
  go_ret
  exact ⟨rfl, ((Below.refl _ _).alloc (Nat.le_refl _) _).alloc (by simp) _⟩

set_option maxRecDepth 100000 in
set_option maxHeartbeats 4000000 in
theorem lawStateAt_of (r0x r0y r0z : Int) (r1 : Bool) (n0 : Int) (w : World)
    (c1 : ∀ w, Calls Try.prog 10 #[.int .i64 n0] w fun e w' => e = .returned (.tuple #[.agg #[.int .i64 r0x, .int .i64 r0y, .int .i64 r0z], .bool r1]) ∧ Below w.heap.size w w')
    (c2 : ∀ w, Calls Try.prog 11 #[.int .i64 n0] w fun e w' => e = .returned (.tuple #[.agg #[.int .i64 r0x, .int .i64 r0y, .int .i64 r0z], .bool r1]) ∧ Below w.heap.size w w') :
    Calls Try.prog 4 #[.int .i64 n0] w fun e w' => e = .returned (.bool true) ∧ Below w.heap.size w w' := by
  have C1 := Lib.hid c1
  have C2 := Lib.hid c2
  clear c1 c2
  go_enter Try.func4, Try.ntmps4
  go_wp2_with fail
  have HB1 := Lib.hid (Below.refl w.heap.size w)
  refine (C1.out _).mono ?_
  rintro e w2 ⟨rfl, hb⟩
  have HB2 := Lib.hid (bnext HB1.out hb)
  clear hb
  go_wp2_with fail
  have u0 := Blk.new w2 #[.int .i64 r0x, .int .i64 r0y, .int .i64 r0z] 25
  have HB2a := Lib.hid (HB2.out.alloc HB2.out.size (.cells #[.int .i64 r0x, .int .i64 r0y, .int .i64 r0z] 25))
  generalize w2.alloc (.cells #[.int .i64 r0x, .int .i64 r0y, .int .i64 r0z] 25) = w2a at *
  have HU0 := Lib.hid u0
  clear u0
  refine (C2.out _).mono ?_
  rintro e w4 ⟨rfl, hb⟩
  have HB4 := Lib.hid (bnext HB2a.out hb)
  have HU4 := Lib.hid (HU0.out.kept hb)
  clear hb
  obtain ⟨q0, q1, q2⟩ := HU4.out.c3
  have hlt := HU4.out.lt
  go_wp2_with fail
  clear q0 q1 q2 hlt
  refine (eqSame r0x r0y r0z _).mono ?_
  rintro e w6 ⟨rfl, hb⟩
  have HB6 := Lib.hid ((HB4.out.alloc HB4.out.size (.cells #[.int .i64 r0x, .int .i64 r0y, .int .i64 r0z] 25)).trans (hb.mono (by have := HB4.out.size; simp; omega)))
  clear hb
  go_wp2_with fail
  go_ret
  exact ⟨rfl, HB6.out⟩

theorem lawStateAt (n : Int) (w : World) : Calls Try.prog 4 #[.int .i64 n] w fun e w' => e = .returned (.bool true) ∧ Below w.heap.size w w' := by
  by_cases h : 0 ≤ n ∧ n < 27
  · exact lawStateAt_of _ _ _ _ n w (fun w => specAt_yes n w h.1 h.2) (fun w => implAt_yes n w h.1 h.2)
  · exact lawStateAt_of _ _ _ _ n w (fun w => specAt_no n w h) (fun w => implAt_no n w h)

set_option maxRecDepth 100000 in
theorem liftedStateAt (os : Os) (started : os.Started) (H : Type) (enc : TypeId × Value → H) :
    ReturnsInHanded {} Try.checked os 4 .any (Rows.fnExactStateAtSpec.pre6 enc Try.prog Try.f4 Rows.fnExactStateAtRow.domain false) (Rows.fnExactStateAtSpec.post enc Try.prog Try.f4 false true false false) := by
  refine returnsInHanded_of_change (C := Try.checked) Try.own started (by kernel_rfl) Try.func4
    (ChangeSpec.witness6 (enc := enc) (C := Try.checked) false ⟨#[], #[.int .i64 0], []⟩ 8 (by kernel_rfl) (by kernel_rfl) (by kernel_rfl) (by kernel_rfl)) ?_
  intro W base args ds gs before hval0 hW _ _
  have hval : ∀ (j : Nat) t v, Try.f4.params[j]? = some t → args[j]? = some v → Value.okWide Try.prog W .any base t v := hval0
  have hW' := hW
  obtain ⟨p, q, hA0, hV, rfl, _, _⟩ := hW
  have hA : DataW.TrodAll enc Try.prog W 0 (fun _ => true) true Try.f4.params.toList args.toList ds p := hA0
  rw [Try.params4] at hA hval
  obtain ⟨v0, d0, rfl, rfl, h0⟩ := trodAll_one hA
  obtain ⟨rfl, rfl⟩ := trodVars_none hV
  obtain ⟨n0, rfl, rfl, rfl, wn0⟩ := open_int Try.underlying3 (hval 0 3 v0 rfl rfl) h0
  clear hA0 hval0
  simp only [List.append_nil] at hW'
  refine (lawStateAt n0 W).mono fun e W' ⟨he, hb⟩ => ?_
  subst he
  refine ⟨_, rfl, _, _, _, [], [], [], hW', ?_, ?_, ?_, hb.frame _, fun h => by cases h⟩
  · exact trodAll_mk1 (shut_bool Try.underlying4 true)
  · exact trodAll_mk1 (shut_int Try.underlying3 wn0)
  · rfl

theorem stateAt_holds : Rows.FnExactStateAtSaid :=
  OpenClaim.holds_of_wide 4 Try.f4 rfl rfl rfl rfl rfl rfl rfl ⟨rfl, rfl, rfl, rfl, rfl⟩ rfl rfl rfl rfl rfl (by kernel_rfl) Try.func4 (by kernel_rfl)
    (of_decide_eq_true (by kernel_rfl)) (by unfold Func.isWrapper; rw [if_neg (of_decide_eq_false (by kernel_rfl))]; exact ⟨rfl, rfl⟩)
    (fun os started H enc _ => liftedStateAt os started H enc)

#print axioms stateAt_holds
end Go.Proofs.Ytghfnmmiimbphaa
