/-
  The law of FirstState is true at every text: no condition. The card.
-/
import Derived.Test.YtbicokobbpmgnaaDoorCards
import Derived.Test.YtbicokobbpmgnaaDoorTie
import Derived.Test.YtbicokobbpmgnaaDoorTabL
import Derived.ProofKit
import Derived.Lib.SmallJoins
import Derived.ChangeSame
import Derived.JoinedOf
import Derived.JoinedAt
import Derived.RowKit3
import Derived.ShutString
import Derived.OpenShut
import Derived.Deep.DeepHandedRow
import Derived.Deep.DeepWitnessRowRef
import Derived.Deep.DeepLaidRun
namespace Go.Proofs.YtbicokobbpmgnaaDoor.firstState
open Go.ChangeShapes Go.WideShapes Go.ChangeAt Go.RowKit Go.Joins
open Go.WideMaps Go.WideElems
open Go.ChangeMaps (open_string shut_string)

theorem own : ownKnob Tryd.prog.godebug = none := by kernel_rfl

set_option maxHeartbeats 1000000 in
theorem eqSame (p q r : Int) (w : World) : Calls Tryd.prog 6 #[.agg #[.int .i64 p, .int .i64 q, .int .i64 r], .agg #[.int .i64 p, .int .i64 q, .int .i64 r]] w fun e w' => e = .returned (.bool true) ∧ Below w.heap.size w w' := by
  go_enter Tryd.func6, Tryd.ntmps6
  go_wp2_with fail
  go_ret
  exact ⟨rfl, ((Below.refl _ _).alloc (Nat.le_refl _) _).alloc (by simp) _⟩

set_option maxRecDepth 100000 in
set_option maxHeartbeats 4000000 in
theorem lawFirstState_of (r0x r0y r0z : Int) (r1 : Bool) (s0 : ByteArray) (w : World) (hT : Tab32 w)
    (c1 : ∀ w, Calls Tryd.prog 4 #[.string s0] w fun e w' => e = .returned (.tuple #[.agg #[.int .i64 r0x, .int .i64 r0y, .int .i64 r0z], .bool r1]) ∧ Below w.heap.size w w')
    (c2 : ∀ w, Tab32 w → Calls Tryd.prog 5 #[.string s0] w fun e w' => e = .returned (.tuple #[.agg #[.int .i64 r0x, .int .i64 r0y, .int .i64 r0z], .bool r1]) ∧ Below w.heap.size w w') :
    Calls Tryd.prog 3 #[.string s0] w fun e w' => e = .returned (.bool true) ∧ Below w.heap.size w w' := by
  have C1 := Lib.hid c1
  have C2 := Lib.hid c2
  have HTab := Lib.hid hT
  clear c1 c2 hT
  by_cases hl0 : (s0.size : Int) ≤ 1048576
  · skip
    go_enter Tryd.func3, Tryd.ntmps3
    go_wp2_with fail
    have HB1 := Lib.hid (Below.refl w.heap.size w)
    refine (C1.out _).mono ?_
    rintro e w2 ⟨rfl, hb⟩
    have HB2 := Lib.hid (bnext HB1.out hb)
    clear hb
    go_wp2_with fail
    have u0 := Blk.new w2 #[.int .i64 r0x, .int .i64 r0y, .int .i64 r0z] 23
    have HB2a := Lib.hid (HB2.out.alloc HB2.out.size (.cells #[.int .i64 r0x, .int .i64 r0y, .int .i64 r0z] 23))
    generalize w2.alloc (.cells #[.int .i64 r0x, .int .i64 r0y, .int .i64 r0z] 23) = w2a at *
    have HU0 := Lib.hid u0
    clear u0
    refine (C2.out _ (HTab.out.below HB2a.out)).mono ?_
    rintro e w4 ⟨rfl, hb⟩
    have HB4 := Lib.hid (bnext HB2a.out hb)
    have HU4 := Lib.hid (HU0.out.kept hb)
    clear hb
    obtain ⟨q0, q1, q2⟩ := HU4.out.c3
    have hlt := HU4.out.lt
    go_wp2_with fail
    clear q0 q1 q2 hlt
    refine (eqSame r0x r0y r0z _).mono ?_
    rintro e w6 ⟨rfl, hb⟩
    have HB6 := Lib.hid ((HB4.out.alloc HB4.out.size (.cells #[.int .i64 r0x, .int .i64 r0y, .int .i64 r0z] 23)).trans (hb.mono (by have := HB4.out.size; simp; omega)))
    clear hb
    go_wp2_with fail
    go_ret
    exact ⟨rfl, HB6.out⟩
  · skip
    go_enter Tryd.func3, Tryd.ntmps3
    go_wp2_with fail
    go_ret
    exact ⟨rfl, Below.refl _ _⟩

theorem law (p : ByteArray) (w : World) (hT : Tab32 w) (hm : p.size ≤ maxLen) : Calls Tryd.prog 3 #[.string p] w fun e w' => e = .returned (.bool true) ∧ Below w.heap.size w w' := by
  by_cases h : Set27 p
  · rcases first_or (hs p.data.toList) with ⟨k, hk⟩ | hk
    · exact lawFirstState_of _ _ _ _ p w hT (fun w => specFirst_yes p k w h hk) (fun w hT => implFirst_yes p k w hT h hk)
    · exact lawFirstState_of _ _ _ _ p w hT (fun w => specFirst_none p w h hk) (fun w hT => implFirst_none p w hT h hk)
  · exact lawFirstState_of _ _ _ _ p w hT (fun w => specFirst_no p w h hm) (fun w hT => implFirst_no p w hT h)

/-- THE WITNESS: the settled world, the table holding what its initialiser lays. -/
noncomputable def laidWorld (os : Os) : World :=
  let w0 := World.holding Tryd.prog os ⟨#[], #[], []⟩
  let put (h : Array Obj) (g : Nat) (cs : Array Value) : Array Obj := h.modify g fun
    | .cells _ t frozen => .cells cs t frozen
    | o => o
  { w0 with heap := put w0.heap 0 (Lib.deBruijn32tab.map fun (z : Nat) => Value.int .u8 (z : Int)).toArray }
def wargs : Array Value := #[.string ⟨#[]⟩]
theorem laid_met (os : Os) : laidMet Tryd.prog Rows.fnExactFirstStateRow.laid ((laidWorld os).forCall (fun _ _ => 0) ⟨#[], wargs, []⟩).memory :=
  laidMet_of_run3 8 (by kernel_rfl) (by kernel_rfl) (by kernel_rfl)

theorem witness_row (os : Os) {H : Type} (enc : TypeId × Value → H) :
    (OpenSpec.ofChange Rows.fnExactFirstStateSpec).preRow enc Tryd.prog Tryd.f3 Rows.fnExactFirstStateRow.domain false Rows.fnExactFirstStateRow.laid ((laidWorld os).forCall (fun _ _ => 0) ⟨#[], wargs, []⟩).memory wargs := by
  have hw : (DataW.whole enc Tryd.prog ((laidWorld os).forCall (fun _ _ => 0) ⟨#[], wargs, []⟩).memory Tryd.f3.params.toList (OpenSpec.ofChange Rows.fnExactFirstStateSpec).vars false wargs.toList 8).map (fun x => (x.1, x.2.1)) =
      some ([.lit (.string [])], []) := by kernel_rfl
  obtain ⟨⟨x1, x2, x3⟩, hx, hx1⟩ := Option.map_eq_some_iff.1 hw
  simp only [Prod.mk.injEq] at hx1
  obtain ⟨rfl, rfl⟩ := hx1
  exact OpenSpec.preRow_of_cond 8 hx (by kernel_rfl) (fun k hk => by cases hk) (by kernel_rfl) (laid_met os)

set_option maxRecDepth 100000 in
set_option maxHeartbeats 2000000 in
theorem lifted (os : Os) (started : os.Started) (H : Type) (enc : TypeId × Value → H) (F : Stop.Interp) :
    ReturnsInHanded {} Tryd.checked os 3 .any ((OpenSpec.ofChange Rows.fnExactFirstStateSpec).preRow enc Tryd.prog Tryd.f3 Rows.fnExactFirstStateRow.domain false Rows.fnExactFirstStateRow.laid) (((OpenSpec.ofChange Rows.fnExactFirstStateSpec).at F).post enc Tryd.prog Tryd.f3 false true false false) := by
  refine returnsInHanded_of_row (C := Tryd.checked) (s := OpenSpec.ofChange Rows.fnExactFirstStateSpec) own started (by kernel_rfl) Tryd.func3
    (witness_row_atRef (enc := enc) (C := Tryd.checked) false (laidWorld os) wargs rfl (by kernel_rfl) (by kernel_rfl) (by kernel_rfl) (witness_row os enc)) ?_
  intro W base args ds gs before hval0 hW _ _ _ hL _ _
  have hval : ∀ (j : Nat) t v, Tryd.f3.params[j]? = some t → args[j]? = some v → Value.okWide Tryd.prog W .any base t v := hval0
  have hW' := hW
  obtain ⟨p, q, hA0, hV0, rfl, _, _⟩ := hW
  have hA : DataW.TrodAll enc Tryd.prog W 0 (fun _ => true) true Tryd.f3.params.toList args.toList ds p := hA0
  rw [Tryd.params3] at hA hval
  obtain ⟨v0, d0, rfl, rfl, h0⟩ := trodAll_one hA
  obtain ⟨rfl, rfl⟩ := trodVars_none hV0
  obtain ⟨s0, rfl, rfl, rfl, hs0⟩ := open_string Tryd.underlying9 (hval 0 9 v0 rfl rfl) h0
  clear hA0 hV0 hval0
  have hT : Tab32 W := tab_of_laid hL
  refine (law s0 W hT hs0).mono ?_
  rintro e W' ⟨rfl, hb⟩
  have e1 : ((OpenSpec.ofChange Rows.fnExactFirstStateSpec).at F).fn H ([.lit (.string s0.data.toList)] ++ []) = { results := [.lit (.bool true)], args := [.lit (.string s0.data.toList)] } := rfl
  refine ⟨_, rfl, _, _, _, [], [], [], hW', ?_, ?_, ?_, hb.frame _, fun h => by cases h⟩
  · rw [e1]; exact trodAll_mk1 (shut_bool Tryd.underlying4 true)
  · rw [e1]; exact trodAll_mk1 (shut_string Tryd.underlying9 hs0)
  · rw [e1]; rfl

theorem said : Rows.FnExactFirstStateSaid :=
  OpenClaim.holds_of_cond 3 Tryd.f3 rfl rfl rfl rfl rfl rfl rfl ⟨rfl, rfl, rfl, rfl, rfl⟩ rfl rfl rfl rfl rfl (by kernel_rfl) Tryd.func3 (by kernel_rfl)
    (of_decide_eq_true (by kernel_rfl)) (by unfold Func.isWrapper; first | (rw [if_pos (by decide +kernel)]; kernel_rfl) | (rw [if_neg (by decide +kernel)]; exact ⟨rfl, rfl⟩))
    (fun os started H enc _ F => by rw [OpenClaim.pre_eq_preRow]; exact lifted os started H enc F)

theorem plain (f : FuncId) (fn : Func) (hf : Tryd.pinned.checked.prog.funcNamed Rows.fnExactFirstStateRow.func = some f) (hfn : Tryd.pinned.checked.prog.funcs[f]? = some fn) :
    false = Tryd.pinned.checked.prog.looks [] ∧ ∀ (j : Nat) t, fn.params[j]? = some t → Tryd.pinned.checked.prog.wantsStandIn t = false := by
  obtain rfl : f = 3 := Option.some.inj ((show Tryd.prog.funcNamed Rows.fnExactFirstStateRow.func = some 3 by kernel_rfl).symm.trans hf) |>.symm
  obtain rfl : fn = Tryd.f3 := (Option.some.inj (Tryd.func3.symm.trans hfn)).symm
  refine ⟨by kernel_rfl, fun j t ht => ?_⟩
  rw [Tryd.params3] at ht
  obtain rfl : t = 9 := by
    have := Array.mem_of_getElem? ht
    simpa using this
  exact (show Tryd.prog.wantsStandIn 9 = false by kernel_rfl)

theorem card : Rows.FnExactFirstStateCardSaid :=
  Claim7.holds_tied_plain_at .later [] _ _ _ _ said (fun _ h => by cases h) (by kernel_rfl) (fun _ h => by cases h) fnExactFirstState_row_tie rfl ⟨rfl, rfl⟩ (by kernel_rfl) rfl plain (by kernel_rfl)

end Go.Proofs.YtbicokobbpmgnaaDoor.firstState
namespace Go.Proofs.YtbicokobbpmgnaaDoor
theorem firstState_card : Rows.FnExactFirstStateCardSaid := firstState.card

#print axioms firstState_card
end Go.Proofs.YtbicokobbpmgnaaDoor
