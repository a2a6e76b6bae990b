/-
  The law of SubstTest is true at every three texts: no condition. The card.
-/
import Derived.Test.YtdlahmfnnfjhiaaDoorCards
import Derived.Test.YtdlahmfnnfjhiaaDoorTie
import Derived.Test.YtdlahmfnnfjhiaaDoorSubstE
import Derived.ProofKit
import Derived.Lib.SmallJoins
import Derived.ChangeSame
import Derived.JoinedOf
import Derived.JoinedAt
import Derived.RowKit3
import Derived.ShutString
import Derived.OpenShut
import Derived.Deep.DeepHandedRow
import Derived.Deep.DeepWitnessRowRef
import Derived.Deep.DeepLaidRun
namespace Go.Proofs.YtdlahmfnnfjhiaaDoor.substTest
open Go.ChangeShapes Go.WideShapes Go.ChangeAt Go.RowKit Go.Joins
open Go.WideMaps Go.WideElems Tm
open Go.ChangeMaps (open_string shut_string)

theorem own : ownKnob Tryd.prog.godebug = none := by kernel_rfl

set_option maxHeartbeats 2000000 in
theorem law_of (p : ByteArray) (q : Bool) (s v y : ByteArray) (m : Int) (w : World) (hm : w.cell? ⟨0, 0, none⟩ = some (.int .i64 m))
    (c1 : ∀ w, Calls Tryd.prog 7 #[.string s, .string v, .string y] w fun e w' => e = .returned (.tuple #[.string p, .bool q]) ∧ Below w.heap.size w w')
    (c2 : ∀ w, w.cell? ⟨0, 0, none⟩ = some (.int .i64 m) → Calls Tryd.prog 8 #[.string s, .string v, .string y] w fun e w' => e = .returned (.tuple #[.string p, .bool q]) ∧ Below w.heap.size w w') :
    Calls Tryd.prog 4 #[.string s, .string v, .string y] w fun e w' => e = .returned (.bool true) ∧ Below w.heap.size w w' := by
  have C1 := Lib.hid c1
  have C2 := Lib.hid c2
  have HM := Lib.hid hm
  clear c1 c2 hm
  by_cases hl : (s.size : Int) ≤ 1048576
  · by_cases hl2 : (v.size : Int) ≤ 1048576
    · by_cases hl3 : (y.size : Int) ≤ 1048576
      · cases q
        all_goals
          go_enter Tryd.func4, Tryd.ntmps4
          go_wp2_with fail
          refine (C1.out _).mono ?_
          rintro e w1 ⟨rfl, hb⟩
          have HB := Lib.hid hb
          clear hb
          go_wp2_with fail
          refine (C2.out _ (cell_keep2 HB.out HM.out)).mono ?_
          rintro e w2 ⟨rfl, hb⟩
          have HB2 := Lib.hid (HB.out.trans (hb.mono HB.out.size))
          clear hb
          go_wp2_with fail
          go_ret
          exact ⟨rfl, HB2.out⟩
      · go_enter Tryd.func4, Tryd.ntmps4
        go_wp2_with fail
        go_ret
        exact ⟨rfl, Below.refl _ _⟩
    · go_enter Tryd.func4, Tryd.ntmps4
      go_wp2_with fail
      go_ret
      exact ⟨rfl, Below.refl _ _⟩
  · go_enter Tryd.func4, Tryd.ntmps4
    go_wp2_with fail
    go_ret
    exact ⟨rfl, Below.refl _ _⟩

theorem isVar_at {v : ByteArray} (h : IsVar v) : ∃ (c : UInt8) (i : Nat), v = ⟨#[c]⟩ ∧ ((c = 120 ∧ i = 0) ∨ (c = 121 ∧ i = 1) ∨ (c = 122 ∧ i = 2)) := by
  rcases h with rfl | rfl | rfl
  · exact ⟨120, 0, rfl, .inl ⟨rfl, rfl⟩⟩
  · exact ⟨121, 1, rfl, .inr (.inl ⟨rfl, rfl⟩)⟩
  · exact ⟨122, 2, rfl, .inr (.inr ⟨rfl, rfl⟩)⟩

theorem law (s v y : ByteArray) (m : Int) (w : World) (hm : w.cell? ⟨0, 0, none⟩ = some (.int .i64 m)) (hv0 : v.size ≤ maxLen) :
    Calls Tryd.prog 4 #[.string s, .string v, .string y] w fun e w' => e = .returned (.bool true) ∧ Below w.heap.size w w' := by
  by_cases hs : Valid false true s.data.toList ∧ s.size ≤ 200
  · obtain ⟨hs, hl⟩ := hs
    by_cases hy : Valid false false y.data.toList ∧ y.size ≤ 200
    · by_cases hv : IsVar v
      · obtain ⟨hy, hyl⟩ := hy
        obtain ⟨c, i, rfl, hi⟩ := isVar_at hv
        by_cases hr : (bs (sub1 c y.data.toList s.data.toList)).size ≤ 200
        · have e := cut_short hr
          exact law_of _ true s _ y m w hm (fun w => e ▸ specSubTest_yes s y c w hs hl hi hy hyl)
            (fun w h => implSubTest _ s _ y w m h ⟨_, _, rfl⟩ (fun w h => e ▸ sub_yes true s y c m w h hs hl hv hy hyl))
        · have e := cut_long hr
          exact law_of _ false s _ y m w hm (fun w => e ▸ specSubTest_yes s y c w hs hl hi hy hyl)
            (fun w h => implSubTest _ s _ y w m h ⟨_, _, rfl⟩ (fun w h => e ▸ sub_yes true s y c m w h hs hl hv hy hyl))
      · exact law_of _ false s v y m w hm (fun w => specSubTest_var s v y w hs hl hy.1 hy.2 hv0 hv)
          (fun w h => implSubTest _ s v y w m h ⟨_, _, rfl⟩ (fun w _ => sub_var true s v y w hs hl hv0 hv))
    · by_cases hv : IsVar v
      · exact law_of _ false s v y m w hm (fun w => specSubTest_by s v y w hs hl hy)
          (fun w h => implSubTest _ s v y w m h ⟨_, _, rfl⟩ (fun w _ => sub_by true s v y w hs hl hv hy))
      · exact law_of _ false s v y m w hm (fun w => specSubTest_by s v y w hs hl hy)
          (fun w h => implSubTest _ s v y w m h ⟨_, _, rfl⟩ (fun w _ => sub_var true s v y w hs hl hv0 hv))
  · exact law_of _ false s v y m w hm (fun w => specSubTest_text s v y w hs)
      (fun w h => implSubTest _ s v y w m h ⟨_, _, rfl⟩ (fun w _ => sub_text true s v y w hs))

/-- THE WITNESS: the settled world, the two tables holding what their initialisers lay. -/
noncomputable def laidWorld (os : Os) : World :=
  let w0 := World.holding Tryd.prog os ⟨#[], #[], []⟩
  let put (h : Array Obj) (g : Nat) (cs : Array Value) : Array Obj := h.modify g fun
    | .cells _ t frozen => .cells cs t frozen
    | o => o
  let h1 := put w0.heap 1 (Go.Pinned.utf8FirstZ.map fun (z : Nat) => Value.int .u8 (z : Int)).toArray
  let h2 := put h1 2 #[.int .u8 128, .int .u8 191, .int .u8 160, .int .u8 191, .int .u8 128, .int .u8 159, .int .u8 144, .int .u8 191, .int .u8 128, .int .u8 143, .int .u8 0, .int .u8 0, .int .u8 0, .int .u8 0, .int .u8 0, .int .u8 0, .int .u8 0, .int .u8 0, .int .u8 0, .int .u8 0, .int .u8 0, .int .u8 0, .int .u8 0, .int .u8 0, .int .u8 0, .int .u8 0, .int .u8 0, .int .u8 0, .int .u8 0, .int .u8 0, .int .u8 0, .int .u8 0]
  { w0 with heap := h2 }
def wargs : Array Value := #[.string ⟨#[]⟩, .string ⟨#[]⟩, .string ⟨#[]⟩]
theorem laid_met (os : Os) : laidMet Tryd.prog Rows.fnExactSubstTestRow.laid ((laidWorld os).forCall (fun _ _ => 0) ⟨#[], wargs, []⟩).memory :=
  laidMet_of_run3 8 (by kernel_rfl) (by kernel_rfl) (by kernel_rfl)

theorem witness_row (os : Os) {H : Type} (enc : TypeId × Value → H) :
    (OpenSpec.ofChange Rows.fnExactSubstTestSpec).preRow enc Tryd.prog Tryd.f4 Rows.fnExactSubstTestRow.domain false Rows.fnExactSubstTestRow.laid ((laidWorld os).forCall (fun _ _ => 0) ⟨#[], wargs, []⟩).memory wargs := by
  have hw : (DataW.whole enc Tryd.prog ((laidWorld os).forCall (fun _ _ => 0) ⟨#[], wargs, []⟩).memory Tryd.f4.params.toList (OpenSpec.ofChange Rows.fnExactSubstTestSpec).vars false wargs.toList 8).map (fun x => (x.1, x.2.1)) =
      some ([.lit (.string []), .lit (.string []), .lit (.string [])], []) := by kernel_rfl
  obtain ⟨⟨x1, x2, x3⟩, hx, hx1⟩ := Option.map_eq_some_iff.1 hw
  simp only [Prod.mk.injEq] at hx1
  obtain ⟨rfl, rfl⟩ := hx1
  exact OpenSpec.preRow_of_cond 8 hx (by kernel_rfl) (fun k hk => by cases hk) (by kernel_rfl) (laid_met os)

set_option maxRecDepth 100000 in
set_option maxHeartbeats 2000000 in
theorem lifted (os : Os) (started : os.Started) (H : Type) (enc : TypeId × Value → H) (F : Stop.Interp) :
    ReturnsInHanded {} Tryd.checked os 4 .any ((OpenSpec.ofChange Rows.fnExactSubstTestSpec).preRow enc Tryd.prog Tryd.f4 Rows.fnExactSubstTestRow.domain false Rows.fnExactSubstTestRow.laid) (((OpenSpec.ofChange Rows.fnExactSubstTestSpec).at F).post enc Tryd.prog Tryd.f4 false true false false) := by
  refine returnsInHanded_of_row (C := Tryd.checked) (s := OpenSpec.ofChange Rows.fnExactSubstTestSpec) own started (by kernel_rfl) Tryd.func4
    (witness_row_atRef (enc := enc) (C := Tryd.checked) false (laidWorld os) wargs rfl (by kernel_rfl) (by kernel_rfl) (by kernel_rfl) (witness_row os enc)) ?_
  intro W base args ds gs before hval0 hW _ _ _ _ hsh _
  have hval : ∀ (j : Nat) t v, Tryd.f4.params[j]? = some t → args[j]? = some v → Value.okWide Tryd.prog W .any base t v := hval0
  have hW' := hW
  obtain ⟨p, q, hA0, hV0, rfl, _, _⟩ := hW
  have hA : DataW.TrodAll enc Tryd.prog W 0 (fun _ => true) true Tryd.f4.params.toList args.toList ds p := hA0
  rw [Tryd.params4] at hA hval
  obtain ⟨v0, v1, v2, d0, d1, d2, p0, p1, p2, rfl, rfl, rfl, h0, h1, h2⟩ := trodAll_three hA
  obtain ⟨rfl, rfl⟩ := trodVars_none hV0
  obtain ⟨s0, rfl, rfl, rfl, hs0⟩ := open_string Tryd.underlying9 (hval 0 9 v0 rfl rfl) h0
  obtain ⟨s1, rfl, rfl, rfl, hs1⟩ := open_string Tryd.underlying9 (hval 1 9 v1 rfl rfl) h1
  obtain ⟨s2, rfl, rfl, rfl, hs2⟩ := open_string Tryd.underlying9 (hval 2 9 v2 rfl rfl) h2
  clear hA0 hV0 hval0
  obtain ⟨m, hm⟩ := Tryd.laysM155.s1_3 W hsh
  refine (law s0 s1 s2 m W hm hs1).mono ?_
  rintro e W' ⟨rfl, hb⟩
  have e1 : ((OpenSpec.ofChange Rows.fnExactSubstTestSpec).at F).fn H ([.lit (.string s0.data.toList), .lit (.string s1.data.toList), .lit (.string s2.data.toList)] ++ []) = { results := [.lit (.bool true)], args := [.lit (.string s0.data.toList), .lit (.string s1.data.toList), .lit (.string s2.data.toList)] } := rfl
  refine ⟨_, rfl, _, _, _, [], [], [], hW', ?_, ?_, ?_, hb.frame _, fun h => by cases h⟩
  · rw [e1]; exact trodAll_mk1 (shut_bool Tryd.underlying4 true)
  · rw [e1]; exact trodAll_mk3 (shut_string Tryd.underlying9 hs0) (shut_string Tryd.underlying9 hs1) (shut_string Tryd.underlying9 hs2)
  · rw [e1]; rfl

theorem said : Rows.FnExactSubstTestSaid :=
  OpenClaim.holds_of_cond 4 Tryd.f4 rfl rfl rfl rfl rfl rfl rfl ⟨rfl, rfl, rfl, rfl, rfl⟩ rfl rfl rfl rfl rfl (by kernel_rfl) Tryd.func4 (by kernel_rfl)
    (of_decide_eq_true (by kernel_rfl)) (by unfold Func.isWrapper; first | (rw [if_pos (by decide +kernel)]; kernel_rfl) | (rw [if_neg (by decide +kernel)]; exact ⟨rfl, rfl⟩))
    (fun os started H enc _ F => by rw [OpenClaim.pre_eq_preRow]; exact lifted os started H enc F)

theorem plain (f : FuncId) (fn : Func) (hf : Tryd.pinned.checked.prog.funcNamed Rows.fnExactSubstTestRow.func = some f) (hfn : Tryd.pinned.checked.prog.funcs[f]? = some fn) :
    false = Tryd.pinned.checked.prog.looks [] ∧ ∀ (j : Nat) t, fn.params[j]? = some t → Tryd.pinned.checked.prog.wantsStandIn t = false := by
  obtain rfl : f = 4 := Option.some.inj ((show Tryd.prog.funcNamed Rows.fnExactSubstTestRow.func = some 4 by kernel_rfl).symm.trans hf) |>.symm
  obtain rfl : fn = Tryd.f4 := (Option.some.inj (Tryd.func4.symm.trans hfn)).symm
  refine ⟨by kernel_rfl, fun j t ht => ?_⟩
  rw [Tryd.params4] at ht
  obtain rfl : t = 9 := by
    have := Array.mem_of_getElem? ht
    simpa using this
  exact (show Tryd.prog.wantsStandIn 9 = false by kernel_rfl)

theorem card : Rows.FnExactSubstTestCardSaid :=
  Claim7.holds_tied_plain_at .later [] _ _ _ _ said (fun _ h => by cases h) (by kernel_rfl) (fun _ h => by cases h) fnExactSubstTest_row_tie rfl ⟨rfl, rfl⟩ (by kernel_rfl) rfl plain (by kernel_rfl)

end Go.Proofs.YtdlahmfnnfjhiaaDoor.substTest
namespace Go.Proofs.YtdlahmfnnfjhiaaDoor
theorem substTest_card : Rows.FnExactSubstTestCardSaid := substTest.card

#print axioms substTest_card
end Go.Proofs.YtdlahmfnnfjhiaaDoor
