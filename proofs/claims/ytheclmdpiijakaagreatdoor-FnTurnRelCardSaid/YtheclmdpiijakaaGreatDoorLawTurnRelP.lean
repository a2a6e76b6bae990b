/-
  The law of turned and composed relations is true at all bytes: no condition. The card.
-/
import Derived.Test.YtheclmdpiijakaaGreatDoorCards
import Derived.Test.YtheclmdpiijakaaGreatDoorTie
import Derived.Test.YtheclmdpiijakaaGreatDoorR10
import Derived.Deep.RegionHeld3
import Derived.ProofKit
import Derived.ChangeOld
import Derived.Deep.DeepHandedRow
import Derived.Lib.SmallJoins
import Derived.ChangeSame
import Derived.JoinedOf
import Derived.JoinedAt
import Derived.RowKit3
import Derived.ShutString
import Derived.OpenShut
import Derived.LaidMore
import Derived.Lay
import Derived.SevenTiedAt
import Derived.Stop.Joined
namespace Go.Proofs.YtheclmdpiijakaaGreatDoor
open Go.ChangeShapes Go.WideShapes Go.ChangeAt Go.RowKit Go.Joins
open Go.WideMaps Go.WideElems Tm
open Go.ChangeMaps (open_string shut_string)

set_option maxRecDepth 100000 in
set_option maxHeartbeats 16000000 in
theorem walkTurnRel {a0 : Option Addr} {len0 cap0 : Nat} {z0 : List Int} (w : World) (h0 : IsRow w a0 len0 cap0 z0) :
    Calls Tryz.prog 3 #[.slice a0 len0 cap0] w fun e w' => e = .returned (.bool true) ∧ Below w.heap.size w w' := by
  have D := Lib.hid (dComposeRel h0)
  clear h0
  by_cases hl : (1048576 : Int) < len0
  · go_enter Tryz.func3, Tryz.ntmps3
    go_wp2_with fail
    go_ret
    exact ⟨rfl, Below.refl _ _⟩
  · go_enter Tryz.func3, Tryz.ntmps3
    go_wp2_with fail
    refine D.out.mono ?_
    rintro e w1 ⟨s, t, s1, t1, rfl, hb⟩
    have HB1 := Lib.hid hb
    clear hb D
    by_cases hv : Rel729 s ∧ Rel729 t
    · obtain ⟨R, rfl⟩ : ∃ R, s = bs (relT R) := ⟨_, rel_bs hv.1⟩
      obtain ⟨Q, rfl⟩ : ∃ Q, t = bs (relT Q) := ⟨_, rel_bs hv.2⟩
      have P5 := ppThen_of (iComp (turnR Q) (turnR R))
      rw [← comp_turn] at P5
      have P6 := ppThen_of (iComp R idR)
      rw [comp_idr] at P6
      have P7 := ppThen_of (iComp idR R)
      rw [comp_idl] at P7
      have C4 := iCount (turnR R)
      rw [cntR_turn] at C4
      unfold Gives at P5 P6 P7 C4
      have C1 := iComp R Q
      unfold Gives at C1
      have C2 := sComp R Q
      unfold Gives at C2
      have P0 := ppRel_of iSame
      unfold Gives at P0
      have P1 := ppTurn_of (iTurn R)
      unfold Gives at P1
      have P2 := ppTurn_of (iTurn (turnR R))
      unfold Gives at P2
      have P3 := ppTurn_of (iTurn (compR R Q))
      unfold Gives at P3
      have P4 := ppTurn_of (iTurn Q)
      unfold Gives at P4
      have C3 := iCount R
      unfold Gives at C3
      have eT : bs (relT (turnR (turnR R))) = bs (relT R) := rfl
      rw [eT] at P2
      generalize ((cntR R 27 : Nat) : Int) = A at *
      generalize bs (relT (turnR (compR R Q))) = X5 at *
      generalize bs (relT (compR R Q)) = X4 at *
      generalize bs (relT (turnR R)) = X3 at *
      generalize bs (relT (turnR Q)) = X2 at *
      generalize bs (relT R) = X1 at *
      generalize bs (relT Q) = X0 at *
      generalize bs (relT idR) = X6 at *
      clear hv s1 t1 eT
      go_wp2_with fail
      refine (C1 _).out.mono ?_
      rintro e w2 ⟨rfl, hb⟩
      have HB2 := Lib.hid (bnext HB1.out hb)
      clear hb
      go_wp2_with fail
      refine (C2 _).out.mono ?_
      rintro e w3 ⟨rfl, hb⟩
      have HB3 := Lib.hid (bnext HB2.out hb)
      clear hb
      go_wp2_with fail
      refine (P0 _).out.mono ?_
      rintro e w4 ⟨rfl, hb⟩
      have HB4 := Lib.hid (bnext HB3.out hb)
      clear hb
      go_wp2_with fail
      refine (P1 _).out.mono ?_
      rintro e w5 ⟨rfl, hb⟩
      have HB5 := Lib.hid (bnext HB4.out hb)
      clear hb
      go_wp2_with fail
      refine (P2 _).out.mono ?_
      rintro e w6 ⟨rfl, hb⟩
      have HB6 := Lib.hid (bnext HB5.out hb)
      clear hb
      go_wp2_with fail
      refine (P3 _).out.mono ?_
      rintro e w7 ⟨rfl, hb⟩
      have HB7 := Lib.hid (bnext HB6.out hb)
      clear hb
      go_wp2_with fail
      refine (P4 _).out.mono ?_
      rintro e w8 ⟨rfl, hb⟩
      have HB8 := Lib.hid (bnext HB7.out hb)
      clear hb
      go_wp2_with fail
      refine (P1 _).out.mono ?_
      rintro e w9 ⟨rfl, hb⟩
      have HB9 := Lib.hid (bnext HB8.out hb)
      clear hb
      go_wp2_with fail
      refine (P5 _).out.mono ?_
      rintro e w10 ⟨rfl, hb⟩
      have HB10 := Lib.hid (bnext HB9.out hb)
      clear hb
      go_wp2_with fail
      refine (P6 _).out.mono ?_
      rintro e w11 ⟨rfl, hb⟩
      have HB11 := Lib.hid (bnext HB10.out hb)
      clear hb
      go_wp2_with fail
      refine (P7 _).out.mono ?_
      rintro e w12 ⟨rfl, hb⟩
      have HB12 := Lib.hid (bnext HB11.out hb)
      clear hb
      go_wp2_with fail
      refine (P1 _).out.mono ?_
      rintro e w13 ⟨rfl, hb⟩
      have HB13 := Lib.hid (bnext HB12.out hb)
      clear hb
      go_wp2_with fail
      refine (C4 _).out.mono ?_
      rintro e w14 ⟨rfl, hb⟩
      have HB14 := Lib.hid (bnext HB13.out hb)
      clear hb
      go_wp2_with fail
      refine (C3 _).out.mono ?_
      rintro e w15 ⟨rfl, hb⟩
      have HB15 := Lib.hid (bnext HB14.out hb)
      clear hb
      go_wp2_with fail
      go_ret
      exact ⟨rfl, HB15.out⟩
    · have C1 := fun w => Lib.hid (implComposeRel_no s t hv w)
      have C2 := fun w => Lib.hid (specComposeRel_no s t hv (Nat.le_trans s1 (by decide)) (Nat.le_trans t1 (by decide)) w)
      unfold TextOk at C1 C2
      clear hv s1 t1
      go_wp2_with fail
      refine (C1 _).out.mono ?_
      rintro e w2 ⟨rfl, hb⟩
      have HB2 := Lib.hid (bnext HB1.out hb)
      clear hb
      go_wp2_with fail
      refine (C2 _).out.mono ?_
      rintro e w3 ⟨rfl, hb⟩
      have HB3 := Lib.hid (bnext HB2.out hb)
      clear hb
      go_wp2_with fail
      go_ret
      exact ⟨rfl, HB3.out⟩

theorem Tryz.own : ownKnob Tryz.prog.godebug = none := by kernel_rfl
theorem laidOut : laidOutB Tryz.prog = true := by kernel_rfl

set_option linter.unusedVariables false in
set_option maxRecDepth 100000 in
set_option maxHeartbeats 2000000 in
theorem lifted (os : Os) (started : os.Started) (H : Type) (enc : TypeId × Value → H) :
    ReturnsInHanded {} Tryz.checked os 3 .any (fun w args => (Rows.fnTurnRelSpec.pre enc Tryz.prog Tryz.f3 Rows.fnTurnRelRow.domain false w args ∧ laidMetH Tryz.prog Rows.fnTurnRelRow.laid w) ∧ sizedMet enc Tryz.prog Tryz.f3 (OpenSpec.ofChange Rows.fnTurnRelSpec) false w args)
      (Rows.fnTurnRelSpec.post enc Tryz.prog Tryz.f3 false true false false) := by
  refine returnsInHanded_of_change_and (C := Tryz.checked) (X := fun w _ => laidMetH Tryz.prog Rows.fnTurnRelRow.laid w) (fun _ _ _ hh h => h.of_heap hh) Tryz.own started (by kernel_rfl) Tryz.func3
    (ChangeSpec.witness_shaped (enc := enc) (C := Tryz.checked) (os := os) (X := fun w _ => laidMetH Tryz.prog Rows.fnTurnRelRow.laid w) false (World.laidAll Tryz.prog os Rows.fnTurnRelRow.laid) #[.slice none 0 0] 8 (World.laidAll_os _ _ _)
      (World.shaped_of_ZipB (by kernel_rfl) (by kernel_rfl)) (by kernel_rfl) (by kernel_rfl) (by kernel_rfl)
      (by rw [MakeChecks.laidMetH_plain _ _ _ (by kernel_rfl)]; exact laidMet_laidAll _ (by kernel_rfl) (by kernel_rfl))) ?_
  intro W base args ds gs before hval0 hW _ _ hL _
  have hval : ∀ (j : Nat) t v, Tryz.f3.params[j]? = some t → args[j]? = some v → Value.okWide Tryz.prog W .any base t v := hval0
  have hW' := hW
  obtain ⟨p, q, hA0, hV, rfl, _, _⟩ := hW
  have hA : DataW.TrodAll enc Tryz.prog W 0 (fun _ => true) true Tryz.f3.params.toList args.toList ds p := hA0
  rw [Tryz.params3] at hA hval
  obtain ⟨v0, vs0, d0, ds0, p0, q0, hargs, rfl, rfl, h0, r0⟩ := trodAll_cons hA
  obtain ⟨rfl, rfl, rfl⟩ := trodAll_nil r0
  obtain rfl : args = #[v0] := by cases args; simp_all
  obtain ⟨rfl, rfl⟩ := trodVars_none hV
  obtain ⟨a0, len0, cap0, rfl⟩ := okWide_slice Tryz.underlying22 (hval 0 22 v0 rfl rfl)
  have k0 := h0
  have lt0 : ∀ x ∈ p0, x.block < W.heap.size := by obtain ⟨m, hm⟩ := k0; exact DataW.trod_lt m _ _ _ hm
  obtain ⟨z0, w0⟩ : ∃ zs, IsRow W a0 len0 cap0 zs := by
    obtain ⟨fuel, hf⟩ := h0
    rcases open_ints Tryz.underlying22 Tryz.underlying5 (by kernel_rfl) hf with ⟨hcs, _⟩ | ⟨x, l, c, zs, hcs, _, hl, hm, hz, _, hcell, hwz⟩
    · simp [Value.cells] at hcs
      obtain ⟨rfl, rfl, rfl⟩ := hcs
      exact ⟨[], .inl ⟨rfl, rfl, rfl, rfl⟩⟩
    · simp [Value.cells] at hcs
      obtain ⟨rfl, rfl, rfl⟩ := hcs
      exact ⟨zs, .inr ⟨_, rfl, hl, hm, by simpa using hz, hcell, hwz⟩⟩
  clear hA0 hval0
  refine (walkTurnRel W w0).mono fun e W' ⟨he, bel⟩ => ?_
  subst he
  exact ⟨_, rfl, _, _, _, [], _, [], hW', trodAll_mk1 (shut_bool Tryz.underlying4 _), (trodAll_cons_mk (Below.trod laidOut (by kernel_rfl) (of_decide_eq_true (by kernel_rfl)) k0 bel lt0) trodAll_mk0), rfl, bel.frame _, fun h => by cases h⟩

-- each of the three walks over the program by itself: together they are too much for the kernel's memory
theorem jf1 : (Rows.fnTurnRelRow.inPlace == Tryz.prog.inPlace 3) = true := by kernel_rfl
theorem jf2 : (Rows.fnTurnRelRow.unfollowed == Tryz.prog.unfollowed 3) = true := by kernel_rfl
theorem jf3 : (Rows.fnTurnRelRow.recurses == Tryz.prog.recurses 3) = true := by kernel_rfl
theorem closed : joinedFacts Tryz.prog 3 Tryz.f3 Rows.fnTurnRelSpec Rows.fnTurnRelRow = true := by
  unfold joinedFacts
  rw [jf1, jf2, jf3]
  kernel_rfl

theorem said : Rows.FnTurnRelSaid :=
  OpenClaim.holds_of_wide 3 Tryz.f3 rfl rfl rfl rfl rfl rfl rfl ⟨rfl, rfl, rfl, rfl, rfl⟩ rfl rfl rfl rfl rfl (by kernel_rfl) Tryz.func3 closed
    (of_decide_eq_true (by kernel_rfl)) (by unfold Func.isWrapper; first | (rw [if_pos (by decide +kernel)]; kernel_rfl) | (rw [if_neg (by decide +kernel)]; exact ⟨rfl, rfl⟩))
    (fun os started H enc _ => by rw [OpenClaim.pre_eq_preRow]; exact lifted os started H enc)

theorem plain (f : FuncId) (fn : Func) (hf : Tryz.pinned.checked.prog.funcNamed Rows.fnTurnRelRow.func = some f) (hfn : Tryz.pinned.checked.prog.funcs[f]? = some fn) :
    true = Tryz.pinned.checked.prog.looks [] ∧ ∀ (j : Nat) t, fn.params[j]? = some t → Tryz.pinned.checked.prog.wantsStandIn t = false := by
  obtain rfl : f = 3 := Option.some.inj ((show Tryz.prog.funcNamed Rows.fnTurnRelRow.func = some 3 by kernel_rfl).symm.trans hf) |>.symm
  obtain rfl : fn = Tryz.f3 := (Option.some.inj (Tryz.func3.symm.trans hfn)).symm
  refine ⟨by kernel_rfl, fun j t ht => ?_⟩
  rw [Tryz.params3] at ht
  obtain rfl : t = 22 := by
    have := Array.mem_of_getElem? ht
    simpa using this
  exact (show Tryz.prog.wantsStandIn 22 = false by kernel_rfl)

theorem turnRel_card : Rows.FnTurnRelCardSaid :=
  Claim7.holds_tied_plain_at .later [] _ _ _ _ said (fun _ h => by cases h) (by kernel_rfl) (fun _ h => by cases h) fnTurnRel_row_tie rfl ⟨rfl, rfl⟩ (by kernel_rfl) rfl plain (by kernel_rfl)

#print axioms turnRel_card
end Go.Proofs.YtheclmdpiijakaaGreatDoor
