/-
  The law of closures is true at all bytes: no condition. The card.
-/
import Derived.Test.YtheclmdpiijakaaGreatDoorCards
import Derived.Test.YtheclmdpiijakaaGreatDoorTie
import Derived.Test.YtheclmdpiijakaaGreatDoorR10
import Derived.Deep.RegionHeld3
import Derived.ProofKit
import Derived.ChangeOld
import Derived.Deep.DeepHandedRow
import Derived.Lib.SmallJoins
import Derived.ChangeSame
import Derived.JoinedOf
import Derived.JoinedAt
import Derived.RowKit3
import Derived.ShutString
import Derived.OpenShut
import Derived.LaidMore
import Derived.Lay
import Derived.SevenTiedAt
import Derived.Stop.Joined
namespace Go.Proofs.YtheclmdpiijakaaGreatDoor
open Go.ChangeShapes Go.WideShapes Go.ChangeAt Go.RowKit Go.Joins
open Go.WideMaps Go.WideElems Tm
open Go.ChangeMaps (open_string shut_string)

set_option maxRecDepth 100000 in
set_option maxHeartbeats 16000000 in
theorem walkCloseRel {a0 : Option Addr} {len0 cap0 : Nat} {z0 : List Int} (w : World) (h0 : IsRow w a0 len0 cap0 z0) :
    Calls Tryz.prog 4 #[.slice a0 len0 cap0] w fun e w' => e = .returned (.bool true) ∧ Below w.heap.size w w' := by
  have D := Lib.hid (dCloseRel h0)
  clear h0
  by_cases hl : (1048576 : Int) < len0
  · go_enter Tryz.func4, Tryz.ntmps4
    go_wp2_with fail
    go_ret
    exact ⟨rfl, Below.refl _ _⟩
  · go_enter Tryz.func4, Tryz.ntmps4
    go_wp2_with fail
    refine D.out.mono ?_
    rintro e w1 ⟨t, ht, rfl, hb⟩
    have HB1 := Lib.hid hb
    clear hb D
    by_cases hv : Rel729 t
    · obtain ⟨R, rfl⟩ : ∃ R, t = bs (relT R) := ⟨_, rel_bs hv⟩
      have PS := fun k => ppThen_of (iComp (stp R k) R)
      have PO := fun k => ppOrRel_of (iOr idR (compR (stp R k) R))
      have W1 := iWithin R (cloR R)
      rw [in_clo] at W1
      have W2 := iWithin idR (cloR R)
      rw [id_clo] at W2
      have P3 := ppThen_of (iComp (cloR R) (cloR R))
      rw [clo_comp] at P3
      have C3 := iClose (cloR R)
      rw [clo_clo] at C3
      unfold Gives at PS PO W1 W2 P3 C3
      have C1 := iClose R
      unfold Gives at C1
      have C2 := sClose R
      unfold Gives at C2
      have V1 := iValid R
      unfold Gives at V1
      have P0 := ppRel_of iSame
      unfold Gives at P0
      have E27 := stp_clo R
      have E0 : bs (relT (stp R 0)) = bs (relT idR) := rfl
      have ES : ∀ k, bs (relT (fun i j => idR i j || compR (stp R k) R i j)) = bs (relT (stp R (k + 1))) := fun k => rfl
      simp only [ES] at PO
      obtain ⟨st, hst⟩ : ∃ st : Nat → ByteArray, st = fun k => bs (relT (stp R k)) := ⟨_, rfl⟩
      obtain ⟨sc, hsc⟩ : ∃ sc : Nat → ByteArray, sc = fun k => bs (relT (compR (stp R k) R)) := ⟨_, rfl⟩
      have f1 : ∀ k, bs (relT (stp R k)) = st k := fun k => by rw [hst]
      have f2 : ∀ k, bs (relT (compR (stp R k) R)) = sc k := fun k => by rw [hsc]
      simp only [f1, f2] at PS PO E27 E0
      clear f1 f2 hst hsc ES
      generalize bs (relT (cloR R)) = X1 at *
      generalize bs (relT R) = X0 at *
      generalize bs (relT idR) = X6 at *
      have E0' := Lib.hid E0
      have E27' := Lib.hid E27
      have PS'' := PS
      have PO'' := PO
      clear hv ht E0 E27 PS PO
      go_wp2_with fail
      refine (C1 _).out.mono ?_
      rintro e w2 ⟨rfl, hb⟩
      have HB2 := Lib.hid (bnext HB1.out hb)
      clear hb
      go_wp2_with fail
      refine (C2 _).out.mono ?_
      rintro e w3 ⟨rfl, hb⟩
      have HB3 := Lib.hid (bnext HB2.out hb)
      clear hb
      go_wp2_with fail
      refine (V1 _).out.mono ?_
      rintro e w4 ⟨rfl, hb⟩
      have HB4 := Lib.hid (bnext HB3.out hb)
      clear hb
      go_wp2_with fail
      refine (P0 _).out.mono ?_
      rintro e w5 ⟨rfl, hb⟩
      have HB5 := Lib.hid (bnext HB4.out hb)
      clear hb
      go_wp2_with fail
      go_loopw [9, 10] (fun sv n wr => ∃ k : Nat, k ≤ 27 ∧ n = .int .i64 k ∧ sv = .string (st k) ∧ Hid (Below w.heap.size w wr)) (fun _ n _ => 27 - (intOf n).toNat)
      case atStart => exact ⟨0, by omega, rfl, by rw [E0'.out], HB5⟩
      case round =>
        obtain ⟨k, hk, rfl, rfl, HBr⟩ := hrel
        by_cases hlt : k < 27
        · have A1 := PS'' k
          have A2 := PO'' k
          have hlt2 : (k : Int) < 27 := by omega
          clear PS'' PO'' C1 C2 V1 P0 W1 W2 P3 C3
          go_wp2_with fail
          refine (A1 _).out.mono ?_
          rintro e w2 ⟨rfl, hb⟩
          have HX := Lib.hid (bnext HBr.out hb)
          clear hb
          go_wp2_with fail
          refine (A2 _).out.mono ?_
          rintro e w3 ⟨rfl, hb⟩
          have HY := Lib.hid (bnext HX.out hb)
          clear hb HX
          go_wp2_with fail
          exact ⟨⟨k + 1, by omega, by go_num, rfl, HY⟩, by simp [intOf]; omega⟩
        · have hk2 : k = 27 := by omega
          subst hk2
          rw [E27'.out] at *
          have HB0 := HBr
          clear PS'' PO''
          go_wp2_with fail
          refine (C3 _).out.mono ?_
          rintro e w1 ⟨rfl, hb⟩
          have HB1 := Lib.hid (bnext HB0.out hb)
          clear hb
          go_wp2_with fail
          refine (W1 _).out.mono ?_
          rintro e w2 ⟨rfl, hb⟩
          have HB2 := Lib.hid (bnext HB1.out hb)
          clear hb
          go_wp2_with fail
          refine (W2 _).out.mono ?_
          rintro e w3 ⟨rfl, hb⟩
          have HB3 := Lib.hid (bnext HB2.out hb)
          clear hb
          go_wp2_with fail
          refine (P3 _).out.mono ?_
          rintro e w4 ⟨rfl, hb⟩
          have HB4 := Lib.hid (bnext HB3.out hb)
          clear hb
          go_wp2_with fail
          go_ret
          exact ⟨rfl, HB4.out⟩
    · have C1 := fun w => Lib.hid (implCloseRel_no t hv w)
      have C2 := fun w => Lib.hid (specCloseRel_no t hv (Nat.le_trans ht (by decide)) w)
      have V1 := fun w => Lib.hid (implRelValid_no t hv w)
      unfold TextOk at C1 C2
      unfold BoolIs at V1
      clear hv ht
      go_wp2_with fail
      refine (C1 _).out.mono ?_
      rintro e w2 ⟨rfl, hb⟩
      have HB2 := Lib.hid (bnext HB1.out hb)
      clear hb
      go_wp2_with fail
      refine (C2 _).out.mono ?_
      rintro e w3 ⟨rfl, hb⟩
      have HB3 := Lib.hid (bnext HB2.out hb)
      clear hb
      go_wp2_with fail
      refine (V1 _).out.mono ?_
      rintro e w4 ⟨rfl, hb⟩
      have HB4 := Lib.hid (bnext HB3.out hb)
      clear hb
      go_wp2_with fail
      refine (V1 _).out.mono ?_
      rintro e w5 ⟨rfl, hb⟩
      have HB5 := Lib.hid (bnext HB4.out hb)
      clear hb
      go_wp2_with fail
      go_ret
      exact ⟨rfl, HB5.out⟩

theorem Tryz.own : ownKnob Tryz.prog.godebug = none := by kernel_rfl
theorem laidOut : laidOutB Tryz.prog = true := by kernel_rfl

set_option linter.unusedVariables false in
set_option maxRecDepth 100000 in
set_option maxHeartbeats 2000000 in
theorem lifted (os : Os) (started : os.Started) (H : Type) (enc : TypeId × Value → H) :
    ReturnsInHanded {} Tryz.checked os 4 .any (fun w args => (Rows.fnCloseRelSpec.pre enc Tryz.prog Tryz.f4 Rows.fnCloseRelRow.domain false w args ∧ laidMetH Tryz.prog Rows.fnCloseRelRow.laid w) ∧ sizedMet enc Tryz.prog Tryz.f4 (OpenSpec.ofChange Rows.fnCloseRelSpec) false w args)
      (Rows.fnCloseRelSpec.post enc Tryz.prog Tryz.f4 false true false false) := by
  refine returnsInHanded_of_change_and (C := Tryz.checked) (X := fun w _ => laidMetH Tryz.prog Rows.fnCloseRelRow.laid w) (fun _ _ _ hh h => h.of_heap hh) Tryz.own started (by kernel_rfl) Tryz.func4
    (ChangeSpec.witness_shaped (enc := enc) (C := Tryz.checked) (os := os) (X := fun w _ => laidMetH Tryz.prog Rows.fnCloseRelRow.laid w) false (World.laidAll Tryz.prog os Rows.fnCloseRelRow.laid) #[.slice none 0 0] 8 (World.laidAll_os _ _ _)
      (World.shaped_of_ZipB (by kernel_rfl) (by kernel_rfl)) (by kernel_rfl) (by kernel_rfl) (by kernel_rfl)
      (by rw [MakeChecks.laidMetH_plain _ _ _ (by kernel_rfl)]; exact laidMet_laidAll _ (by kernel_rfl) (by kernel_rfl))) ?_
  intro W base args ds gs before hval0 hW _ _ hL _
  have hval : ∀ (j : Nat) t v, Tryz.f4.params[j]? = some t → args[j]? = some v → Value.okWide Tryz.prog W .any base t v := hval0
  have hW' := hW
  obtain ⟨p, q, hA0, hV, rfl, _, _⟩ := hW
  have hA : DataW.TrodAll enc Tryz.prog W 0 (fun _ => true) true Tryz.f4.params.toList args.toList ds p := hA0
  rw [Tryz.params4] at hA hval
  obtain ⟨v0, vs0, d0, ds0, p0, q0, hargs, rfl, rfl, h0, r0⟩ := trodAll_cons hA
  obtain ⟨rfl, rfl, rfl⟩ := trodAll_nil r0
  obtain rfl : args = #[v0] := by cases args; simp_all
  obtain ⟨rfl, rfl⟩ := trodVars_none hV
  obtain ⟨a0, len0, cap0, rfl⟩ := okWide_slice Tryz.underlying22 (hval 0 22 v0 rfl rfl)
  have k0 := h0
  have lt0 : ∀ x ∈ p0, x.block < W.heap.size := by obtain ⟨m, hm⟩ := k0; exact DataW.trod_lt m _ _ _ hm
  obtain ⟨z0, w0⟩ : ∃ zs, IsRow W a0 len0 cap0 zs := by
    obtain ⟨fuel, hf⟩ := h0
    rcases open_ints Tryz.underlying22 Tryz.underlying5 (by kernel_rfl) hf with ⟨hcs, _⟩ | ⟨x, l, c, zs, hcs, _, hl, hm, hz, _, hcell, hwz⟩
    · simp [Value.cells] at hcs
      obtain ⟨rfl, rfl, rfl⟩ := hcs
      exact ⟨[], .inl ⟨rfl, rfl, rfl, rfl⟩⟩
    · simp [Value.cells] at hcs
      obtain ⟨rfl, rfl, rfl⟩ := hcs
      exact ⟨zs, .inr ⟨_, rfl, hl, hm, by simpa using hz, hcell, hwz⟩⟩
  clear hA0 hval0
  refine (walkCloseRel W w0).mono fun e W' ⟨he, bel⟩ => ?_
  subst he
  exact ⟨_, rfl, _, _, _, [], _, [], hW', trodAll_mk1 (shut_bool Tryz.underlying4 _), (trodAll_cons_mk (Below.trod laidOut (by kernel_rfl) (of_decide_eq_true (by kernel_rfl)) k0 bel lt0) trodAll_mk0), rfl, bel.frame _, fun h => by cases h⟩

-- each of the three walks over the program by itself: together they are too much for the kernel's memory
theorem jf1 : (Rows.fnCloseRelRow.inPlace == Tryz.prog.inPlace 4) = true := by kernel_rfl
theorem jf2 : (Rows.fnCloseRelRow.unfollowed == Tryz.prog.unfollowed 4) = true := by kernel_rfl
theorem jf3 : (Rows.fnCloseRelRow.recurses == Tryz.prog.recurses 4) = true := by kernel_rfl
theorem closed : joinedFacts Tryz.prog 4 Tryz.f4 Rows.fnCloseRelSpec Rows.fnCloseRelRow = true := by
  unfold joinedFacts
  rw [jf1, jf2, jf3]
  kernel_rfl

theorem said : Rows.FnCloseRelSaid :=
  OpenClaim.holds_of_wide 4 Tryz.f4 rfl rfl rfl rfl rfl rfl rfl ⟨rfl, rfl, rfl, rfl, rfl⟩ rfl rfl rfl rfl rfl (by kernel_rfl) Tryz.func4 closed
    (of_decide_eq_true (by kernel_rfl)) (by unfold Func.isWrapper; first | (rw [if_pos (by decide +kernel)]; kernel_rfl) | (rw [if_neg (by decide +kernel)]; exact ⟨rfl, rfl⟩))
    (fun os started H enc _ => by rw [OpenClaim.pre_eq_preRow]; exact lifted os started H enc)

theorem plain (f : FuncId) (fn : Func) (hf : Tryz.pinned.checked.prog.funcNamed Rows.fnCloseRelRow.func = some f) (hfn : Tryz.pinned.checked.prog.funcs[f]? = some fn) :
    true = Tryz.pinned.checked.prog.looks [] ∧ ∀ (j : Nat) t, fn.params[j]? = some t → Tryz.pinned.checked.prog.wantsStandIn t = false := by
  obtain rfl : f = 4 := Option.some.inj ((show Tryz.prog.funcNamed Rows.fnCloseRelRow.func = some 4 by kernel_rfl).symm.trans hf) |>.symm
  obtain rfl : fn = Tryz.f4 := (Option.some.inj (Tryz.func4.symm.trans hfn)).symm
  refine ⟨by kernel_rfl, fun j t ht => ?_⟩
  rw [Tryz.params4] at ht
  obtain rfl : t = 22 := by
    have := Array.mem_of_getElem? ht
    simpa using this
  exact (show Tryz.prog.wantsStandIn 22 = false by kernel_rfl)

theorem closeRel_card : Rows.FnCloseRelCardSaid :=
  Claim7.holds_tied_plain_at .later [] _ _ _ _ said (fun _ h => by cases h) (by kernel_rfl) (fun _ h => by cases h) fnCloseRel_row_tie rfl ⟨rfl, rfl⟩ (by kernel_rfl) rfl plain (by kernel_rfl)

#print axioms closeRel_card
end Go.Proofs.YtheclmdpiijakaaGreatDoor
