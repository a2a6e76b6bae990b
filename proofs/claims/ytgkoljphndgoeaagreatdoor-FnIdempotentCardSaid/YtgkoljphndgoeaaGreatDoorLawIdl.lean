import Derived.Test.YtgkoljphndgoeaaGreatDoorCards
import Derived.Test.YtgkoljphndgoeaaGreatDoorTie
import Derived.Test.YtgkoljphndgoeaaGreatDoorIdf
import Derived.Test.YtgkoljphndgoeaaGreatDoorTopD
import Derived.Test.YtgkoljphndgoeaaGreatDoorTopG2
import Derived.Deep.RegionHeld3
import Derived.ProofKit
import Derived.ChangeOld
import Derived.Deep.DeepHandedRow
import Derived.Lib.SmallJoins
import Derived.ChangeSame
import Derived.JoinedOf
import Derived.JoinedAt
import Derived.RowKit3
import Derived.ShutString
import Derived.OpenShut
import Derived.LaidMore
import Derived.Lay
import Derived.SevenTiedAt
import Derived.Stop.Joined
namespace Go.Proofs.YtgkoljphndgoeaaGreatDoor
open Go.ChangeShapes Go.WideShapes Go.ChangeAt Go.RowKit Go.Joins
open Go.WideMaps Go.WideElems Tm
open Go.ChangeMaps (open_string shut_string)
open Go.Great
theorem id_facts (s : ByteArray) (h : PV s) : ∃ (b c : Bool) (y r x : ByteArray),
  Gives 25 #[.string s] (.bool b) ∧ Gives 26 #[.string s] (.bool b) ∧ Gives 27 #[.string s] (.bool true) ∧ Gives 28 #[.string s, .string s] (.tuple #[.string y, .bool c]) ∧
  Gives 29 #[.string s] (.string r) ∧ (c = true → Gives 30 #[.string y, .string s] (.bool b)) ∧ Gives 20 #[.string r, .string r] (.string x) ∧ (b = true → x = r) ∧ Gives 25 #[.string ⟨#[115]⟩] (.bool true) := by
 obtain ⟨⟨p, hp, hs⟩, hl⟩ := h
 obtain ⟨y, c, hy, cy⟩ := jp_self s hp hs hl
 have hs' := bs_ofP hs
 have lp : p.ser.length ≤ 200 := by rw [hs', bs_size] at hl; exact hl
 refine ⟨allO eqO (thO (oc p) (oc p)) (oc p), c, y, bs (relT (rT p)), _, fun w => Lib.hid (implIdem_yes s w hp hs hl), fun w => Lib.hid (by rw [hs']; exact specIdem_yes p w hp lp), fun w => Lib.hid (implPV_yes s w hp hs hl), fun w => Lib.hid (cy w), by rw [hs']; exact ppProg_t p hp lp, fun hc w => ?_, ppThen_of (iComp _ _), fun hb => rb_congr (idem_comp hb), fun w => ?_⟩
 ·obtain ⟨rfl, h200⟩ := hy hc
  have k := implSame_yes ((⟨#[59]⟩ : ByteArray) ++ s ++ s) s w (p := .seq p p) (q := p) ⟨hp, hp⟩ (by simp [ByteArray.data_append, hs, Pg.ser]) (by rw [ByteArray.size_append, ByteArray.size_append]; exact h200) hp hs hl
  rw [idem_seq hp] at k
  exact Lib.hid k
 ·have k := implIdem_yes ⟨#[115]⟩ w (p := .skip) trivial rfl (by decide)
  rw [idem_skip] at k
  exact Lib.hid k
set_option maxHeartbeats 4000000 in
theorem drawIdem {a : Option Addr} {len cap : Nat} {zs : List Int} {w : World} (h : IsRow w a len cap zs) :
  Calls Tryz.prog 24 #[.slice a len cap] w fun e w' => ∃ s : ByteArray, s.size ≤ 153 ∧ e = .returned (.string s) ∧ Below w.heap.size w w' := by
 have HO := Lib.hid (open_any h)
 clear h
 go_enter Tryz.func24, Tryz.ntmps24
 go_wp2_with fail
 refine HO.out.mono ?_
 rintro e w1 ⟨rfl, hr, hb⟩
 have HW1 := Lib.hid hb
 have HC := Lib.hid (open3 hr (by omega))
 clear hr hb
 go_wp2_with fail
 refine HC.out.mono ?_
 rintro e w2 ⟨s, q, s1, s2, hq, rfl, hr, hk⟩
 have HW2 := Lib.hid (HW1.out.trans (hk.below (Nat.le_refl _) HW1.out.size))
 clear hr hk
 go_wp2_with fail
 go_ret
 exact ⟨s, s2, rfl, HW2.out⟩
set_option maxRecDepth 100000 in
set_option maxHeartbeats 16000000 in
theorem walkIdempotent {a0 : Option Addr} {len0 cap0 : Nat} {z0 : List Int} (w : World) (h0 : IsRow w a0 len0 cap0 z0) :
  Calls Tryz.prog 5 #[.slice a0 len0 cap0] w fun e w' => e = .returned (.bool true) ∧ Below w.heap.size w w' := by
 have DD := Lib.hid (drawIdem h0)
 clear h0
 by_cases hl : (1048576 : Int) < len0
 ·go_enter Tryz.func5, Tryz.ntmps5
  go_wp2_with fail
  go_ret
  exact ⟨rfl, Below.refl _ _⟩
 go_enter Tryz.func5, Tryz.ntmps5
 go_wp2_with fail
 refine DD.out.mono ?_
 rintro e w1 ⟨s, ls, rfl, hb⟩
 have HB := Lib.hid hb
 clear hb DD
 by_cases h : PV s
 ·obtain ⟨b, c, y, r, x, c1, c2, c3, c4, c5, c6, c7, hx, c8⟩ := id_facts s h
  clear h
  unfold Gives at c1 c2 c3 c4 c5 c6 c7 c8
  cases b with
  | false =>
   clear hx
   cases c with
   | false =>
    clear c6
    go_wp2_with fail
    refine (c1 _).out.mono ?_
    rintro e w2 ⟨rfl, hb⟩
    replace HB := Lib.hid (bnext HB.out hb)
    clear hb
    go_wp2_with fail
    refine (c2 _).out.mono ?_
    rintro e w2 ⟨rfl, hb⟩
    replace HB := Lib.hid (bnext HB.out hb)
    clear hb
    go_wp2_with fail
    refine (c3 _).out.mono ?_
    rintro e w2 ⟨rfl, hb⟩
    replace HB := Lib.hid (bnext HB.out hb)
    clear hb
    go_wp2_with fail
    refine (c4 _).out.mono ?_
    rintro e w2 ⟨rfl, hb⟩
    replace HB := Lib.hid (bnext HB.out hb)
    clear hb
    go_wp2_with fail
    refine (c5 _).out.mono ?_
    rintro e w2 ⟨rfl, hb⟩
    replace HB := Lib.hid (bnext HB.out hb)
    clear hb
    go_wp2_with fail
    refine (c8 _).out.mono ?_
    rintro e w2 ⟨rfl, hb⟩
    replace HB := Lib.hid (bnext HB.out hb)
    clear hb
    go_wp2_with fail
    go_ret
    exact ⟨rfl, HB.out⟩
   | true =>
    replace c6 := c6 rfl
    go_wp2_with fail
    refine (c1 _).out.mono ?_
    rintro e w2 ⟨rfl, hb⟩
    replace HB := Lib.hid (bnext HB.out hb)
    clear hb
    go_wp2_with fail
    refine (c2 _).out.mono ?_
    rintro e w2 ⟨rfl, hb⟩
    replace HB := Lib.hid (bnext HB.out hb)
    clear hb
    go_wp2_with fail
    refine (c3 _).out.mono ?_
    rintro e w2 ⟨rfl, hb⟩
    replace HB := Lib.hid (bnext HB.out hb)
    clear hb
    go_wp2_with fail
    refine (c4 _).out.mono ?_
    rintro e w2 ⟨rfl, hb⟩
    replace HB := Lib.hid (bnext HB.out hb)
    clear hb
    go_wp2_with fail
    refine (c5 _).out.mono ?_
    rintro e w2 ⟨rfl, hb⟩
    replace HB := Lib.hid (bnext HB.out hb)
    clear hb
    go_wp2_with fail
    refine (c6 _).out.mono ?_
    rintro e w2 ⟨rfl, hb⟩
    replace HB := Lib.hid (bnext HB.out hb)
    clear hb
    go_wp2_with fail
    refine (c8 _).out.mono ?_
    rintro e w2 ⟨rfl, hb⟩
    replace HB := Lib.hid (bnext HB.out hb)
    clear hb
    go_wp2_with fail
    go_ret
    exact ⟨rfl, HB.out⟩
  | true =>
   obtain rfl := hx rfl
   clear hx
   cases c with
   | false =>
    clear c6
    go_wp2_with fail
    refine (c1 _).out.mono ?_
    rintro e w2 ⟨rfl, hb⟩
    replace HB := Lib.hid (bnext HB.out hb)
    clear hb
    go_wp2_with fail
    refine (c2 _).out.mono ?_
    rintro e w2 ⟨rfl, hb⟩
    replace HB := Lib.hid (bnext HB.out hb)
    clear hb
    go_wp2_with fail
    refine (c3 _).out.mono ?_
    rintro e w2 ⟨rfl, hb⟩
    replace HB := Lib.hid (bnext HB.out hb)
    clear hb
    go_wp2_with fail
    refine (c4 _).out.mono ?_
    rintro e w2 ⟨rfl, hb⟩
    replace HB := Lib.hid (bnext HB.out hb)
    clear hb
    go_wp2_with fail
    refine (c5 _).out.mono ?_
    rintro e w2 ⟨rfl, hb⟩
    replace HB := Lib.hid (bnext HB.out hb)
    clear hb
    go_wp2_with fail
    refine (c7 _).out.mono ?_
    rintro e w2 ⟨rfl, hb⟩
    replace HB := Lib.hid (bnext HB.out hb)
    clear hb
    go_wp2_with fail
    refine (c8 _).out.mono ?_
    rintro e w2 ⟨rfl, hb⟩
    replace HB := Lib.hid (bnext HB.out hb)
    clear hb
    go_wp2_with fail
    go_ret
    exact ⟨rfl, HB.out⟩
   | true =>
    replace c6 := c6 rfl
    go_wp2_with fail
    refine (c1 _).out.mono ?_
    rintro e w2 ⟨rfl, hb⟩
    replace HB := Lib.hid (bnext HB.out hb)
    clear hb
    go_wp2_with fail
    refine (c2 _).out.mono ?_
    rintro e w2 ⟨rfl, hb⟩
    replace HB := Lib.hid (bnext HB.out hb)
    clear hb
    go_wp2_with fail
    refine (c3 _).out.mono ?_
    rintro e w2 ⟨rfl, hb⟩
    replace HB := Lib.hid (bnext HB.out hb)
    clear hb
    go_wp2_with fail
    refine (c4 _).out.mono ?_
    rintro e w2 ⟨rfl, hb⟩
    replace HB := Lib.hid (bnext HB.out hb)
    clear hb
    go_wp2_with fail
    refine (c5 _).out.mono ?_
    rintro e w2 ⟨rfl, hb⟩
    replace HB := Lib.hid (bnext HB.out hb)
    clear hb
    go_wp2_with fail
    refine (c6 _).out.mono ?_
    rintro e w2 ⟨rfl, hb⟩
    replace HB := Lib.hid (bnext HB.out hb)
    clear hb
    go_wp2_with fail
    refine (c7 _).out.mono ?_
    rintro e w2 ⟨rfl, hb⟩
    replace HB := Lib.hid (bnext HB.out hb)
    clear hb
    go_wp2_with fail
    refine (c8 _).out.mono ?_
    rintro e w2 ⟨rfl, hb⟩
    replace HB := Lib.hid (bnext HB.out hb)
    clear hb
    go_wp2_with fail
    go_ret
    exact ⟨rfl, HB.out⟩
 ·have c1 := fun w => Lib.hid (implIdem_no s w h)
  have c2 := fun w => Lib.hid (specIdem_no s w h)
  have c3 := fun w => Lib.hid (implPV_no s w h)
  clear h
  go_wp2_with fail
  refine (c1 _).out.mono ?_
  rintro e w2 ⟨rfl, hb⟩
  replace HB := Lib.hid (bnext HB.out hb)
  clear hb
  go_wp2_with fail
  refine (c2 _).out.mono ?_
  rintro e w2 ⟨rfl, hb⟩
  replace HB := Lib.hid (bnext HB.out hb)
  clear hb
  go_wp2_with fail
  refine (c3 _).out.mono ?_
  rintro e w2 ⟨rfl, hb⟩
  replace HB := Lib.hid (bnext HB.out hb)
  clear hb
  go_wp2_with fail
  refine (c2 _).out.mono ?_
  rintro e w2 ⟨rfl, hb⟩
  replace HB := Lib.hid (bnext HB.out hb)
  clear hb
  go_wp2_with fail
  go_ret
  exact ⟨rfl, HB.out⟩
theorem Tryz.own : ownKnob Tryz.prog.godebug = none := by kernel_rfl
theorem laidOut : laidOutB Tryz.prog = true := by kernel_rfl
set_option linter.unusedVariables false in
set_option maxRecDepth 100000 in
set_option maxHeartbeats 2000000 in
theorem lifted (os : Os) (started : os.Started) (H : Type) (enc : TypeId × Value → H) :
  ReturnsInHanded {} Tryz.checked os 5 .any (fun w args => (Rows.fnIdempotentSpec.pre enc Tryz.prog Tryz.f5 Rows.fnIdempotentRow.domain false w args ∧ laidMetH Tryz.prog Rows.fnIdempotentRow.laid w) ∧ sizedMet enc Tryz.prog Tryz.f5 (OpenSpec.ofChange Rows.fnIdempotentSpec) false w args)
   (Rows.fnIdempotentSpec.post enc Tryz.prog Tryz.f5 false true false false) := by
 refine returnsInHanded_of_change_and (C := Tryz.checked) (X := fun w _ => laidMetH Tryz.prog Rows.fnIdempotentRow.laid w) (fun _ _ _ hh h => h.of_heap hh) Tryz.own started (by kernel_rfl) Tryz.func5
  (ChangeSpec.witness_shaped (enc := enc) (C := Tryz.checked) (os := os) (X := fun w _ => laidMetH Tryz.prog Rows.fnIdempotentRow.laid w) false (World.laidAll Tryz.prog os Rows.fnIdempotentRow.laid) #[.slice none 0 0] 8 (World.laidAll_os _ _ _)
   (World.shaped_of_ZipB (by kernel_rfl) (by kernel_rfl)) (by kernel_rfl) (by kernel_rfl) (by kernel_rfl)
   (by rw [MakeChecks.laidMetH_plain _ _ _ (by kernel_rfl)]; exact laidMet_laidAll _ (by kernel_rfl) (by kernel_rfl))) ?_
 intro W base args ds gs before hval0 hW _ _ hL _
 have hval : ∀ (j : Nat) t v, Tryz.f5.params[j]? = some t → args[j]? = some v → Value.okWide Tryz.prog W .any base t v := hval0
 have hW' := hW
 obtain ⟨p, q, hA0, hV, rfl, _, _⟩ := hW
 have hA : DataW.TrodAll enc Tryz.prog W 0 (fun _ => true) true Tryz.f5.params.toList args.toList ds p := hA0
 rw [Tryz.params5] at hA hval
 obtain ⟨v0, vs0, d0, ds0, p0, q0, hargs, rfl, rfl, h0, r0⟩ := trodAll_cons hA
 obtain ⟨rfl, rfl, rfl⟩ := trodAll_nil r0
 obtain rfl : args = #[v0] := by cases args; simp_all
 obtain ⟨rfl, rfl⟩ := trodVars_none hV
 obtain ⟨a0, len0, cap0, rfl⟩ := okWide_slice Tryz.underlying22 (hval 0 22 v0 rfl rfl)
 have k0 := h0
 have lt0 : ∀ x ∈ p0, x.block < W.heap.size := by obtain ⟨m, hm⟩ := k0; exact DataW.trod_lt m _ _ _ hm
 obtain ⟨z0, w0⟩ : ∃ zs, IsRow W a0 len0 cap0 zs := by
  obtain ⟨fuel, hf⟩ := h0
  rcases open_ints Tryz.underlying22 Tryz.underlying5 (by kernel_rfl) hf with ⟨hcs, _⟩ | ⟨x, l, c, zs, hcs, _, hl, hm, hz, _, hcell, hwz⟩
  ·simp [Value.cells] at hcs
   obtain ⟨rfl, rfl, rfl⟩ := hcs
   exact ⟨[], .inl ⟨rfl, rfl, rfl, rfl⟩⟩
  ·simp [Value.cells] at hcs
   obtain ⟨rfl, rfl, rfl⟩ := hcs
   exact ⟨zs, .inr ⟨_, rfl, hl, hm, by simpa using hz, hcell, hwz⟩⟩
 clear hA0 hval0
 refine (walkIdempotent W w0).mono fun e W' ⟨he, bel⟩ => ?_
 subst he
 exact ⟨_, rfl, _, _, _, [], _, [], hW', trodAll_mk1 (shut_bool Tryz.underlying4 _), (trodAll_cons_mk (Below.trod laidOut (by kernel_rfl) (of_decide_eq_true (by kernel_rfl)) k0 bel lt0) trodAll_mk0), rfl, bel.frame _, fun h => by cases h⟩
-- each of the three walks over the program by itself: together they are too much for the kernel's memory
theorem jf1 : (Rows.fnIdempotentRow.inPlace == Tryz.prog.inPlace 5) = true := by kernel_rfl
theorem jf2 : (Rows.fnIdempotentRow.unfollowed == Tryz.prog.unfollowed 5) = true := by kernel_rfl
theorem jf3 : (Rows.fnIdempotentRow.recurses == Tryz.prog.recurses 5) = true := by kernel_rfl
theorem jf4 : (Rows.fnIdempotentRow.named == Tryz.prog.varsNamed 5) = true := by kernel_rfl
theorem jf5 : laidOutB Tryz.prog = true := by kernel_rfl
theorem jf6 : mapsRowed Tryz.prog = true := by kernel_rfl
theorem jf7 : Tryz.prog.stopsHeard = true := by kernel_rfl
theorem jg : false = (Rows.fnIdempotentRow).goesBy Tryz.pinned.checked.prog := by kernel_rfl
theorem closed : joinedFacts Tryz.prog 5 Tryz.f5 Rows.fnIdempotentSpec Rows.fnIdempotentRow = true := by
 unfold joinedFacts
 rw [jf1, jf2, jf3, jf4, jf5, jf6, jf7]
 kernel_rfl
theorem said : Rows.FnIdempotentSaid :=
 OpenClaim.holds_of_wide 5 Tryz.f5 rfl rfl rfl rfl rfl rfl rfl ⟨rfl, rfl, rfl, rfl, rfl⟩ rfl rfl rfl rfl rfl (by kernel_rfl) Tryz.func5 closed
  (of_decide_eq_true (by kernel_rfl)) (by unfold Func.isWrapper; first | (rw [if_pos (by decide +kernel)]; kernel_rfl) | (rw [if_neg (by decide +kernel)]; exact ⟨rfl, rfl⟩))
  (fun os started H enc _ => by rw [OpenClaim.pre_eq_preRow]; exact lifted os started H enc)
theorem plain (f : FuncId) (fn : Func) (hf : Tryz.pinned.checked.prog.funcNamed Rows.fnIdempotentRow.func = some f) (hfn : Tryz.pinned.checked.prog.funcs[f]? = some fn) :
  true = Tryz.pinned.checked.prog.looks [] ∧ ∀ (j : Nat) t, fn.params[j]? = some t → Tryz.pinned.checked.prog.wantsStandIn t = false := by
 obtain rfl : f = 5 := Option.some.inj ((show Tryz.prog.funcNamed Rows.fnIdempotentRow.func = some 5 by kernel_rfl).symm.trans hf) |>.symm
 obtain rfl : fn = Tryz.f5 := (Option.some.inj (Tryz.func5.symm.trans hfn)).symm
 refine ⟨by kernel_rfl, fun j t ht => ?_⟩
 rw [Tryz.params5] at ht
 obtain rfl : t = 22 := by
  have := Array.mem_of_getElem? ht
  simpa using this
 exact (show Tryz.prog.wantsStandIn 22 = false by kernel_rfl)
theorem idempotent_card : Rows.FnIdempotentCardSaid :=
 Claim7.holds_tied_plain_at .later [] _ _ _ _ said (fun _ h => by cases h) (by kernel_rfl) (fun _ h => by cases h) fnIdempotent_row_tie rfl ⟨rfl, rfl⟩ (by kernel_rfl) rfl plain jg
#print axioms idempotent_card
end Go.Proofs.YtgkoljphndgoeaaGreatDoor
