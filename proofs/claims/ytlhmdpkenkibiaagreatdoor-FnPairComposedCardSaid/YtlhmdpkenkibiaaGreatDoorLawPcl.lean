import Derived.Test.YtlhmdpkenkibiaaGreatDoorCards
import Derived.Test.YtlhmdpkenkibiaaGreatDoorTie
import Derived.Test.YtlhmdpkenkibiaaGreatDoorPpc
import Derived.Test.YtlhmdpkenkibiaaGreatDoorEit
import Derived.Test.YtlhmdpkenkibiaaGreatDoorTopG2
import Derived.Deep.RegionHeld3
import Derived.ProofKit
import Derived.ChangeOld
import Derived.Deep.DeepHandedRow
import Derived.Lib.SmallJoins
import Derived.ChangeSame
import Derived.JoinedOf
import Derived.JoinedAt
import Derived.RowKit3
import Derived.ShutString
import Derived.OpenShut
import Derived.LaidMore
import Derived.Lay
import Derived.SevenTiedAt
import Derived.Stop.Joined
namespace Go.Proofs.YtlhmdpkenkibiaaGreatDoor
open Go.ChangeShapes Go.WideShapes Go.ChangeAt Go.RowKit Go.Joins
open Go.WideMaps Go.WideElems Tm
open Go.ChangeMaps (open_string shut_string)
open Go.Great
theorem rel_max8 (F : Nat → Nat → Bool) : (bs (relT F)).size ≤ maxLen := by rw [(rel729_bs F).size]; decide
theorem pc_facts (x s t : ByteArray) (h : PV s ∧ PV t ∧ Rel729 x) : ∃ (r lf m1 m2 m3 m4 x2 r2 : ByteArray),
  Gives 57 #[.string x, .string s, .string t] (.tuple #[.string r, .bool true]) ∧ Gives 58 #[.string x, .string s, .string t] (.tuple #[.string r, .bool true]) ∧
  Gives 34 #[.string x, .string s, .string ⟨#[115]⟩] (.string lf) ∧ Gives 60 #[.string s] (.string m1) ∧ Gives 49 #[.string m1] (.string m2) ∧ Gives 60 #[.string t] (.string m3) ∧
  Gives 59 #[.string x, .string m3] (.string m4) ∧ Gives 59 #[.string m2, .string m4] (.string r) ∧ Gives 34 #[.string lf, .string ⟨#[115]⟩, .string t] (.string r) ∧
  Gives 49 #[.string x] (.string x2) ∧ Gives 34 #[.string x2, .string t, .string s] (.string r2) ∧ Gives 49 #[.string r] (.string r2) := by
 obtain ⟨⟨⟨p, hp, hs⟩, hl⟩, ⟨⟨q, hq, ht⟩, hn⟩, hr⟩ := h
 obtain rfl := bs_ofP hs
 obtain rfl := bs_ofP ht
 have lp : p.ser.length ≤ 200 := by rwa [bs_size] at hl
 have lq : q.ser.length ≤ 200 := by rwa [bs_size] at hn
 have ex := rel_bs hr
 generalize relS x.data.toList = F at ex
 subst ex
 have h8 := ppThen_of (iComp (turnR (rT p)) (compR F (rT q)))
 rw [rb_congr fun a _ c _ => po_comp p q F a c] at h8
 have h9 := ppPairPost_of (pp_at .skip q (poR p .skip F) trivial (by decide) hq lq)
 rw [rb_congr fun a ha c _ => po_left p q F ha] at h9
 have h11 := ppPairPost_of (pp_at q p (turnR F) hq lq hp lp)
 rw [rb_congr fun a _ c _ => po_turn p q F a c] at h11
 have hsp : Gives 58 #[.string (bs (relT F)), .string (bs p.ser), .string (bs q.ser)] (.tuple #[.string (bs (relT (poR p q F))), .bool true]) := fun w => by
  obtain ⟨b, hb, hc⟩ := ready_any (bs p.ser) (bs q.ser) (bs (relT F)) (rel_max8 F)
  obtain rfl := hb.2 ⟨⟨⟨p, hp, hs⟩, hl⟩, ⟨⟨q, hq, ht⟩, hn⟩, hr⟩
  have h := specPp_yes p q (bs (relT F)) w hp lp hq lq hr hc
  have e : relT (poR p q (relS (bs (relT F)).data.toList)) = relT (poR p q F) := relT_congr fun a _ c _ => poR_congr (fun i hi j hj => relS_bs F hi hj) a c
  unfold ppOut at h
  rw [e] at h
  exact Lib.hid h
 exact ⟨_, _, _, _, _, _, _, _, pp_at p q F hp lp hq lq, hsp, ppPairPost_of (pp_at p .skip F hp lp trivial (by decide)), ppProg_t p hp lp, ppTurn_of (iTurn _), ppProg_t q hq lq, ppThen_of (iComp _ _), h8, h9, ppTurn_of (iTurn _), h11, ppTurn_of (iTurn _)⟩
set_option maxRecDepth 100000 in
set_option maxHeartbeats 16000000 in
theorem walkPairComposed {a0 : Option Addr} {len0 cap0 : Nat} {z0 : List Int} (w : World) (h0 : IsRow w a0 len0 cap0 z0) :
  Calls Tryz.prog 13 #[.slice a0 len0 cap0] w fun e w' => e = .returned (.bool true) ∧ Below w.heap.size w w' := by
 have DD := Lib.hid (drawPairPost h0)
 clear h0
 by_cases hl : (1048576 : Int) < len0
 ·go_enter Tryz.func13, Tryz.ntmps13
  go_wp2_with fail
  go_ret
  exact ⟨rfl, Below.refl _ _⟩
 go_enter Tryz.func13, Tryz.ntmps13
 go_wp2_with fail
 refine DD.out.mono ?_
 rintro e w1 ⟨x, s, t, lx, ls, lt, rfl, hb⟩
 have HB := Lib.hid hb
 clear hb DD
 by_cases h : PV s ∧ PV t ∧ Rel729 x
 ·obtain ⟨r, lf, m1, m2, m3, m4, x2, r2, c1, c2, c3, c4, c5, c6, c7, c8, c9, c10, c11, c12⟩ := pc_facts x s t h
  clear h
  unfold Gives at c1 c2 c3 c4 c5 c6 c7 c8 c9 c10 c11 c12
  go_wp2_with fail
  refine (c1 _).out.mono ?_
  rintro e w2 ⟨rfl, hb⟩
  replace HB := Lib.hid (bnext HB.out hb)
  clear hb
  go_wp2_with fail
  refine (c2 _).out.mono ?_
  rintro e w2 ⟨rfl, hb⟩
  replace HB := Lib.hid (bnext HB.out hb)
  clear hb
  go_wp2_with fail
  refine (c3 _).out.mono ?_
  rintro e w2 ⟨rfl, hb⟩
  replace HB := Lib.hid (bnext HB.out hb)
  clear hb
  go_wp2_with fail
  refine (c4 _).out.mono ?_
  rintro e w2 ⟨rfl, hb⟩
  replace HB := Lib.hid (bnext HB.out hb)
  clear hb
  go_wp2_with fail
  refine (c5 _).out.mono ?_
  rintro e w2 ⟨rfl, hb⟩
  replace HB := Lib.hid (bnext HB.out hb)
  clear hb
  go_wp2_with fail
  refine (c6 _).out.mono ?_
  rintro e w2 ⟨rfl, hb⟩
  replace HB := Lib.hid (bnext HB.out hb)
  clear hb
  go_wp2_with fail
  refine (c7 _).out.mono ?_
  rintro e w2 ⟨rfl, hb⟩
  replace HB := Lib.hid (bnext HB.out hb)
  clear hb
  go_wp2_with fail
  refine (c8 _).out.mono ?_
  rintro e w2 ⟨rfl, hb⟩
  replace HB := Lib.hid (bnext HB.out hb)
  clear hb
  go_wp2_with fail
  refine (c9 _).out.mono ?_
  rintro e w2 ⟨rfl, hb⟩
  replace HB := Lib.hid (bnext HB.out hb)
  clear hb
  go_wp2_with fail
  refine (c10 _).out.mono ?_
  rintro e w2 ⟨rfl, hb⟩
  replace HB := Lib.hid (bnext HB.out hb)
  clear hb
  go_wp2_with fail
  refine (c11 _).out.mono ?_
  rintro e w2 ⟨rfl, hb⟩
  replace HB := Lib.hid (bnext HB.out hb)
  clear hb
  go_wp2_with fail
  refine (c12 _).out.mono ?_
  rintro e w2 ⟨rfl, hb⟩
  replace HB := Lib.hid (bnext HB.out hb)
  clear hb
  go_wp2_with fail
  go_ret
  exact ⟨rfl, HB.out⟩
 ·have c1 := fun w => Lib.hid (implPp_no x s t w h)
  have c2 : ∀ w, Hid (Calls Tryz.prog 58 #[.string x, .string s, .string t] w fun e w' => e = .returned pfNo ∧ Below w.heap.size w w') := fun w => by
   obtain ⟨b, hb, hc⟩ := ready_any s t x (by unfold maxLen; omega)
   obtain rfl : b = false := by cases b with | false => rfl | true => exact absurd (hb.1 rfl) h
   exact Lib.hid (specPp_no x s t w hc)
  unfold pfNo at c1 c2
  clear h
  go_wp2_with fail
  refine (c1 _).out.mono ?_
  rintro e w2 ⟨rfl, hb⟩
  replace HB := Lib.hid (bnext HB.out hb)
  clear hb
  go_wp2_with fail
  refine (c2 _).out.mono ?_
  rintro e w2 ⟨rfl, hb⟩
  replace HB := Lib.hid (bnext HB.out hb)
  clear hb
  go_wp2_with fail
  go_ret
  exact ⟨rfl, HB.out⟩
theorem Tryz.own : ownKnob Tryz.prog.godebug = none := by kernel_rfl
theorem laidOut : laidOutB Tryz.prog = true := by kernel_rfl
set_option linter.unusedVariables false in
set_option maxRecDepth 100000 in
set_option maxHeartbeats 2000000 in
theorem lifted (os : Os) (started : os.Started) (H : Type) (enc : TypeId × Value → H) :
  ReturnsInHanded {} Tryz.checked os 13 .any (fun w args => (Rows.fnPairComposedSpec.pre enc Tryz.prog Tryz.f13 Rows.fnPairComposedRow.domain false w args ∧ laidMetH Tryz.prog Rows.fnPairComposedRow.laid w) ∧ sizedMet enc Tryz.prog Tryz.f13 (OpenSpec.ofChange Rows.fnPairComposedSpec) false w args)
   (Rows.fnPairComposedSpec.post enc Tryz.prog Tryz.f13 false true false false) := by
 refine returnsInHanded_of_change_and (C := Tryz.checked) (X := fun w _ => laidMetH Tryz.prog Rows.fnPairComposedRow.laid w) (fun _ _ _ hh h => h.of_heap hh) Tryz.own started (by kernel_rfl) Tryz.func13
  (ChangeSpec.witness_shaped (enc := enc) (C := Tryz.checked) (os := os) (X := fun w _ => laidMetH Tryz.prog Rows.fnPairComposedRow.laid w) false (World.laidAll Tryz.prog os Rows.fnPairComposedRow.laid) #[.slice none 0 0] 8 (World.laidAll_os _ _ _)
   (World.shaped_of_ZipB (by kernel_rfl) (by kernel_rfl)) (by kernel_rfl) (by kernel_rfl) (by kernel_rfl)
   (by rw [MakeChecks.laidMetH_plain _ _ _ (by kernel_rfl)]; exact laidMet_laidAll _ (by kernel_rfl) (by kernel_rfl))) ?_
 intro W base args ds gs before hval0 hW _ _ hL _
 have hval : ∀ (j : Nat) t v, Tryz.f13.params[j]? = some t → args[j]? = some v → Value.okWide Tryz.prog W .any base t v := hval0
 have hW' := hW
 obtain ⟨p, q, hA0, hV, rfl, _, _⟩ := hW
 have hA : DataW.TrodAll enc Tryz.prog W 0 (fun _ => true) true Tryz.f13.params.toList args.toList ds p := hA0
 rw [Tryz.params13] at hA hval
 obtain ⟨v0, vs0, d0, ds0, p0, q0, hargs, rfl, rfl, h0, r0⟩ := trodAll_cons hA
 obtain ⟨rfl, rfl, rfl⟩ := trodAll_nil r0
 obtain rfl : args = #[v0] := by cases args; simp_all
 obtain ⟨rfl, rfl⟩ := trodVars_none hV
 obtain ⟨a0, len0, cap0, rfl⟩ := okWide_slice Tryz.underlying32 (hval 0 32 v0 rfl rfl)
 have k0 := h0
 have lt0 : ∀ x ∈ p0, x.block < W.heap.size := by obtain ⟨m, hm⟩ := k0; exact DataW.trod_lt m _ _ _ hm
 obtain ⟨z0, w0⟩ : ∃ zs, IsRow W a0 len0 cap0 zs := by
  obtain ⟨fuel, hf⟩ := h0
  rcases open_ints Tryz.underlying32 Tryz.underlying5 (by kernel_rfl) hf with ⟨hcs, _⟩ | ⟨x, l, c, zs, hcs, _, hl, hm, hz, _, hcell, hwz⟩
  ·simp [Value.cells] at hcs
   obtain ⟨rfl, rfl, rfl⟩ := hcs
   exact ⟨[], .inl ⟨rfl, rfl, rfl, rfl⟩⟩
  ·simp [Value.cells] at hcs
   obtain ⟨rfl, rfl, rfl⟩ := hcs
   exact ⟨zs, .inr ⟨_, rfl, hl, hm, by simpa using hz, hcell, hwz⟩⟩
 clear hA0 hval0
 refine (walkPairComposed W w0).mono fun e W' ⟨he, bel⟩ => ?_
 subst he
 exact ⟨_, rfl, _, _, _, [], _, [], hW', trodAll_mk1 (shut_bool Tryz.underlying4 _), (trodAll_cons_mk (Below.trod laidOut (by kernel_rfl) (of_decide_eq_true (by kernel_rfl)) k0 bel lt0) trodAll_mk0), rfl, bel.frame _, fun h => by cases h⟩
-- each of the three walks over the program by itself: together they are too much for the kernel's memory
theorem jf1 : (Rows.fnPairComposedRow.inPlace == Tryz.prog.inPlace 13) = true := by kernel_rfl
theorem jf2 : (Rows.fnPairComposedRow.unfollowed == Tryz.prog.unfollowed 13) = true := by kernel_rfl
theorem jf3 : (Rows.fnPairComposedRow.recurses == Tryz.prog.recurses 13) = true := by kernel_rfl
theorem jf4 : (Rows.fnPairComposedRow.named == Tryz.prog.varsNamed 13) = true := by kernel_rfl
theorem jf5 : laidOutB Tryz.prog = true := by kernel_rfl
theorem jf6 : mapsRowed Tryz.prog = true := by kernel_rfl
theorem jf7 : Tryz.prog.stopsHeard = true := by kernel_rfl
theorem jg : false = (Rows.fnPairComposedRow).goesBy Tryz.pinned.checked.prog := by kernel_rfl
theorem closed : joinedFacts Tryz.prog 13 Tryz.f13 Rows.fnPairComposedSpec Rows.fnPairComposedRow = true := by
 unfold joinedFacts
 rw [jf1, jf2, jf3, jf4, jf5, jf6, jf7]
 kernel_rfl
theorem said : Rows.FnPairComposedSaid :=
 OpenClaim.holds_of_wide 13 Tryz.f13 rfl rfl rfl rfl rfl rfl rfl ⟨rfl, rfl, rfl, rfl, rfl⟩ rfl rfl rfl rfl rfl (by kernel_rfl) Tryz.func13 closed
  (of_decide_eq_true (by kernel_rfl)) (by unfold Func.isWrapper; first | (rw [if_pos (by decide +kernel)]; kernel_rfl) | (rw [if_neg (by decide +kernel)]; exact ⟨rfl, rfl⟩))
  (fun os started H enc _ => by rw [OpenClaim.pre_eq_preRow]; exact lifted os started H enc)
theorem plain (f : FuncId) (fn : Func) (hf : Tryz.pinned.checked.prog.funcNamed Rows.fnPairComposedRow.func = some f) (hfn : Tryz.pinned.checked.prog.funcs[f]? = some fn) :
  true = Tryz.pinned.checked.prog.looks [] ∧ ∀ (j : Nat) t, fn.params[j]? = some t → Tryz.pinned.checked.prog.wantsStandIn t = false := by
 obtain rfl : f = 13 := Option.some.inj ((show Tryz.prog.funcNamed Rows.fnPairComposedRow.func = some 13 by kernel_rfl).symm.trans hf) |>.symm
 obtain rfl : fn = Tryz.f13 := (Option.some.inj (Tryz.func13.symm.trans hfn)).symm
 refine ⟨by kernel_rfl, fun j t ht => ?_⟩
 rw [Tryz.params13] at ht
 obtain rfl : t = 32 := by
  have := Array.mem_of_getElem? ht
  simpa using this
 exact (show Tryz.prog.wantsStandIn 32 = false by kernel_rfl)
theorem pairComposed_card : Rows.FnPairComposedCardSaid :=
 Claim7.holds_tied_plain_at .later [] _ _ _ _ said (fun _ h => by cases h) (by kernel_rfl) (fun _ h => by cases h) fnPairComposed_row_tie rfl ⟨rfl, rfl⟩ (by kernel_rfl) rfl plain jg
#print axioms pairComposed_card
end Go.Proofs.YtlhmdpkenkibiaaGreatDoor
