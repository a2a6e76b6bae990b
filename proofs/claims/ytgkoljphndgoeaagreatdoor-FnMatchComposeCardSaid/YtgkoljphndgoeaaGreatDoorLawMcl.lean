import Derived.Test.YtgkoljphndgoeaaGreatDoorCards
import Derived.Test.YtgkoljphndgoeaaGreatDoorTie
import Derived.Test.YtgkoljphndgoeaaGreatDoorMha
import Derived.Test.YtgkoljphndgoeaaGreatDoorTopG2
import Derived.Test.YtgkoljphndgoeaaGreatDoorNin
import Derived.Deep.RegionHeld3
import Derived.ProofKit
import Derived.ChangeOld
import Derived.Deep.DeepHandedRow
import Derived.Lib.SmallJoins
import Derived.ChangeSame
import Derived.JoinedOf
import Derived.JoinedAt
import Derived.RowKit3
import Derived.ShutString
import Derived.OpenShut
import Derived.LaidMore
import Derived.Lay
import Derived.SevenTiedAt
import Derived.Stop.Joined
namespace Go.Proofs.YtgkoljphndgoeaaGreatDoor
open Go.ChangeShapes Go.WideShapes Go.ChangeAt Go.RowKit Go.Joins
open Go.WideMaps Go.WideElems Tm
open Go.ChangeMaps (open_string shut_string)
open Go.Great
theorem ma_comp (P Q T : Pg) (F G : Nat → Nat → Bool) : inR (compR (maR P Q F) (maR Q T G)) (maR P T (compR F G)) = true := by
 rw [inR_iff]
 intro i hi k hk h
 obtain ⟨j, hj, h1, h2⟩ := compR_iff.1 h
 refine maR_iff.2 fun a ha hr => ?_
 obtain ⟨b, hb, h3, h4⟩ := maR_iff.1 h1 a ha hr
 obtain ⟨c, hc, h5, h6⟩ := maR_iff.1 h2 b hb h3
 exact ⟨c, hc, h5, compR_iff.2 ⟨b, hb, h4, h6⟩⟩
theorem ma_self (P : Pg) : inR idR (maR P P idR) = true := by
 rw [inR_iff]
 intro i hi j hj h
 have e : i = j := by simpa [idR] using h
 subst e
 exact maR_iff.2 fun c hc hr => ⟨c, hc, hr, by simp [idR]⟩
theorem mc_all (s t y : ByteArray) (h : PV s ∧ PV t ∧ Rel729 y) : ∃ m, Gives 18 #[.string s, .string t, .string y] (.tuple #[.string m, .bool true]) ∧ Gives 19 #[.string s, .string t, .string y] (.tuple #[.string m, .bool true]) ∧ ∀ t3 y3, PV t ∧ PV t3 ∧ Rel729 y3 → ∃ (n c x d sm : ByteArray),
  Gives 18 #[.string t, .string t3, .string y3] (.tuple #[.string n, .bool true]) ∧ Gives 20 #[.string y, .string y3] (.string c) ∧ Gives 18 #[.string s, .string t3, .string c] (.tuple #[.string x, .bool true]) ∧
  Gives 21 #[.string ⟨#[38, 61, 120, 88, 38, 61, 121, 89, 61, 122, 90]⟩] (.string sm) ∧ Gives 20 #[.string m, .string n] (.string d) ∧ Gives 22 #[.string d, .string x] (.bool true) ∧
  Gives 23 #[.string sm, .string s, .string s, .string sm] (.bool true) := by
 obtain ⟨⟨⟨p, hp, hs⟩, hl⟩, ⟨⟨q, hq, ht⟩, hn⟩, hr⟩ := h
 obtain rfl := bs_ofP hs
 obtain rfl := bs_ofP ht
 have lp : p.ser.length ≤ 200 := by rwa [bs_size] at hl
 have lq : q.ser.length ≤ 200 := by rwa [bs_size] at hn
 have ex := rel_bs hr
 generalize relS y.data.toList = F at ex
 subst ex
 refine ⟨_, mf_at p q F hp lp hq lq, fun w => Lib.hid (mfs_at p q F hp lp hq lq w), fun t3 y3 h3 => ?_⟩
 obtain ⟨_, ⟨⟨r, hr3, ht3⟩, hn3⟩, hr4⟩ := h3
 obtain rfl := bs_ofP ht3
 have lr : r.ser.length ≤ 200 := by rwa [bs_size] at hn3
 have ey := rel_bs hr4
 generalize relS y3.data.toList = G at ey
 subst ey
 have h8 := iWithin (compR (maR p q F) (maR q r G)) (maR p r (compR F G))
 rw [ma_comp] at h8
 have h9 := mh_at p p idR idR hp lp hp lp
 rw [ma_self] at h9
 exact ⟨_, _, _, _, _, mf_at q r G hq lq hr3 lr, ppThen_of (iComp F G), mf_at p r _ hp lp hr3 lr, ppSame_t, ppThen_of (iComp _ _), h8, h9⟩
set_option maxRecDepth 100000 in
set_option maxHeartbeats 16000000 in
theorem walkMatchCompose {a0 : Option Addr} {len0 cap0 : Nat} {z0 : List Int} {a1 : Option Addr} {len1 cap1 : Nat} {z1 : List Int} (w : World) (h0 : IsRow w a0 len0 cap0 z0) (h1 : IsRow w a1 len1 cap1 z1) :
  Calls Tryz.prog 4 #[.slice a0 len0 cap0, .slice a1 len1 cap1] w fun e w' => e = .returned (.bool true) ∧ Below w.heap.size w w' := by
 have DD := Lib.hid (drawMatchFree h0)
 have DM := fun w' (hb : Below w.heap.size w w') => Lib.hid (drawMatchFree (h1.kept6 hb))
 clear h0 h1
 by_cases hl : (1048576 : Int) < len0
 ·go_enter Tryz.func4, Tryz.ntmps4
  go_wp2_with fail
  go_ret
  exact ⟨rfl, Below.refl _ _⟩
 by_cases hl2 : (1048576 : Int) < len1
 ·go_enter Tryz.func4, Tryz.ntmps4
  go_wp2_with fail
  go_ret
  exact ⟨rfl, Below.refl _ _⟩
 go_enter Tryz.func4, Tryz.ntmps4
 go_wp2_with fail
 refine DD.out.mono ?_
 rintro e w1 ⟨s, t, y, ls, lt, ly, rfl, hb⟩
 have HB := Lib.hid hb
 clear hb DD
 by_cases h : PV s ∧ PV t ∧ Rel729 y
 ·obtain ⟨m, c1, c2, hm⟩ : ∃ m, Gives 18 #[.string s, .string t, .string y] (.tuple #[.string m, .bool true]) ∧ Gives 19 #[.string s, .string t, .string y] (.tuple #[.string m, .bool true]) ∧ ∀ t3 y3, PV t ∧ PV t3 ∧ Rel729 y3 → ∃ (n c x d sm : ByteArray),
    Gives 18 #[.string t, .string t3, .string y3] (.tuple #[.string n, .bool true]) ∧ Gives 20 #[.string y, .string y3] (.string c) ∧ Gives 18 #[.string s, .string t3, .string c] (.tuple #[.string x, .bool true]) ∧
    Gives 21 #[.string ⟨#[38, 61, 120, 88, 38, 61, 121, 89, 61, 122, 90]⟩] (.string sm) ∧ Gives 20 #[.string m, .string n] (.string d) ∧ Gives 22 #[.string d, .string x] (.bool true) ∧
    Gives 23 #[.string sm, .string s, .string s, .string sm] (.bool true) := mc_all s t y h
  have HM := Lib.hid hm
  clear hm
  clear h
  unfold Gives at c1 c2
  go_wp2_with fail
  refine (c1 _).out.mono ?_
  rintro e w2 ⟨rfl, hb⟩
  replace HB := Lib.hid (bnext HB.out hb)
  clear hb
  go_wp2_with fail
  refine (c2 _).out.mono ?_
  rintro e w2 ⟨rfl, hb⟩
  replace HB := Lib.hid (bnext HB.out hb)
  clear hb
  have M := DM _ HB.out
  go_wp2_with fail
  refine M.out.mono ?_
  rintro e w3 ⟨s3, t3, y3, ls3, lt3, ly3, rfl, hb⟩
  replace HB := Lib.hid (bnext HB.out hb)
  clear hb M DM
  by_cases h3 : PV t ∧ PV t3 ∧ Rel729 y3
  ·obtain ⟨n, c, x, d, sm, e3, e4, e5, e6, e7, e8, e9⟩ := HM.out t3 y3 h3
   clear HM h3 c1 c2
   unfold Gives at e3 e4 e5 e6 e7 e8 e9
   go_wp2_with fail
   refine (e3 _).out.mono ?_
   rintro e w2 ⟨rfl, hb⟩
   replace HB := Lib.hid (bnext HB.out hb)
   clear hb
   go_wp2_with fail
   refine (e4 _).out.mono ?_
   rintro e w2 ⟨rfl, hb⟩
   replace HB := Lib.hid (bnext HB.out hb)
   clear hb
   go_wp2_with fail
   refine (e5 _).out.mono ?_
   rintro e w2 ⟨rfl, hb⟩
   replace HB := Lib.hid (bnext HB.out hb)
   clear hb
   go_wp2_with fail
   refine (e6 _).out.mono ?_
   rintro e w2 ⟨rfl, hb⟩
   replace HB := Lib.hid (bnext HB.out hb)
   clear hb
   go_wp2_with fail
   refine (e7 _).out.mono ?_
   rintro e w2 ⟨rfl, hb⟩
   replace HB := Lib.hid (bnext HB.out hb)
   clear hb
   go_wp2_with fail
   refine (e8 _).out.mono ?_
   rintro e w2 ⟨rfl, hb⟩
   replace HB := Lib.hid (bnext HB.out hb)
   clear hb
   go_wp2_with fail
   refine (e9 _).out.mono ?_
   rintro e w2 ⟨rfl, hb⟩
   replace HB := Lib.hid (bnext HB.out hb)
   clear hb
   go_wp2_with fail
   go_ret
   exact ⟨rfl, HB.out⟩
  ·have c3 := fun w => Lib.hid (implMf_no t t3 y3 w h3)
   unfold pfNo at c3
   clear h3 HM c1 c2
   go_wp2_with fail
   refine (c3 _).out.mono ?_
   rintro e w2 ⟨rfl, hb⟩
   replace HB := Lib.hid (bnext HB.out hb)
   clear hb
   go_wp2_with fail
   go_ret
   exact ⟨rfl, HB.out⟩
 ·have c1 := fun w => Lib.hid (implMf_no s t y w h)
  have c2 : ∀ w, Hid (Calls Tryz.prog 19 #[.string s, .string t, .string y] w fun e w' => e = .returned pfNo ∧ Below w.heap.size w w') := fun w => by
   obtain ⟨b, hb, hc⟩ := ready_any s t y (by unfold maxLen; omega)
   obtain rfl : b = false := by cases b with | false => rfl | true => exact absurd (hb.1 rfl) h
   exact Lib.hid (specMf_no y s t w hc)
  unfold pfNo at c1 c2
  clear h
  go_wp2_with fail
  refine (c1 _).out.mono ?_
  rintro e w2 ⟨rfl, hb⟩
  replace HB := Lib.hid (bnext HB.out hb)
  clear hb
  go_wp2_with fail
  refine (c2 _).out.mono ?_
  rintro e w2 ⟨rfl, hb⟩
  replace HB := Lib.hid (bnext HB.out hb)
  clear hb
  have M := DM _ HB.out
  go_wp2_with fail
  refine M.out.mono ?_
  rintro e w3 ⟨s3, t3, y3, ls3, lt3, ly3, rfl, hb⟩
  replace HB := Lib.hid (bnext HB.out hb)
  clear hb M DM
  obtain ⟨x4, b4, _, _, _, c4⟩ := mf_any2 t t3 y3 (by unfold maxLen; omega)
  replace c4 := fun w => Lib.hid (c4 w)
  clear c1 c2
  go_wp2_with fail
  refine (c4 _).out.mono ?_
  rintro e w2 ⟨rfl, hb⟩
  replace HB := Lib.hid (bnext HB.out hb)
  clear hb
  go_wp2_with fail
  go_ret
  exact ⟨rfl, HB.out⟩
theorem Tryz.own : ownKnob Tryz.prog.godebug = none := by kernel_rfl
theorem laidOut : laidOutB Tryz.prog = true := by kernel_rfl
set_option linter.unusedVariables false in
set_option maxRecDepth 100000 in
set_option maxHeartbeats 2000000 in
theorem lifted (os : Os) (started : os.Started) (H : Type) (enc : TypeId × Value → H) :
  ReturnsInHanded {} Tryz.checked os 4 .any (fun w args => (Rows.fnMatchComposeSpec.pre enc Tryz.prog Tryz.f4 Rows.fnMatchComposeRow.domain false w args ∧ laidMetH Tryz.prog Rows.fnMatchComposeRow.laid w) ∧ sizedMet enc Tryz.prog Tryz.f4 (OpenSpec.ofChange Rows.fnMatchComposeSpec) false w args)
   (Rows.fnMatchComposeSpec.post enc Tryz.prog Tryz.f4 false true false false) := by
 refine returnsInHanded_of_change_and (C := Tryz.checked) (X := fun w _ => laidMetH Tryz.prog Rows.fnMatchComposeRow.laid w) (fun _ _ _ hh h => h.of_heap hh) Tryz.own started (by kernel_rfl) Tryz.func4
  (ChangeSpec.witness_shaped (enc := enc) (C := Tryz.checked) (os := os) (X := fun w _ => laidMetH Tryz.prog Rows.fnMatchComposeRow.laid w) false (World.laidAll Tryz.prog os Rows.fnMatchComposeRow.laid) #[.slice none 0 0, .slice none 0 0] 8 (World.laidAll_os _ _ _)
   (World.shaped_of_ZipB (by kernel_rfl) (by kernel_rfl)) (by kernel_rfl) (by kernel_rfl) (by kernel_rfl)
   (by rw [MakeChecks.laidMetH_plain _ _ _ (by kernel_rfl)]; exact laidMet_laidAll _ (by kernel_rfl) (by kernel_rfl))) ?_
 intro W base args ds gs before hval0 hW _ _ hL _
 have hval : ∀ (j : Nat) t v, Tryz.f4.params[j]? = some t → args[j]? = some v → Value.okWide Tryz.prog W .any base t v := hval0
 have hW' := hW
 obtain ⟨p, q, hA0, hV, rfl, _, _⟩ := hW
 have hA : DataW.TrodAll enc Tryz.prog W 0 (fun _ => true) true Tryz.f4.params.toList args.toList ds p := hA0
 rw [Tryz.params4] at hA hval
 obtain ⟨v0, vs0, d0, ds0, p0, q0, hargs, rfl, rfl, h0, r0⟩ := trodAll_cons hA
 obtain ⟨v1, vs1, d1, ds1, p1, q1, rfl, rfl, rfl, h1, r1⟩ := trodAll_cons r0
 obtain ⟨rfl, rfl, rfl⟩ := trodAll_nil r1
 obtain rfl : args = #[v0, v1] := by cases args; simp_all
 obtain ⟨rfl, rfl⟩ := trodVars_none hV
 obtain ⟨a0, len0, cap0, rfl⟩ := okWide_slice Tryz.underlying22 (hval 0 22 v0 rfl rfl)
 have k0 := h0
 have lt0 : ∀ x ∈ p0, x.block < W.heap.size := by obtain ⟨m, hm⟩ := k0; exact DataW.trod_lt m _ _ _ hm
 obtain ⟨z0, w0⟩ : ∃ zs, IsRow W a0 len0 cap0 zs := by
  obtain ⟨fuel, hf⟩ := h0
  rcases open_ints Tryz.underlying22 Tryz.underlying5 (by kernel_rfl) hf with ⟨hcs, _⟩ | ⟨x, l, c, zs, hcs, _, hl, hm, hz, _, hcell, hwz⟩
  ·simp [Value.cells] at hcs
   obtain ⟨rfl, rfl, rfl⟩ := hcs
   exact ⟨[], .inl ⟨rfl, rfl, rfl, rfl⟩⟩
  ·simp [Value.cells] at hcs
   obtain ⟨rfl, rfl, rfl⟩ := hcs
   exact ⟨zs, .inr ⟨_, rfl, hl, hm, by simpa using hz, hcell, hwz⟩⟩
 obtain ⟨a1, len1, cap1, rfl⟩ := okWide_slice Tryz.underlying22 (hval 1 22 v1 rfl rfl)
 have k1 := h1
 have lt1 : ∀ x ∈ p1, x.block < W.heap.size := by obtain ⟨m, hm⟩ := k1; exact DataW.trod_lt m _ _ _ hm
 obtain ⟨z1, w1⟩ : ∃ zs, IsRow W a1 len1 cap1 zs := by
  obtain ⟨fuel, hf⟩ := h1
  rcases open_ints Tryz.underlying22 Tryz.underlying5 (by kernel_rfl) hf with ⟨hcs, _⟩ | ⟨x, l, c, zs, hcs, _, hl, hm, hz, _, hcell, hwz⟩
  ·simp [Value.cells] at hcs
   obtain ⟨rfl, rfl, rfl⟩ := hcs
   exact ⟨[], .inl ⟨rfl, rfl, rfl, rfl⟩⟩
  ·simp [Value.cells] at hcs
   obtain ⟨rfl, rfl, rfl⟩ := hcs
   exact ⟨zs, .inr ⟨_, rfl, hl, hm, by simpa using hz, hcell, hwz⟩⟩
 clear hA0 hval0
 refine (walkMatchCompose W w0 w1).mono fun e W' ⟨he, bel⟩ => ?_
 subst he
 exact ⟨_, rfl, _, _, _, [], _, [], hW', trodAll_mk1 (shut_bool Tryz.underlying4 _), (trodAll_cons_mk (Below.trod laidOut (by kernel_rfl) (of_decide_eq_true (by kernel_rfl)) k0 bel lt0) (trodAll_cons_mk (Below.trod laidOut (by kernel_rfl) (of_decide_eq_true (by kernel_rfl)) k1 bel lt1) trodAll_mk0)), rfl, bel.frame _, fun h => by cases h⟩
-- each of the three walks over the program by itself: together they are too much for the kernel's memory
theorem jf1 : (Rows.fnMatchComposeRow.inPlace == Tryz.prog.inPlace 4) = true := by kernel_rfl
theorem jf2 : (Rows.fnMatchComposeRow.unfollowed == Tryz.prog.unfollowed 4) = true := by kernel_rfl
theorem jf3 : (Rows.fnMatchComposeRow.recurses == Tryz.prog.recurses 4) = true := by kernel_rfl
theorem jf4 : (Rows.fnMatchComposeRow.named == Tryz.prog.varsNamed 4) = true := by kernel_rfl
theorem jf5 : laidOutB Tryz.prog = true := by kernel_rfl
theorem jf6 : mapsRowed Tryz.prog = true := by kernel_rfl
theorem jf7 : Tryz.prog.stopsHeard = true := by kernel_rfl
theorem jg : false = (Rows.fnMatchComposeRow).goesBy Tryz.pinned.checked.prog := by kernel_rfl
theorem closed : joinedFacts Tryz.prog 4 Tryz.f4 Rows.fnMatchComposeSpec Rows.fnMatchComposeRow = true := by
 unfold joinedFacts
 rw [jf1, jf2, jf3, jf4, jf5, jf6, jf7]
 kernel_rfl
theorem said : Rows.FnMatchComposeSaid :=
 OpenClaim.holds_of_wide 4 Tryz.f4 rfl rfl rfl rfl rfl rfl rfl ⟨rfl, rfl, rfl, rfl, rfl⟩ rfl rfl rfl rfl rfl (by kernel_rfl) Tryz.func4 closed
  (of_decide_eq_true (by kernel_rfl)) (by unfold Func.isWrapper; first | (rw [if_pos (by decide +kernel)]; kernel_rfl) | (rw [if_neg (by decide +kernel)]; exact ⟨rfl, rfl⟩))
  (fun os started H enc _ => by rw [OpenClaim.pre_eq_preRow]; exact lifted os started H enc)
theorem plain (f : FuncId) (fn : Func) (hf : Tryz.pinned.checked.prog.funcNamed Rows.fnMatchComposeRow.func = some f) (hfn : Tryz.pinned.checked.prog.funcs[f]? = some fn) :
  true = Tryz.pinned.checked.prog.looks [] ∧ ∀ (j : Nat) t, fn.params[j]? = some t → Tryz.pinned.checked.prog.wantsStandIn t = false := by
 obtain rfl : f = 4 := Option.some.inj ((show Tryz.prog.funcNamed Rows.fnMatchComposeRow.func = some 4 by kernel_rfl).symm.trans hf) |>.symm
 obtain rfl : fn = Tryz.f4 := (Option.some.inj (Tryz.func4.symm.trans hfn)).symm
 refine ⟨by kernel_rfl, fun j t ht => ?_⟩
 rw [Tryz.params4] at ht
 obtain rfl : t = 22 := by
  have := Array.mem_of_getElem? ht
  simpa using this
 exact (show Tryz.prog.wantsStandIn 22 = false by kernel_rfl)
theorem matchCompose_card : Rows.FnMatchComposeCardSaid :=
 Claim7.holds_tied_plain_at .later [] _ _ _ _ said (fun _ h => by cases h) (by kernel_rfl) (fun _ h => by cases h) fnMatchCompose_row_tie rfl ⟨rfl, rfl⟩ (by kernel_rfl) rfl plain jg
#print axioms matchCompose_card
end Go.Proofs.YtgkoljphndgoeaaGreatDoor
