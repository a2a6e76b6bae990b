import Derived.Test.YtlhmdpkenkibiaaGreatDoorCards
import Derived.Test.YtlhmdpkenkibiaaGreatDoorTie
import Derived.Test.YtlhmdpkenkibiaaGreatDoorTopG2
import Derived.Test.YtlhmdpkenkibiaaGreatDoorNin
import Derived.Test.YtlhmdpkenkibiaaGreatDoorMh0
import Derived.Deep.RegionHeld3
import Derived.ProofKit
import Derived.ChangeOld
import Derived.Deep.DeepHandedRow
import Derived.Lib.SmallJoins
import Derived.ChangeSame
import Derived.JoinedOf
import Derived.JoinedAt
import Derived.RowKit3
import Derived.ShutString
import Derived.OpenShut
import Derived.LaidMore
import Derived.Lay
import Derived.SevenTiedAt
import Derived.Stop.Joined
namespace Go.Proofs.YtlhmdpkenkibiaaGreatDoor
open Go.ChangeShapes Go.WideShapes Go.ChangeAt Go.RowKit Go.Joins
open Go.WideMaps Go.WideElems Tm
open Go.ChangeMaps (open_string shut_string)
open Go.Great
theorem rel_max8 (F : Nat → Nat → Bool) : (bs (relT F)).size ≤ maxLen := by rw [(rel729_bs F).size]; decide
theorem maR_iff {p q : Pg} {A : Nat → Nat → Bool} {i j : Nat} : maR p q A i j = true ↔ ∀ c, c < 27 → rT p i c = true → ∃ x, x < 27 ∧ rT q j x = true ∧ A c x = true := by
 unfold maR
 rw [Bool.not_eq_true']
 constructor
 ·intro h c hc hr
  cases hu : upto 27 (fun x => rT q j x && A c x) with
  | true =>
   obtain ⟨x, hx, hb⟩ := upto_iff.1 hu
   rw [Bool.and_eq_true] at hb
   exact ⟨x, hx, hb.1, hb.2⟩
  | false =>
   have : upto 27 (fun c => rT p i c && !(upto 27 fun x => rT q j x && A c x)) = true := upto_iff.2 ⟨c, hc, by rw [hr, hu]; rfl⟩
   rw [h] at this; cases this
 ·intro h
  cases hu : upto 27 (fun c => rT p i c && !(upto 27 fun x => rT q j x && A c x)) with
  | false => rfl
  | true =>
   obtain ⟨c, hc, hb⟩ := upto_iff.1 hu
   rw [Bool.and_eq_true, Bool.not_eq_true'] at hb
   obtain ⟨x, hx, h1, h2⟩ := h c hc hb.1
   have : upto 27 (fun x => rT q j x && A c x) = true := upto_iff.2 ⟨x, hx, by rw [h1, h2]; rfl⟩
   rw [hb.2] at this; cases this
theorem maR_congr {p q : Pg} {A B : Nat → Nat → Bool} (h : ∀ i, i < 27 → ∀ j, j < 27 → A i j = B i j) (i j : Nat) : maR p q A i j = maR p q B i j := by
 rw [Bool.eq_iff_iff, maR_iff, maR_iff]
 exact ⟨fun k c hc hr => by obtain ⟨x, hx, h1, h2⟩ := k c hc hr; exact ⟨x, hx, h1, (h c hc x hx) ▸ h2⟩, fun k c hc hr => by obtain ⟨x, hx, h1, h2⟩ := k c hc hr; exact ⟨x, hx, h1, (h c hc x hx).symm ▸ h2⟩⟩
theorem mf_at (p q : Pg) (F : Nat → Nat → Bool) (hp : p.ok false) (lp : p.ser.length ≤ 200) (hq : q.ok false) (lq : q.ser.length ≤ 200) : Gives 40 #[.string (bs p.ser), .string (bs q.ser), .string (bs (relT F))] (.tuple #[.string (bs (relT (maR p q F))), .bool true]) := fun w => by
 have h := implMf_yes (bs p.ser) (bs q.ser) (bs (relT F)) w hp (by simp [bs]) (by rw [bs_size]; exact lp) hq (by simp [bs]) (by rw [bs_size]; exact lq) (rel729_bs F)
 have e : relT (maR p q (relS (bs (relT F)).data.toList)) = relT (maR p q F) := relT_congr fun a _ c _ => maR_congr (fun i hi j hj => relS_bs F hi hj) a c
 unfold mfOut at h
 rw [e] at h
 exact Lib.hid h
theorem mfs_at (p q : Pg) (F : Nat → Nat → Bool) (hp : p.ok false) (lp : p.ser.length ≤ 200) (hq : q.ok false) (lq : q.ser.length ≤ 200) (w : World) : Calls Tryz.prog 65 #[.string (bs p.ser), .string (bs q.ser), .string (bs (relT F))] w fun e w' => e = .returned (.tuple #[.string (bs (relT (maR p q F))), .bool true]) ∧ Below w.heap.size w w' := by
 obtain ⟨b, hb, hc⟩ := ready_any (bs p.ser) (bs q.ser) (bs (relT F)) (rel_max8 F)
 obtain rfl := hb.2 ⟨⟨⟨p, hp, by simp [bs]⟩, by rw [bs_size]; exact lp⟩, ⟨⟨q, hq, by simp [bs]⟩, by rw [bs_size]; exact lq⟩, rel729_bs F⟩
 have h := specMf_yes p q (bs (relT F)) w hp lp hq lq (rel729_bs F) hc
 have e : relT (maR p q (relS (bs (relT F)).data.toList)) = relT (maR p q F) := relT_congr fun a _ c _ => maR_congr (fun i hi j hj => relS_bs F hi hj) a c
 unfold mfOut at h
 rw [e] at h
 exact h
theorem mh_at (p q : Pg) (E F : Nat → Nat → Bool) (hp : p.ok false) (lp : p.ser.length ≤ 200) (hq : q.ok false) (lq : q.ser.length ≤ 200) : Gives 16 #[.string (bs (relT E)), .string (bs p.ser), .string (bs q.ser), .string (bs (relT F))] (.bool (inR E (maR p q F))) := fun w => by
 have h := mh_impl (bs (relT E)) (bs p.ser) (bs q.ser) (bs (relT F)) _ true _ (fun w => (mf_at p q F hp lp hq lq w).out) (fun _ w => (iWithin E (maR p q F) w).out) w
 rw [Bool.true_and] at h
 exact Lib.hid h
theorem mhs_at (p q : Pg) (E F : Nat → Nat → Bool) (hp : p.ok false) (lp : p.ser.length ≤ 200) (hq : q.ok false) (lq : q.ser.length ≤ 200) : Gives 15 #[.string (bs (relT E)), .string (bs p.ser), .string (bs q.ser), .string (bs (relT F))] (.bool (inR E (maR p q F))) := fun w => by
 have hw : ∀ w, Calls Tryz.prog 66 #[.string (bs (relT E)), .string (bs (relT (maR p q F)))] w fun e w' => e = .returned (.bool (inR E (maR p q F))) ∧ Below w.heap.size w w' := fun w => by
  have h := specRelWithin_yes (bs (relT E)) (bs (relT (maR p q F))) ⟨rel729_bs E, rel729_bs _⟩ w
  unfold BoolIs at h
  rw [relEq_congr (A' := fun i j => E i j && maR p q F i j) (B' := E) (fun i hi j hj => by rw [relS_bs E hi hj, relS_bs _ hi hj]) (fun i hi j hj => relS_bs E hi hj)] at h
  exact h
 have h := mh_spec (bs (relT E)) (bs p.ser) (bs q.ser) (bs (relT F)) _ true _ (fun w => mfs_at p q F hp lp hq lq w) (fun _ => hw) w
 rw [Bool.true_and] at h
 exact Lib.hid h
theorem mh_wider (p q : Pg) (E F U : Nat → Nat → Bool) (h : inR E (maR p q F) = true) : inR E (maR p q (fun i j => F i j || U i j)) = true := by
 rw [inR_iff] at h ⊢
 intro i hi j hj he
 refine maR_iff.2 fun c hc hr => ?_
 obtain ⟨x, hx, h1, h2⟩ := maR_iff.1 (h i hi j hj he) c hc hr
 exact ⟨x, hx, h1, by rw [h2]; rfl⟩
def xXTm : Tm := .bin 61 (.leaf 120) (.leaf 88)
theorem mh_facts (x s t y : ByteArray) (h : PV s ∧ PV t ∧ Rel729 y) (hx : Rel729 x) : ∃ (b : Bool) (m u v : ByteArray),
  Gives 16 #[.string x, .string s, .string t, .string y] (.bool b) ∧ Gives 15 #[.string x, .string s, .string t, .string y] (.bool b) ∧
  Gives 40 #[.string s, .string t, .string y] (.tuple #[.string m, .bool true]) ∧ Gives 42 #[.string ⟨#[61, 120, 88]⟩] (.string u) ∧ Gives 41 #[.string y, .string u] (.string v) ∧
  Gives 33 #[.string x, .string m] (.bool b) ∧ (b = true → Gives 16 #[.string x, .string s, .string t, .string v] (.bool true)) := by
 obtain ⟨⟨⟨p, hp, hs⟩, hl⟩, ⟨⟨q, hq, ht⟩, hn⟩, hr⟩ := h
 obtain rfl := bs_ofP hs
 obtain rfl := bs_ofP ht
 have lp : p.ser.length ≤ 200 := by rwa [bs_size] at hl
 have lq : q.ser.length ≤ 200 := by rwa [bs_size] at hn
 have ex := rel_bs hr
 generalize relS y.data.toList = F at ex
 subst ex
 have ey := rel_bs hx
 generalize relS x.data.toList = E at ey
 subst ey
 refine ⟨inR E (maR p q F), _, _, _, mh_at p q E F hp lp hq lq, mhs_at p q E F hp lp hq lq, mf_at p q F hp lp hq lq, ppRel_t ⟨#[61, 120, 88]⟩ (t := xXTm) ⟨false, false, rfl, rfl, rfl⟩ rfl (by decide), ppOrRel_of (iOr _ _), iWithin _ _, fun hb => ?_⟩
 have k := mh_at p q E (fun i j => F i j || wdR xXTm i j) hp lp hq lq
 rwa [mh_wider p q E F _ hb] at k
set_option maxRecDepth 100000 in
set_option maxHeartbeats 16000000 in
theorem walkMatchHolds {a0 : Option Addr} {len0 cap0 : Nat} {z0 : List Int} (w : World) (h0 : IsRow w a0 len0 cap0 z0) :
  Calls Tryz.prog 10 #[.slice a0 len0 cap0] w fun e w' => e = .returned (.bool true) ∧ Below w.heap.size w w' := by
 have DD := Lib.hid (drawMatchHolds h0)
 clear h0
 by_cases hl : (1048576 : Int) < len0
 ·go_enter Tryz.func10, Tryz.ntmps10
  go_wp2_with fail
  go_ret
  exact ⟨rfl, Below.refl _ _⟩
 go_enter Tryz.func10, Tryz.ntmps10
 go_wp2_with fail
 refine DD.out.mono ?_
 rintro e w1 ⟨x, s, t, y, hx, ls, lt, ly, rfl, hb⟩
 have HB := Lib.hid hb
 clear hb DD
 by_cases h : PV s ∧ PV t ∧ Rel729 y
 ·obtain ⟨b, m, u, v, c1, c2, c3, c4, c5, c6, c7⟩ := mh_facts x s t y h hx
  clear h hx
  unfold Gives at c1 c2 c3 c4 c5 c6 c7
  cases b
  ·clear c7
   go_wp2_with fail
   refine (c1 _).out.mono ?_
   rintro e w2 ⟨rfl, hb⟩
   replace HB := Lib.hid (bnext HB.out hb)
   clear hb
   go_wp2_with fail
   refine (c2 _).out.mono ?_
   rintro e w2 ⟨rfl, hb⟩
   replace HB := Lib.hid (bnext HB.out hb)
   clear hb
   go_wp2_with fail
   refine (c3 _).out.mono ?_
   rintro e w2 ⟨rfl, hb⟩
   replace HB := Lib.hid (bnext HB.out hb)
   clear hb
   go_wp2_with fail
   refine (c4 _).out.mono ?_
   rintro e w2 ⟨rfl, hb⟩
   replace HB := Lib.hid (bnext HB.out hb)
   clear hb
   go_wp2_with fail
   refine (c5 _).out.mono ?_
   rintro e w2 ⟨rfl, hb⟩
   replace HB := Lib.hid (bnext HB.out hb)
   clear hb
   go_wp2_with fail
   refine (c6 _).out.mono ?_
   rintro e w2 ⟨rfl, hb⟩
   replace HB := Lib.hid (bnext HB.out hb)
   clear hb
   go_wp2_with fail
   go_ret
   exact ⟨rfl, HB.out⟩
  ·replace c7 := c7 rfl
   go_wp2_with fail
   refine (c1 _).out.mono ?_
   rintro e w2 ⟨rfl, hb⟩
   replace HB := Lib.hid (bnext HB.out hb)
   clear hb
   go_wp2_with fail
   refine (c2 _).out.mono ?_
   rintro e w2 ⟨rfl, hb⟩
   replace HB := Lib.hid (bnext HB.out hb)
   clear hb
   go_wp2_with fail
   refine (c3 _).out.mono ?_
   rintro e w2 ⟨rfl, hb⟩
   replace HB := Lib.hid (bnext HB.out hb)
   clear hb
   go_wp2_with fail
   refine (c4 _).out.mono ?_
   rintro e w2 ⟨rfl, hb⟩
   replace HB := Lib.hid (bnext HB.out hb)
   clear hb
   go_wp2_with fail
   refine (c5 _).out.mono ?_
   rintro e w2 ⟨rfl, hb⟩
   replace HB := Lib.hid (bnext HB.out hb)
   clear hb
   go_wp2_with fail
   refine (c6 _).out.mono ?_
   rintro e w2 ⟨rfl, hb⟩
   replace HB := Lib.hid (bnext HB.out hb)
   clear hb
   go_wp2_with fail
   refine (c7 _).out.mono ?_
   rintro e w2 ⟨rfl, hb⟩
   replace HB := Lib.hid (bnext HB.out hb)
   clear hb
   go_wp2_with fail
   go_ret
   exact ⟨rfl, HB.out⟩
 ·have c3 := fun w => Lib.hid (implMf_no s t y w h)
  unfold pfNo at c3
  have c1 := fun w => Lib.hid (mh_impl x s t y _ false false (fun w => (c3 w).out) (fun h => by cases h) w)
  have c2 : ∀ w, Hid (Calls Tryz.prog 15 #[.string x, .string s, .string t, .string y] w fun e w' => e = .returned (.bool false) ∧ Below w.heap.size w w') := fun w => by
   obtain ⟨b, hb, hc⟩ := ready_any s t y (by unfold maxLen; omega)
   obtain rfl : b = false := by cases b with | false => rfl | true => exact absurd (hb.1 rfl) h
   exact Lib.hid (mh_spec x s t y _ false false (fun w => specMf_no y s t w hc) (fun h => by cases h) w)
  clear h hx
  go_wp2_with fail
  refine (c1 _).out.mono ?_
  rintro e w2 ⟨rfl, hb⟩
  replace HB := Lib.hid (bnext HB.out hb)
  clear hb
  go_wp2_with fail
  refine (c2 _).out.mono ?_
  rintro e w2 ⟨rfl, hb⟩
  replace HB := Lib.hid (bnext HB.out hb)
  clear hb
  go_wp2_with fail
  refine (c3 _).out.mono ?_
  rintro e w2 ⟨rfl, hb⟩
  replace HB := Lib.hid (bnext HB.out hb)
  clear hb
  go_wp2_with fail
  go_ret
  exact ⟨rfl, HB.out⟩
theorem Tryz.own : ownKnob Tryz.prog.godebug = none := by kernel_rfl
theorem laidOut : laidOutB Tryz.prog = true := by kernel_rfl
set_option linter.unusedVariables false in
set_option maxRecDepth 100000 in
set_option maxHeartbeats 2000000 in
theorem lifted (os : Os) (started : os.Started) (H : Type) (enc : TypeId × Value → H) :
  ReturnsInHanded {} Tryz.checked os 10 .any (fun w args => (Rows.fnMatchHoldsSpec.pre enc Tryz.prog Tryz.f10 Rows.fnMatchHoldsRow.domain false w args ∧ laidMetH Tryz.prog Rows.fnMatchHoldsRow.laid w) ∧ sizedMet enc Tryz.prog Tryz.f10 (OpenSpec.ofChange Rows.fnMatchHoldsSpec) false w args)
   (Rows.fnMatchHoldsSpec.post enc Tryz.prog Tryz.f10 false true false false) := by
 refine returnsInHanded_of_change_and (C := Tryz.checked) (X := fun w _ => laidMetH Tryz.prog Rows.fnMatchHoldsRow.laid w) (fun _ _ _ hh h => h.of_heap hh) Tryz.own started (by kernel_rfl) Tryz.func10
  (ChangeSpec.witness_shaped (enc := enc) (C := Tryz.checked) (os := os) (X := fun w _ => laidMetH Tryz.prog Rows.fnMatchHoldsRow.laid w) false (World.laidAll Tryz.prog os Rows.fnMatchHoldsRow.laid) #[.slice none 0 0] 8 (World.laidAll_os _ _ _)
   (World.shaped_of_ZipB (by kernel_rfl) (by kernel_rfl)) (by kernel_rfl) (by kernel_rfl) (by kernel_rfl)
   (by rw [MakeChecks.laidMetH_plain _ _ _ (by kernel_rfl)]; exact laidMet_laidAll _ (by kernel_rfl) (by kernel_rfl))) ?_
 intro W base args ds gs before hval0 hW _ _ hL _
 have hval : ∀ (j : Nat) t v, Tryz.f10.params[j]? = some t → args[j]? = some v → Value.okWide Tryz.prog W .any base t v := hval0
 have hW' := hW
 obtain ⟨p, q, hA0, hV, rfl, _, _⟩ := hW
 have hA : DataW.TrodAll enc Tryz.prog W 0 (fun _ => true) true Tryz.f10.params.toList args.toList ds p := hA0
 rw [Tryz.params10] at hA hval
 obtain ⟨v0, vs0, d0, ds0, p0, q0, hargs, rfl, rfl, h0, r0⟩ := trodAll_cons hA
 obtain ⟨rfl, rfl, rfl⟩ := trodAll_nil r0
 obtain rfl : args = #[v0] := by cases args; simp_all
 obtain ⟨rfl, rfl⟩ := trodVars_none hV
 obtain ⟨a0, len0, cap0, rfl⟩ := okWide_slice Tryz.underlying32 (hval 0 32 v0 rfl rfl)
 have k0 := h0
 have lt0 : ∀ x ∈ p0, x.block < W.heap.size := by obtain ⟨m, hm⟩ := k0; exact DataW.trod_lt m _ _ _ hm
 obtain ⟨z0, w0⟩ : ∃ zs, IsRow W a0 len0 cap0 zs := by
  obtain ⟨fuel, hf⟩ := h0
  rcases open_ints Tryz.underlying32 Tryz.underlying5 (by kernel_rfl) hf with ⟨hcs, _⟩ | ⟨x, l, c, zs, hcs, _, hl, hm, hz, _, hcell, hwz⟩
  ·simp [Value.cells] at hcs
   obtain ⟨rfl, rfl, rfl⟩ := hcs
   exact ⟨[], .inl ⟨rfl, rfl, rfl, rfl⟩⟩
  ·simp [Value.cells] at hcs
   obtain ⟨rfl, rfl, rfl⟩ := hcs
   exact ⟨zs, .inr ⟨_, rfl, hl, hm, by simpa using hz, hcell, hwz⟩⟩
 clear hA0 hval0
 refine (walkMatchHolds W w0).mono fun e W' ⟨he, bel⟩ => ?_
 subst he
 exact ⟨_, rfl, _, _, _, [], _, [], hW', trodAll_mk1 (shut_bool Tryz.underlying4 _), (trodAll_cons_mk (Below.trod laidOut (by kernel_rfl) (of_decide_eq_true (by kernel_rfl)) k0 bel lt0) trodAll_mk0), rfl, bel.frame _, fun h => by cases h⟩
-- each of the three walks over the program by itself: together they are too much for the kernel's memory
theorem jf1 : (Rows.fnMatchHoldsRow.inPlace == Tryz.prog.inPlace 10) = true := by kernel_rfl
theorem jf2 : (Rows.fnMatchHoldsRow.unfollowed == Tryz.prog.unfollowed 10) = true := by kernel_rfl
theorem jf3 : (Rows.fnMatchHoldsRow.recurses == Tryz.prog.recurses 10) = true := by kernel_rfl
theorem jf4 : (Rows.fnMatchHoldsRow.named == Tryz.prog.varsNamed 10) = true := by kernel_rfl
theorem jf5 : laidOutB Tryz.prog = true := by kernel_rfl
theorem jf6 : mapsRowed Tryz.prog = true := by kernel_rfl
theorem jf7 : Tryz.prog.stopsHeard = true := by kernel_rfl
theorem jg : false = (Rows.fnMatchHoldsRow).goesBy Tryz.pinned.checked.prog := by kernel_rfl
theorem closed : joinedFacts Tryz.prog 10 Tryz.f10 Rows.fnMatchHoldsSpec Rows.fnMatchHoldsRow = true := by
 unfold joinedFacts
 rw [jf1, jf2, jf3, jf4, jf5, jf6, jf7]
 kernel_rfl
theorem said : Rows.FnMatchHoldsSaid :=
 OpenClaim.holds_of_wide 10 Tryz.f10 rfl rfl rfl rfl rfl rfl rfl ⟨rfl, rfl, rfl, rfl, rfl⟩ rfl rfl rfl rfl rfl (by kernel_rfl) Tryz.func10 closed
  (of_decide_eq_true (by kernel_rfl)) (by unfold Func.isWrapper; first | (rw [if_pos (by decide +kernel)]; kernel_rfl) | (rw [if_neg (by decide +kernel)]; exact ⟨rfl, rfl⟩))
  (fun os started H enc _ => by rw [OpenClaim.pre_eq_preRow]; exact lifted os started H enc)
theorem plain (f : FuncId) (fn : Func) (hf : Tryz.pinned.checked.prog.funcNamed Rows.fnMatchHoldsRow.func = some f) (hfn : Tryz.pinned.checked.prog.funcs[f]? = some fn) :
  true = Tryz.pinned.checked.prog.looks [] ∧ ∀ (j : Nat) t, fn.params[j]? = some t → Tryz.pinned.checked.prog.wantsStandIn t = false := by
 obtain rfl : f = 10 := Option.some.inj ((show Tryz.prog.funcNamed Rows.fnMatchHoldsRow.func = some 10 by kernel_rfl).symm.trans hf) |>.symm
 obtain rfl : fn = Tryz.f10 := (Option.some.inj (Tryz.func10.symm.trans hfn)).symm
 refine ⟨by kernel_rfl, fun j t ht => ?_⟩
 rw [Tryz.params10] at ht
 obtain rfl : t = 32 := by
  have := Array.mem_of_getElem? ht
  simpa using this
 exact (show Tryz.prog.wantsStandIn 32 = false by kernel_rfl)
theorem matchHolds_card : Rows.FnMatchHoldsCardSaid :=
 Claim7.holds_tied_plain_at .later [] _ _ _ _ said (fun _ h => by cases h) (by kernel_rfl) (fun _ h => by cases h) fnMatchHolds_row_tie rfl ⟨rfl, rfl⟩ (by kernel_rfl) rfl plain jg
#print axioms matchHolds_card
end Go.Proofs.YtlhmdpkenkibiaaGreatDoor
