import Derived.Test.YtlhmdpkenkibiaaGreatDoorCards
import Derived.Test.YtlhmdpkenkibiaaGreatDoorTie
import Derived.Test.YtlhmdpkenkibiaaGreatDoorSure
import Derived.Test.YtlhmdpkenkibiaaGreatDoorTopG2
import Derived.Test.YtlhmdpkenkibiaaGreatDoorPpr
import Derived.Test.YtlhmdpkenkibiaaGreatDoorEit
import Derived.Deep.RegionHeld3
import Derived.ProofKit
import Derived.ChangeOld
import Derived.Deep.DeepHandedRow
import Derived.Lib.SmallJoins
import Derived.ChangeSame
import Derived.JoinedOf
import Derived.JoinedAt
import Derived.RowKit3
import Derived.ShutString
import Derived.OpenShut
import Derived.LaidMore
import Derived.Lay
import Derived.SevenTiedAt
import Derived.Stop.Joined
namespace Go.Proofs.YtlhmdpkenkibiaaGreatDoor
open Go.ChangeShapes Go.WideShapes Go.ChangeAt Go.RowKit Go.Joins
open Go.WideMaps Go.WideElems Tm
open Go.ChangeMaps (open_string shut_string)
open Go.Great
theorem rel_max8 (F : Nat → Nat → Bool) : (bs (relT F)).size ≤ maxLen := by rw [(rel729_bs F).size]; decide
theorem etB_iff {p q : Pg} {F : Nat → Nat → Bool} : etB p q F = true ↔ ∀ i, i < 27 → ∀ j, j < 27 → F i j = true → seS p i = seS q j := by
 unfold etB
 rw [relEq_iff]
 constructor
 ·intro h i hi j hj hf
  have := h i hi j hj
  rw [hf, Bool.true_and] at this
  unfold etR at this
  cases hs : seS p i <;> cases ht : seS q j <;> rw [hs, ht] at this <;> simp_all
 ·intro h i hi j hj
  cases hf : F i j with
  | false => rfl
  | true =>
   have := h i hi j hj hf
   unfold etR
   cases hs : seS p i <;> cases ht : seS q j <;> rw [hs, ht] at this <;> simp_all
noncomputable def bothR (p q : Pg) : Nat → Nat → Bool := fun i j => (seS p i && seS q j) || ((!seS p i) && (!seS q j))
theorem et_in (p q : Pg) (F : Nat → Nat → Bool) : inR F (bothR p q) = etB p q F := by
 rw [Bool.eq_iff_iff, inR_iff, etB_iff]
 constructor
 ·intro h i hi j hj hf
  have := h i hi j hj hf
  unfold bothR at this
  cases hs : seS p i <;> cases ht : seS q j <;> rw [hs, ht] at this <;> simp_all
 ·intro h i hi j hj hf
  have := h i hi j hj hf
  unfold bothR
  cases hs : seS p i <;> cases ht : seS q j <;> rw [hs, ht] at this <;> simp_all
theorem et_turn (p q : Pg) (F : Nat → Nat → Bool) : etB q p (turnR F) = etB p q F := by
 rw [Bool.eq_iff_iff, etB_iff, etB_iff]
 exact ⟨fun h i hi j hj hf => (h j hj i hi hf).symm, fun h i hi j hj hf => (h j hj i hi hf).symm⟩
theorem et_same (p : Pg) : etB p p idR = true := etB_iff.2 fun i _ j _ hf => by
 have : i = j := by simpa [idR] using hf
 rw [this]
theorem et_at (p q : Pg) (F : Nat → Nat → Bool) (hp : p.ok false) (lp : p.ser.length ≤ 200) (hq : q.ok false) (lq : q.ser.length ≤ 200) : Gives 44 #[.string (bs (relT F)), .string (bs p.ser), .string (bs q.ser)] (.bool (etB p q F)) := fun w => by
 have h := implEt_yes (bs (relT F)) (bs p.ser) (bs q.ser) w hp (by simp [bs]) (by rw [bs_size]; exact lp) hq (by simp [bs]) (by rw [bs_size]; exact lq) (rel729_bs F)
 have e : etB p q (relS (bs (relT F)).data.toList) = etB p q F := by
  rw [Bool.eq_iff_iff, etB_iff, etB_iff]
  exact ⟨fun h i hi j hj hf => h i hi j hj (by rw [relS_bs F hi hj]; exact hf), fun h i hi j hj hf => h i hi j hj (by rw [← relS_bs F hi hj]; exact hf)⟩
 rw [e] at h
 exact Lib.hid h
theorem et_facts (x s t : ByteArray) (h : PV s ∧ PV t ∧ Rel729 x) : ∃ (b : Bool) (a1 a2 n1 n2 r1 r2 r3 x2 sm : ByteArray),
  Gives 44 #[.string x, .string s, .string t] (.bool b) ∧ Gives 45 #[.string x, .string s, .string t] (.bool b) ∧
  Gives 32 #[.string x] (.bool true) ∧ Gives 46 #[.string s] (.bool true) ∧ Gives 46 #[.string t] (.bool true) ∧
  Gives 47 #[.string s] (.tuple #[.string a1, .bool true]) ∧ Gives 47 #[.string t] (.tuple #[.string a2, .bool true]) ∧
  Gives 37 #[.string a1, .string a2] (.string r1) ∧ Gives 48 #[.string a1] (.string n1) ∧ Gives 48 #[.string a2] (.string n2) ∧
  Gives 37 #[.string n1, .string n2] (.string r2) ∧ Gives 41 #[.string r1, .string r2] (.string r3) ∧
  Gives 33 #[.string x, .string r3] (.bool b) ∧ Gives 49 #[.string x] (.string x2) ∧ Gives 44 #[.string x2, .string t, .string s] (.bool b) ∧
  Gives 42 #[.string ⟨#[38, 61, 120, 88, 38, 61, 121, 89, 61, 122, 90]⟩] (.string sm) ∧ Gives 44 #[.string sm, .string s, .string s] (.bool true) := by
 obtain ⟨⟨⟨p, hp, hs⟩, hl⟩, ⟨⟨q, hq, ht⟩, hn⟩, hr⟩ := h
 obtain rfl := bs_ofP hs
 obtain rfl := bs_ofP ht
 have lp : p.ser.length ≤ 200 := by rwa [bs_size] at hl
 have lq : q.ser.length ≤ 200 := by rwa [bs_size] at hn
 have ex := rel_bs hr
 generalize relS x.data.toList = F at ex
 subst ex
 have hsame := et_at p p idR hp lp hp lp
 rw [et_same] at hsame
 have hturn := et_at q p (turnR F) hq lq hp lp
 rw [et_turn] at hturn
 have hin := iWithin F (bothR p q)
 rw [et_in] at hin
 have hsp : Gives 45 #[.string (bs (relT F)), .string (bs p.ser), .string (bs q.ser)] (.bool (etB p q F)) := fun w => by
  obtain ⟨b, hb, hc⟩ := ready_any (bs p.ser) (bs q.ser) (bs (relT F)) (rel_max8 F)
  obtain rfl := hb.2 ⟨⟨⟨p, hp, hs⟩, hl⟩, ⟨⟨q, hq, ht⟩, hn⟩, hr⟩
  have h := specEt_yes p q (bs (relT F)) w hp lp hq lq hr hc
  have e : etB p q (relS (bs (relT F)).data.toList) = etB p q F := by
   rw [Bool.eq_iff_iff, etB_iff, etB_iff]
   exact ⟨fun h i hi j hj hf => h i hi j hj (by rw [relS_bs F hi hj]; exact hf), fun h i hi j hj hf => h i hi j hj (by rw [← relS_bs F hi hj]; exact hf)⟩
  rw [e] at h
  exact Lib.hid h
 exact ⟨etB p q F, bs (tb (seS p)), bs (tb (seS q)), _, _, _, _, _, _, _, et_at p q F hp lp hq lq, hsp, iValid8 F, fun w => Lib.hid (implPV_yes _ w hp hs hl), fun w => Lib.hid (implPV_yes _ w hq ht hn),
  fun w => Lib.hid (implSure_yes _ w hp hs hl), fun w => Lib.hid (implSure_yes _ w hq ht hn), fun w => Lib.hid (pairs_any _ _ w), ppNot_t _, ppNot_t _, fun w => Lib.hid (pairs_any _ _ w), ppOrRel_of (iOr _ _),
  hin, ppTurn_of (iTurn F), hturn, ppSame_t, hsame⟩
set_option maxRecDepth 100000 in
set_option maxHeartbeats 16000000 in
theorem walkEndTogether {a0 : Option Addr} {len0 cap0 : Nat} {z0 : List Int} (w : World) (h0 : IsRow w a0 len0 cap0 z0) :
  Calls Tryz.prog 11 #[.slice a0 len0 cap0] w fun e w' => e = .returned (.bool true) ∧ Below w.heap.size w w' := by
 have DD := Lib.hid (drawEndTogether h0)
 clear h0
 by_cases hl : (1048576 : Int) < len0
 ·go_enter Tryz.func11, Tryz.ntmps11
  go_wp2_with fail
  go_ret
  exact ⟨rfl, Below.refl _ _⟩
 go_enter Tryz.func11, Tryz.ntmps11
 go_wp2_with fail
 refine DD.out.mono ?_
 rintro e w1 ⟨x, s, t, lx, ls, lt, rfl, hb⟩
 have HB := Lib.hid hb
 clear hb DD
 by_cases h : PV s ∧ PV t ∧ Rel729 x
 ·obtain ⟨b, a1, a2, n1, n2, r1, r2, r3, x2, sm, c1, c2, c3, c4, c5, c6, c7, c8, c9, c10, c11, c12, c13, c14, c15, c16, c17⟩ := et_facts x s t h
  clear h
  unfold Gives at c1 c2 c3 c4 c5 c6 c7 c8 c9 c10 c11 c12 c13 c14 c15 c16 c17
  cases b
  ·go_wp2_with fail
   refine (c1 _).out.mono ?_
   rintro e w2 ⟨rfl, hb⟩
   replace HB := Lib.hid (bnext HB.out hb)
   clear hb
   go_wp2_with fail
   refine (c2 _).out.mono ?_
   rintro e w2 ⟨rfl, hb⟩
   replace HB := Lib.hid (bnext HB.out hb)
   clear hb
   go_wp2_with fail
   refine (c3 _).out.mono ?_
   rintro e w2 ⟨rfl, hb⟩
   replace HB := Lib.hid (bnext HB.out hb)
   clear hb
   go_wp2_with fail
   refine (c4 _).out.mono ?_
   rintro e w2 ⟨rfl, hb⟩
   replace HB := Lib.hid (bnext HB.out hb)
   clear hb
   go_wp2_with fail
   refine (c5 _).out.mono ?_
   rintro e w2 ⟨rfl, hb⟩
   replace HB := Lib.hid (bnext HB.out hb)
   clear hb
   go_wp2_with fail
   refine (c6 _).out.mono ?_
   rintro e w2 ⟨rfl, hb⟩
   replace HB := Lib.hid (bnext HB.out hb)
   clear hb
   go_wp2_with fail
   refine (c7 _).out.mono ?_
   rintro e w2 ⟨rfl, hb⟩
   replace HB := Lib.hid (bnext HB.out hb)
   clear hb
   go_wp2_with fail
   refine (c8 _).out.mono ?_
   rintro e w2 ⟨rfl, hb⟩
   replace HB := Lib.hid (bnext HB.out hb)
   clear hb
   go_wp2_with fail
   refine (c9 _).out.mono ?_
   rintro e w2 ⟨rfl, hb⟩
   replace HB := Lib.hid (bnext HB.out hb)
   clear hb
   go_wp2_with fail
   refine (c10 _).out.mono ?_
   rintro e w2 ⟨rfl, hb⟩
   replace HB := Lib.hid (bnext HB.out hb)
   clear hb
   go_wp2_with fail
   refine (c11 _).out.mono ?_
   rintro e w2 ⟨rfl, hb⟩
   replace HB := Lib.hid (bnext HB.out hb)
   clear hb
   go_wp2_with fail
   refine (c12 _).out.mono ?_
   rintro e w2 ⟨rfl, hb⟩
   replace HB := Lib.hid (bnext HB.out hb)
   clear hb
   go_wp2_with fail
   refine (c13 _).out.mono ?_
   rintro e w2 ⟨rfl, hb⟩
   replace HB := Lib.hid (bnext HB.out hb)
   clear hb
   go_wp2_with fail
   refine (c14 _).out.mono ?_
   rintro e w2 ⟨rfl, hb⟩
   replace HB := Lib.hid (bnext HB.out hb)
   clear hb
   go_wp2_with fail
   refine (c15 _).out.mono ?_
   rintro e w2 ⟨rfl, hb⟩
   replace HB := Lib.hid (bnext HB.out hb)
   clear hb
   go_wp2_with fail
   refine (c16 _).out.mono ?_
   rintro e w2 ⟨rfl, hb⟩
   replace HB := Lib.hid (bnext HB.out hb)
   clear hb
   go_wp2_with fail
   refine (c17 _).out.mono ?_
   rintro e w2 ⟨rfl, hb⟩
   replace HB := Lib.hid (bnext HB.out hb)
   clear hb
   go_wp2_with fail
   go_ret
   exact ⟨rfl, HB.out⟩
  ·go_wp2_with fail
   refine (c1 _).out.mono ?_
   rintro e w2 ⟨rfl, hb⟩
   replace HB := Lib.hid (bnext HB.out hb)
   clear hb
   go_wp2_with fail
   refine (c2 _).out.mono ?_
   rintro e w2 ⟨rfl, hb⟩
   replace HB := Lib.hid (bnext HB.out hb)
   clear hb
   go_wp2_with fail
   refine (c3 _).out.mono ?_
   rintro e w2 ⟨rfl, hb⟩
   replace HB := Lib.hid (bnext HB.out hb)
   clear hb
   go_wp2_with fail
   refine (c4 _).out.mono ?_
   rintro e w2 ⟨rfl, hb⟩
   replace HB := Lib.hid (bnext HB.out hb)
   clear hb
   go_wp2_with fail
   refine (c5 _).out.mono ?_
   rintro e w2 ⟨rfl, hb⟩
   replace HB := Lib.hid (bnext HB.out hb)
   clear hb
   go_wp2_with fail
   refine (c6 _).out.mono ?_
   rintro e w2 ⟨rfl, hb⟩
   replace HB := Lib.hid (bnext HB.out hb)
   clear hb
   go_wp2_with fail
   refine (c7 _).out.mono ?_
   rintro e w2 ⟨rfl, hb⟩
   replace HB := Lib.hid (bnext HB.out hb)
   clear hb
   go_wp2_with fail
   refine (c8 _).out.mono ?_
   rintro e w2 ⟨rfl, hb⟩
   replace HB := Lib.hid (bnext HB.out hb)
   clear hb
   go_wp2_with fail
   refine (c9 _).out.mono ?_
   rintro e w2 ⟨rfl, hb⟩
   replace HB := Lib.hid (bnext HB.out hb)
   clear hb
   go_wp2_with fail
   refine (c10 _).out.mono ?_
   rintro e w2 ⟨rfl, hb⟩
   replace HB := Lib.hid (bnext HB.out hb)
   clear hb
   go_wp2_with fail
   refine (c11 _).out.mono ?_
   rintro e w2 ⟨rfl, hb⟩
   replace HB := Lib.hid (bnext HB.out hb)
   clear hb
   go_wp2_with fail
   refine (c12 _).out.mono ?_
   rintro e w2 ⟨rfl, hb⟩
   replace HB := Lib.hid (bnext HB.out hb)
   clear hb
   go_wp2_with fail
   refine (c13 _).out.mono ?_
   rintro e w2 ⟨rfl, hb⟩
   replace HB := Lib.hid (bnext HB.out hb)
   clear hb
   go_wp2_with fail
   refine (c14 _).out.mono ?_
   rintro e w2 ⟨rfl, hb⟩
   replace HB := Lib.hid (bnext HB.out hb)
   clear hb
   go_wp2_with fail
   refine (c15 _).out.mono ?_
   rintro e w2 ⟨rfl, hb⟩
   replace HB := Lib.hid (bnext HB.out hb)
   clear hb
   go_wp2_with fail
   refine (c16 _).out.mono ?_
   rintro e w2 ⟨rfl, hb⟩
   replace HB := Lib.hid (bnext HB.out hb)
   clear hb
   go_wp2_with fail
   refine (c17 _).out.mono ?_
   rintro e w2 ⟨rfl, hb⟩
   replace HB := Lib.hid (bnext HB.out hb)
   clear hb
   go_wp2_with fail
   go_ret
   exact ⟨rfl, HB.out⟩
 ·have c1 : ∀ w, Hid (Calls Tryz.prog 44 #[.string x, .string s, .string t] w fun e w' => e = .returned (.bool false) ∧ Below w.heap.size w w') := fun w => Lib.hid (implEt_no x s t w h)
  have c2 : ∀ w, Hid (Calls Tryz.prog 45 #[.string x, .string s, .string t] w fun e w' => e = .returned (.bool false) ∧ Below w.heap.size w w') := fun w => by
   obtain ⟨b, hb, hc⟩ := ready_any s t x (by unfold maxLen; omega)
   obtain rfl : b = false := by cases b with | false => rfl | true => exact absurd (hb.1 rfl) h
   exact Lib.hid (specEt_no x s t w hc)
  by_cases hx : Rel729 x
  ·have c3 : ∀ w, Hid (Calls Tryz.prog 32 #[.string x] w fun e w' => e = .returned (.bool true) ∧ Below w.heap.size w w') := fun w => Lib.hid (by have h := implRelValid_yes x hx w; unfold BoolIs at h; exact h)
   by_cases hs : PV s
   ·have ht : ¬ PV t := fun k => h ⟨hs, k, hx⟩
    obtain ⟨⟨p, hp, he⟩, hlp⟩ := hs
    have c4 := fun w => Lib.hid (implPV_yes s w hp he hlp)
    have c5 := fun w => Lib.hid (implPV_no t w ht)
    clear h ht hp he hlp hx
    go_wp2_with fail
    refine (c1 _).out.mono ?_
    rintro e w2 ⟨rfl, hb⟩
    replace HB := Lib.hid (bnext HB.out hb)
    clear hb
    go_wp2_with fail
    refine (c2 _).out.mono ?_
    rintro e w2 ⟨rfl, hb⟩
    replace HB := Lib.hid (bnext HB.out hb)
    clear hb
    go_wp2_with fail
    refine (c3 _).out.mono ?_
    rintro e w2 ⟨rfl, hb⟩
    replace HB := Lib.hid (bnext HB.out hb)
    clear hb
    go_wp2_with fail
    refine (c4 _).out.mono ?_
    rintro e w2 ⟨rfl, hb⟩
    replace HB := Lib.hid (bnext HB.out hb)
    clear hb
    go_wp2_with fail
    refine (c5 _).out.mono ?_
    rintro e w2 ⟨rfl, hb⟩
    replace HB := Lib.hid (bnext HB.out hb)
    clear hb
    go_wp2_with fail
    refine (c2 _).out.mono ?_
    rintro e w2 ⟨rfl, hb⟩
    replace HB := Lib.hid (bnext HB.out hb)
    clear hb
    go_wp2_with fail
    go_ret
    exact ⟨rfl, HB.out⟩
   ·have c4 := fun w => Lib.hid (implPV_no s w hs)
    clear h hs hx
    go_wp2_with fail
    refine (c1 _).out.mono ?_
    rintro e w2 ⟨rfl, hb⟩
    replace HB := Lib.hid (bnext HB.out hb)
    clear hb
    go_wp2_with fail
    refine (c2 _).out.mono ?_
    rintro e w2 ⟨rfl, hb⟩
    replace HB := Lib.hid (bnext HB.out hb)
    clear hb
    go_wp2_with fail
    refine (c3 _).out.mono ?_
    rintro e w2 ⟨rfl, hb⟩
    replace HB := Lib.hid (bnext HB.out hb)
    clear hb
    go_wp2_with fail
    refine (c4 _).out.mono ?_
    rintro e w2 ⟨rfl, hb⟩
    replace HB := Lib.hid (bnext HB.out hb)
    clear hb
    go_wp2_with fail
    refine (c2 _).out.mono ?_
    rintro e w2 ⟨rfl, hb⟩
    replace HB := Lib.hid (bnext HB.out hb)
    clear hb
    go_wp2_with fail
    go_ret
    exact ⟨rfl, HB.out⟩
  ·have c3 : ∀ w, Hid (Calls Tryz.prog 32 #[.string x] w fun e w' => e = .returned (.bool false) ∧ Below w.heap.size w w') := fun w => Lib.hid (by have h := implRelValid_no x hx w; unfold BoolIs at h; exact h)
   clear h hx
   go_wp2_with fail
   refine (c1 _).out.mono ?_
   rintro e w2 ⟨rfl, hb⟩
   replace HB := Lib.hid (bnext HB.out hb)
   clear hb
   go_wp2_with fail
   refine (c2 _).out.mono ?_
   rintro e w2 ⟨rfl, hb⟩
   replace HB := Lib.hid (bnext HB.out hb)
   clear hb
   go_wp2_with fail
   refine (c3 _).out.mono ?_
   rintro e w2 ⟨rfl, hb⟩
   replace HB := Lib.hid (bnext HB.out hb)
   clear hb
   go_wp2_with fail
   refine (c2 _).out.mono ?_
   rintro e w2 ⟨rfl, hb⟩
   replace HB := Lib.hid (bnext HB.out hb)
   clear hb
   go_wp2_with fail
   go_ret
   exact ⟨rfl, HB.out⟩
theorem Tryz.own : ownKnob Tryz.prog.godebug = none := by kernel_rfl
theorem laidOut : laidOutB Tryz.prog = true := by kernel_rfl
set_option linter.unusedVariables false in
set_option maxRecDepth 100000 in
set_option maxHeartbeats 2000000 in
theorem lifted (os : Os) (started : os.Started) (H : Type) (enc : TypeId × Value → H) :
  ReturnsInHanded {} Tryz.checked os 11 .any (fun w args => (Rows.fnEndTogetherSpec.pre enc Tryz.prog Tryz.f11 Rows.fnEndTogetherRow.domain false w args ∧ laidMetH Tryz.prog Rows.fnEndTogetherRow.laid w) ∧ sizedMet enc Tryz.prog Tryz.f11 (OpenSpec.ofChange Rows.fnEndTogetherSpec) false w args)
   (Rows.fnEndTogetherSpec.post enc Tryz.prog Tryz.f11 false true false false) := by
 refine returnsInHanded_of_change_and (C := Tryz.checked) (X := fun w _ => laidMetH Tryz.prog Rows.fnEndTogetherRow.laid w) (fun _ _ _ hh h => h.of_heap hh) Tryz.own started (by kernel_rfl) Tryz.func11
  (ChangeSpec.witness_shaped (enc := enc) (C := Tryz.checked) (os := os) (X := fun w _ => laidMetH Tryz.prog Rows.fnEndTogetherRow.laid w) false (World.laidAll Tryz.prog os Rows.fnEndTogetherRow.laid) #[.slice none 0 0] 8 (World.laidAll_os _ _ _)
   (World.shaped_of_ZipB (by kernel_rfl) (by kernel_rfl)) (by kernel_rfl) (by kernel_rfl) (by kernel_rfl)
   (by rw [MakeChecks.laidMetH_plain _ _ _ (by kernel_rfl)]; exact laidMet_laidAll _ (by kernel_rfl) (by kernel_rfl))) ?_
 intro W base args ds gs before hval0 hW _ _ hL _
 have hval : ∀ (j : Nat) t v, Tryz.f11.params[j]? = some t → args[j]? = some v → Value.okWide Tryz.prog W .any base t v := hval0
 have hW' := hW
 obtain ⟨p, q, hA0, hV, rfl, _, _⟩ := hW
 have hA : DataW.TrodAll enc Tryz.prog W 0 (fun _ => true) true Tryz.f11.params.toList args.toList ds p := hA0
 rw [Tryz.params11] at hA hval
 obtain ⟨v0, vs0, d0, ds0, p0, q0, hargs, rfl, rfl, h0, r0⟩ := trodAll_cons hA
 obtain ⟨rfl, rfl, rfl⟩ := trodAll_nil r0
 obtain rfl : args = #[v0] := by cases args; simp_all
 obtain ⟨rfl, rfl⟩ := trodVars_none hV
 obtain ⟨a0, len0, cap0, rfl⟩ := okWide_slice Tryz.underlying32 (hval 0 32 v0 rfl rfl)
 have k0 := h0
 have lt0 : ∀ x ∈ p0, x.block < W.heap.size := by obtain ⟨m, hm⟩ := k0; exact DataW.trod_lt m _ _ _ hm
 obtain ⟨z0, w0⟩ : ∃ zs, IsRow W a0 len0 cap0 zs := by
  obtain ⟨fuel, hf⟩ := h0
  rcases open_ints Tryz.underlying32 Tryz.underlying5 (by kernel_rfl) hf with ⟨hcs, _⟩ | ⟨x, l, c, zs, hcs, _, hl, hm, hz, _, hcell, hwz⟩
  ·simp [Value.cells] at hcs
   obtain ⟨rfl, rfl, rfl⟩ := hcs
   exact ⟨[], .inl ⟨rfl, rfl, rfl, rfl⟩⟩
  ·simp [Value.cells] at hcs
   obtain ⟨rfl, rfl, rfl⟩ := hcs
   exact ⟨zs, .inr ⟨_, rfl, hl, hm, by simpa using hz, hcell, hwz⟩⟩
 clear hA0 hval0
 refine (walkEndTogether W w0).mono fun e W' ⟨he, bel⟩ => ?_
 subst he
 exact ⟨_, rfl, _, _, _, [], _, [], hW', trodAll_mk1 (shut_bool Tryz.underlying4 _), (trodAll_cons_mk (Below.trod laidOut (by kernel_rfl) (of_decide_eq_true (by kernel_rfl)) k0 bel lt0) trodAll_mk0), rfl, bel.frame _, fun h => by cases h⟩
-- each of the three walks over the program by itself: together they are too much for the kernel's memory
theorem jf1 : (Rows.fnEndTogetherRow.inPlace == Tryz.prog.inPlace 11) = true := by kernel_rfl
theorem jf2 : (Rows.fnEndTogetherRow.unfollowed == Tryz.prog.unfollowed 11) = true := by kernel_rfl
theorem jf3 : (Rows.fnEndTogetherRow.recurses == Tryz.prog.recurses 11) = true := by kernel_rfl
theorem jf4 : (Rows.fnEndTogetherRow.named == Tryz.prog.varsNamed 11) = true := by kernel_rfl
theorem jf5 : laidOutB Tryz.prog = true := by kernel_rfl
theorem jf6 : mapsRowed Tryz.prog = true := by kernel_rfl
theorem jf7 : Tryz.prog.stopsHeard = true := by kernel_rfl
theorem jg : false = (Rows.fnEndTogetherRow).goesBy Tryz.pinned.checked.prog := by kernel_rfl
theorem closed : joinedFacts Tryz.prog 11 Tryz.f11 Rows.fnEndTogetherSpec Rows.fnEndTogetherRow = true := by
 unfold joinedFacts
 rw [jf1, jf2, jf3, jf4, jf5, jf6, jf7]
 kernel_rfl
theorem said : Rows.FnEndTogetherSaid :=
 OpenClaim.holds_of_wide 11 Tryz.f11 rfl rfl rfl rfl rfl rfl rfl ⟨rfl, rfl, rfl, rfl, rfl⟩ rfl rfl rfl rfl rfl (by kernel_rfl) Tryz.func11 closed
  (of_decide_eq_true (by kernel_rfl)) (by unfold Func.isWrapper; first | (rw [if_pos (by decide +kernel)]; kernel_rfl) | (rw [if_neg (by decide +kernel)]; exact ⟨rfl, rfl⟩))
  (fun os started H enc _ => by rw [OpenClaim.pre_eq_preRow]; exact lifted os started H enc)
theorem plain (f : FuncId) (fn : Func) (hf : Tryz.pinned.checked.prog.funcNamed Rows.fnEndTogetherRow.func = some f) (hfn : Tryz.pinned.checked.prog.funcs[f]? = some fn) :
  true = Tryz.pinned.checked.prog.looks [] ∧ ∀ (j : Nat) t, fn.params[j]? = some t → Tryz.pinned.checked.prog.wantsStandIn t = false := by
 obtain rfl : f = 11 := Option.some.inj ((show Tryz.prog.funcNamed Rows.fnEndTogetherRow.func = some 11 by kernel_rfl).symm.trans hf) |>.symm
 obtain rfl : fn = Tryz.f11 := (Option.some.inj (Tryz.func11.symm.trans hfn)).symm
 refine ⟨by kernel_rfl, fun j t ht => ?_⟩
 rw [Tryz.params11] at ht
 obtain rfl : t = 32 := by
  have := Array.mem_of_getElem? ht
  simpa using this
 exact (show Tryz.prog.wantsStandIn 32 = false by kernel_rfl)
theorem endTogether_card : Rows.FnEndTogetherCardSaid :=
 Claim7.holds_tied_plain_at .later [] _ _ _ _ said (fun _ h => by cases h) (by kernel_rfl) (fun _ h => by cases h) fnEndTogether_row_tie rfl ⟨rfl, rfl⟩ (by kernel_rfl) rfl plain jg
#print axioms endTogether_card
end Go.Proofs.YtlhmdpkenkibiaaGreatDoor
