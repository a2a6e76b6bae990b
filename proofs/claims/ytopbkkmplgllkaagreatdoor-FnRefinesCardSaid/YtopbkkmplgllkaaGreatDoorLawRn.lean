/-
  The law of refinement is true at all bytes: no condition. The card.
-/
import Derived.Test.YtopbkkmplgllkaaGreatDoorCards
import Derived.Test.YtopbkkmplgllkaaGreatDoorTie
import Derived.Test.YtopbkkmplgllkaaGreatDoorFct
import Derived.Deep.RegionHeld3
import Derived.ProofKit
import Derived.ChangeOld
import Derived.Deep.DeepHandedRow
import Derived.Lib.SmallJoins
import Derived.ChangeSame
import Derived.JoinedOf
import Derived.JoinedAt
import Derived.RowKit3
import Derived.ShutString
import Derived.OpenShut
import Derived.LaidMore
import Derived.Lay
import Derived.SevenTiedAt
import Derived.Stop.Joined
namespace Go.Proofs.YtopbkkmplgllkaaGreatDoor
open Go.ChangeShapes Go.WideShapes Go.ChangeAt Go.RowKit Go.Joins
open Go.WideMaps Go.WideElems Tm
open Go.ChangeMaps (open_string shut_string)
open Go.Great


theorem ref_true {u v : ByteArray} {a b : Pg} (ha : a.ok false) (hu : u.data.toList = a.ser) (lu : u.size ≤ 200) (hb : b.ok false) (hv : v.data.toList = b.ser) (lv : v.size ≤ 200) (h : Rf a b) (w : World) :
    Calls Tryz.prog 13 #[.string u, .string v] w fun e w' => e = .returned (.bool true) ∧ Below w.heap.size w w' := by
  have := implRef_yes u v w ha hu lu hb hv lv
  rwa [(rf_iff ha).2 h] at this
theorem same_is {u v : ByteArray} {a b : Pg} {r : Bool} (ha : a.ok false) (hu : u.data.toList = a.ser) (lu : u.size ≤ 200) (hb : b.ok false) (hv : v.data.toList = b.ser) (lv : v.size ≤ 200) (h : (Rf a b ∧ Rf b a) ↔ r = true) (w : World) :
    Calls Tryz.prog 8 #[.string u, .string v] w fun e w' => e = .returned (.bool r) ∧ Below w.heap.size w w' := by
  have := implSame_yes u v w ha hu lu hb hv lv
  have e : allO eqO (oc a) (oc b) = r := by rw [Bool.eq_iff_iff, sm_iff ha hb]; exact h
  rwa [e] at this
theorem ref_any2 (s t : ByteArray) : ∃ r : Bool, (∀ w, Calls Tryz.prog 13 #[.string s, .string t] w fun e w' => e = .returned (.bool r) ∧ Below w.heap.size w w') ∧ (∀ w, Calls Tryz.prog 14 #[.string s, .string t] w fun e w' => e = .returned (.bool r) ∧ Below w.heap.size w w') ∧
    (PV s → PV t → ∃ p q : Pg, (p.ok false ∧ s.data.toList = p.ser) ∧ (q.ok false ∧ t.data.toList = q.ser) ∧ (Rf p q ↔ r = true)) := by
  by_cases h : PV s ∧ PV t
  · obtain ⟨⟨⟨p, hp, hs⟩, hl⟩, ⟨q, hq, ht⟩, hm⟩ := h
    have hs' := bs_ofP hs
    have ht' := bs_ofP ht
    have lp : p.ser.length ≤ 200 := by rw [hs', bs_size] at hl; exact hl
    have lq : q.ser.length ≤ 200 := by rw [ht', bs_size] at hm; exact hm
    exact ⟨allO reO (oc p) (oc q), fun w => implRef_yes s t w hp hs hl hq ht hm, fun w => by rw [hs', ht']; exact specRef_yes p q w hp lp hq lq, fun _ _ => ⟨p, q, ⟨hp, hs⟩, ⟨hq, ht⟩, (rf_iff hp).symm⟩⟩
  · exact ⟨false, fun w => implRef_no s t w h, fun w => specRef_no s t w h, fun a b => absurd ⟨a, b⟩ h⟩
theorem rn_facts (s t c : ByteArray) (is : Bool) {p q r : Pg} (hp : p.ok false) (hs : s.data.toList = p.ser) (hq : q.ok false) (ht : t.data.toList = q.ser) (hr : r.ok false) (hc : c.data.toList = r.ser) (h180 : s.size + t.size + c.size ≤ 180) (h : Rf p q ↔ is = true) :
    (is = true → (∀ w, Calls Tryz.prog 13 #[.string ((⟨#[59]⟩ : ByteArray) ++ s ++ c), .string ((⟨#[59]⟩ : ByteArray) ++ t ++ c)] w fun e w' => e = .returned (.bool true) ∧ Below w.heap.size w w') ∧
    (∀ w, Calls Tryz.prog 13 #[.string ((⟨#[59]⟩ : ByteArray) ++ c ++ s), .string ((⟨#[59]⟩ : ByteArray) ++ c ++ t)] w fun e w' => e = .returned (.bool true) ∧ Below w.heap.size w w') ∧
    (∀ w, Calls Tryz.prog 13 #[.string ((⟨#[64, 61, 120, 49]⟩ : ByteArray) ++ s), .string ((⟨#[64, 61, 120, 49]⟩ : ByteArray) ++ t)] w fun e w' => e = .returned (.bool true) ∧ Below w.heap.size w w')) ∧
    (∀ w, Calls Tryz.prog 13 #[.string (s), .string (s)] w fun e w' => e = .returned (.bool true) ∧ Below w.heap.size w w') ∧
    (∀ w, Calls Tryz.prog 13 #[.string (s), .string ((⟨#[47]⟩ : ByteArray) ++ s ++ c)] w fun e w' => e = .returned (.bool true) ∧ Below w.heap.size w w') ∧
    (∀ w, Calls Tryz.prog 8 #[.string ((⟨#[47]⟩ : ByteArray) ++ s ++ t), .string (t)] w fun e w' => e = .returned (.bool is) ∧ Below w.heap.size w w') := by
  have sz1 : ∀ x y : ByteArray, ((⟨#[59]⟩ : ByteArray) ++ x ++ y).size = 1 + x.size + y.size := fun x y => by rw [ByteArray.size_append, ByteArray.size_append]; rfl
  have sz2 : ∀ x y : ByteArray, ((⟨#[47]⟩ : ByteArray) ++ x ++ y).size = 1 + x.size + y.size := fun x y => by rw [ByteArray.size_append, ByteArray.size_append]; rfl
  have sz4 : ∀ x : ByteArray, ((⟨#[64, 61, 120, 49]⟩ : ByteArray) ++ x).size = 4 + x.size := fun x => by rw [ByteArray.size_append]; rfl
  refine ⟨fun hi => ⟨fun w => ref_true (a := .seq p r) (b := .seq q r) ⟨hp, hr⟩ ?_ (by rw [sz1]; omega) ⟨hq, hr⟩ ?_ (by rw [sz1]; omega) ((h.2 hi).seq hp (Rf.refl r)) w,
    fun w => ref_true (a := .seq r p) (b := .seq r q) ⟨hr, hp⟩ ?_ (by rw [sz1]; omega) ⟨hr, hq⟩ ?_ (by rw [sz1]; omega) ((Rf.refl r).seq hr (h.2 hi)) w,
    fun w => ref_true (a := .whl tEq p) (b := .whl tEq q) ⟨tEq_ok, hp⟩ ?_ (by rw [sz4]; omega) ⟨tEq_ok, hq⟩ ?_ (by rw [sz4]; omega) ((h.2 hi).whl hp) w⟩,
    fun w => ref_true hp hs (by omega) hp hs (by omega) (Rf.refl p) w,
    fun w => ref_true (b := .cho p r) hp hs (by omega) ⟨hp, hr⟩ ?_ (by rw [sz2]; omega) (Rf.left p r) w,
    fun w => same_is (a := .cho p q) ⟨hp, hq⟩ ?_ (by rw [sz2]; omega) hq ht (by omega) (rf_cho.symm.trans h) w⟩
  all_goals simp [ByteArray.data_append, hs, ht, hc, Pg.ser, tEq, Tm.ser]
set_option maxHeartbeats 4000000 in
theorem drawRef {a : Option Addr} {len cap : Nat} {zs : List Int} {w : World} (h : IsRow w a len cap zs) :
    Calls Tryz.prog 12 #[.slice a len cap] w fun e w' => ∃ s t : ByteArray, s.size ≤ 100000 ∧ t.size ≤ 100000 ∧ e = .returned (.tuple #[.string s, .string t]) ∧ Below w.heap.size w w' := by
  have HO := Lib.hid (open_any h)
  clear h
  go_enter Tryz.func12, Tryz.ntmps12
  go_wp2_with fail
  refine HO.out.mono ?_
  rintro e w1 ⟨rfl, hr, hb⟩
  have HW1 := Lib.hid hb
  have HC := Lib.hid (pair10 hr (by omega))
  clear hr hb
  go_wp2_with fail
  refine HC.out.mono ?_
  rintro e w2 ⟨s, t, q, t1, t2, hq, rfl, hr, hk⟩
  have HW2 := Lib.hid (HW1.out.trans (hk.below (Nat.le_refl _) HW1.out.size))
  clear hr hk
  go_wp2_with fail
  go_ret2
  exact ⟨s, t, t1, t2, rfl, HW2.out⟩

set_option maxRecDepth 100000 in
set_option maxHeartbeats 16000000 in
theorem walkRefines {a0 : Option Addr} {len0 cap0 : Nat} {z0 : List Int} {a1 : Option Addr} {len1 cap1 : Nat} {z1 : List Int} (w : World) (h0 : IsRow w a0 len0 cap0 z0) (h1 : IsRow w a1 len1 cap1 z1) :
    Calls Tryz.prog 4 #[.slice a0 len0 cap0, .slice a1 len1 cap1] w fun e w' => e = .returned (.bool true) ∧ Below w.heap.size w w' := by
  have DD := Lib.hid (drawRef h0)
  have DM := fun w' (hb : Below w.heap.size w w') => Lib.hid (drawMayEnd (h1.kept hb))
  clear h0 h1
  by_cases hl : (1048576 : Int) < len0
  · go_enter Tryz.func4, Tryz.ntmps4
    go_wp2_with fail
    go_ret
    exact ⟨rfl, Below.refl _ _⟩
  by_cases hl2 : (1048576 : Int) < len1
  · go_enter Tryz.func4, Tryz.ntmps4
    go_wp2_with fail
    go_ret
    exact ⟨rfl, Below.refl _ _⟩
  go_enter Tryz.func4, Tryz.ntmps4
  go_wp2_with fail
  refine DD.out.mono ?_
  rintro e w1 ⟨s, t, ls, lt, rfl, hb⟩
  have HB := Lib.hid hb
  clear hb DD
  obtain ⟨is, c1, c2, hcase⟩ := ref_any2 s t
  have C1 := fun w => Lib.hid (c1 w)
  have C2 := fun w => Lib.hid (c2 w)
  have HC := Lib.hid hcase
  clear c1 c2 hcase
  go_wp2_with fail
  refine (C1 _).out.mono ?_
  rintro e w2 ⟨rfl, hb⟩
  replace HB := Lib.hid (bnext HB.out hb)
  clear hb
  have M := DM _ HB.out
  go_wp2_with fail
  refine M.out.mono ?_
  rintro e w3 ⟨c, lc, rfl, hb⟩
  replace HB := Lib.hid (bnext HB.out hb)
  clear hb M DM
  go_wp2_with fail
  refine (C2 _).out.mono ?_
  rintro e w2 ⟨rfl, hb⟩
  replace HB := Lib.hid (bnext HB.out hb)
  clear hb
  go_wp2_with fail
  by_cases hs : PV s
  · have hs0 := hs
    obtain ⟨⟨p0, hp0, he0⟩, hl0⟩ := hs0
    have VS := fun w => Lib.hid (implPV_yes s w hp0 he0 hl0)
    clear hp0 he0
    refine (VS _).out.mono ?_
    rintro e w2 ⟨rfl, hb⟩
    replace HB := Lib.hid (bnext HB.out hb)
    clear hb
    go_wp2_with fail
    by_cases ht : PV t
    · have ht0 := ht
      obtain ⟨⟨q0, hq0, he0⟩, hm0⟩ := ht0
      have VT := fun w => Lib.hid (implPV_yes t w hq0 he0 hm0)
      clear hq0 he0
      refine (VT _).out.mono ?_
      rintro e w2 ⟨rfl, hb⟩
      replace HB := Lib.hid (bnext HB.out hb)
      clear hb
      go_wp2_with fail
      by_cases hv : PValid false c.data.toList ∧ c.size ≤ 200
      · obtain ⟨⟨r, hr, hcs⟩, hcl⟩ := hv
        have VC := fun w => Lib.hid (implPV_yes c w hr hcs hcl)
        have e1 : IntKind.i64.wrap ((s.size : Int) + t.size) = s.size + t.size := IntWalk.i64_in _ (by omega)
        have e2 : IntKind.i64.wrap ((s.size : Int) + t.size + c.size) = s.size + t.size + c.size := IntWalk.i64_in _ (by omega)
        refine (VC _).out.mono ?_
        rintro e w2 ⟨rfl, hb⟩
        replace HB := Lib.hid (bnext HB.out hb)
        clear hb
        by_cases h180 : s.size + t.size + c.size ≤ 180
        · have h181 : ¬ (180 : Int) < s.size + t.size + c.size := by omega
          obtain ⟨p, q, ⟨hp, hsp⟩, ⟨hq, htq⟩, hR⟩ := HC.out hs ht
          obtain ⟨f0, f4, f5, f6⟩ := rn_facts s t c is hp hsp hq htq hr hcs h180 hR
          have F0 := Lib.hid f0
          have F4 := fun w => Lib.hid (f4 w)
          have F5 := fun w => Lib.hid (f5 w)
          have F6 := fun w => Lib.hid (f6 w)
          obtain ⟨k1, k2, k3, k4, k5, k6, k7, k8, k9, k10, k11⟩ := szx (x := s.size) (y := t.size) (z := c.size) ls lt (by omega)
          have k12 : ¬ 9223372036854775807 < 1 + s.size + t.size := by omega
          clear f0 f4 f5 f6 hp hsp hq htq hr hcs hR HC h180 hs ht
          cases is with
          | false =>
            go_wp2_with fail
            refine (F4 _).out.mono ?_
            rintro e w2 ⟨rfl, hb⟩
            replace HB := Lib.hid (bnext HB.out hb)
            clear hb
            go_wp2_with fail
            refine (F5 _).out.mono ?_
            rintro e w2 ⟨rfl, hb⟩
            replace HB := Lib.hid (bnext HB.out hb)
            clear hb
            go_wp2_with fail
            refine (F6 _).out.mono ?_
            rintro e w2 ⟨rfl, hb⟩
            replace HB := Lib.hid (bnext HB.out hb)
            clear hb
            go_wp2_with fail
            go_ret
            exact ⟨rfl, HB.out⟩
          | true =>
            obtain ⟨f1, f2, f3⟩ := F0.out rfl
            have F1 := fun w => Lib.hid (f1 w)
            have F2 := fun w => Lib.hid (f2 w)
            have F3 := fun w => Lib.hid (f3 w)
            clear f1 f2 f3 F0
            go_wp2_with fail
            refine (F1 _).out.mono ?_
            rintro e w2 ⟨rfl, hb⟩
            replace HB := Lib.hid (bnext HB.out hb)
            clear hb
            go_wp2_with fail
            refine (F2 _).out.mono ?_
            rintro e w2 ⟨rfl, hb⟩
            replace HB := Lib.hid (bnext HB.out hb)
            clear hb
            go_wp2_with fail
            refine (F3 _).out.mono ?_
            rintro e w2 ⟨rfl, hb⟩
            replace HB := Lib.hid (bnext HB.out hb)
            clear hb
            go_wp2_with fail
            refine (F4 _).out.mono ?_
            rintro e w2 ⟨rfl, hb⟩
            replace HB := Lib.hid (bnext HB.out hb)
            clear hb
            go_wp2_with fail
            refine (F5 _).out.mono ?_
            rintro e w2 ⟨rfl, hb⟩
            replace HB := Lib.hid (bnext HB.out hb)
            clear hb
            go_wp2_with fail
            refine (F6 _).out.mono ?_
            rintro e w2 ⟨rfl, hb⟩
            replace HB := Lib.hid (bnext HB.out hb)
            clear hb
            go_wp2_with fail
            go_ret
            exact ⟨rfl, HB.out⟩
        · have h181 : (180 : Int) < s.size + t.size + c.size := by omega
          clear hr hcs h180 HC hs ht
          go_wp2_with fail
          refine (C2 _).out.mono ?_
          rintro e w2 ⟨rfl, hb⟩
          replace HB := Lib.hid (bnext HB.out hb)
          clear hb
          go_wp2_with fail
          go_ret
          exact ⟨rfl, HB.out⟩
      · have VC := fun w => Lib.hid (implPV_no c w hv)
        clear hv HC hs ht
        refine (VC _).out.mono ?_
        rintro e w2 ⟨rfl, hb⟩
        replace HB := Lib.hid (bnext HB.out hb)
        clear hb
        go_wp2_with fail
        refine (C2 _).out.mono ?_
        rintro e w2 ⟨rfl, hb⟩
        replace HB := Lib.hid (bnext HB.out hb)
        clear hb
        go_wp2_with fail
        go_ret
        exact ⟨rfl, HB.out⟩
    · have VT := fun w => Lib.hid (implPV_no t w ht)
      clear HC hs ht
      refine (VT _).out.mono ?_
      rintro e w2 ⟨rfl, hb⟩
      replace HB := Lib.hid (bnext HB.out hb)
      clear hb
      go_wp2_with fail
      refine (C2 _).out.mono ?_
      rintro e w2 ⟨rfl, hb⟩
      replace HB := Lib.hid (bnext HB.out hb)
      clear hb
      go_wp2_with fail
      go_ret
      exact ⟨rfl, HB.out⟩
  · have VS := fun w => Lib.hid (implPV_no s w hs)
    clear HC hs
    refine (VS _).out.mono ?_
    rintro e w2 ⟨rfl, hb⟩
    replace HB := Lib.hid (bnext HB.out hb)
    clear hb
    go_wp2_with fail
    refine (C2 _).out.mono ?_
    rintro e w2 ⟨rfl, hb⟩
    replace HB := Lib.hid (bnext HB.out hb)
    clear hb
    go_wp2_with fail
    go_ret
    exact ⟨rfl, HB.out⟩


theorem Tryz.own : ownKnob Tryz.prog.godebug = none := by kernel_rfl
theorem laidOut : laidOutB Tryz.prog = true := by kernel_rfl

set_option linter.unusedVariables false in
set_option maxRecDepth 100000 in
set_option maxHeartbeats 2000000 in
theorem lifted (os : Os) (started : os.Started) (H : Type) (enc : TypeId × Value → H) :
    ReturnsInHanded {} Tryz.checked os 4 .any (fun w args => (Rows.fnRefinesSpec.pre enc Tryz.prog Tryz.f4 Rows.fnRefinesRow.domain false w args ∧ laidMetH Tryz.prog Rows.fnRefinesRow.laid w) ∧ sizedMet enc Tryz.prog Tryz.f4 (OpenSpec.ofChange Rows.fnRefinesSpec) false w args)
      (Rows.fnRefinesSpec.post enc Tryz.prog Tryz.f4 false true false false) := by
  refine returnsInHanded_of_change_and (C := Tryz.checked) (X := fun w _ => laidMetH Tryz.prog Rows.fnRefinesRow.laid w) (fun _ _ _ hh h => h.of_heap hh) Tryz.own started (by kernel_rfl) Tryz.func4
    (ChangeSpec.witness_shaped (enc := enc) (C := Tryz.checked) (os := os) (X := fun w _ => laidMetH Tryz.prog Rows.fnRefinesRow.laid w) false (World.laidAll Tryz.prog os Rows.fnRefinesRow.laid) #[.slice none 0 0, .slice none 0 0] 8 (World.laidAll_os _ _ _)
      (World.shaped_of_ZipB (by kernel_rfl) (by kernel_rfl)) (by kernel_rfl) (by kernel_rfl) (by kernel_rfl)
      (by rw [MakeChecks.laidMetH_plain _ _ _ (by kernel_rfl)]; exact laidMet_laidAll _ (by kernel_rfl) (by kernel_rfl))) ?_
  intro W base args ds gs before hval0 hW _ _ hL _
  have hval : ∀ (j : Nat) t v, Tryz.f4.params[j]? = some t → args[j]? = some v → Value.okWide Tryz.prog W .any base t v := hval0
  have hW' := hW
  obtain ⟨p, q, hA0, hV, rfl, _, _⟩ := hW
  have hA : DataW.TrodAll enc Tryz.prog W 0 (fun _ => true) true Tryz.f4.params.toList args.toList ds p := hA0
  rw [Tryz.params4] at hA hval
  obtain ⟨v0, vs0, d0, ds0, p0, q0, hargs, rfl, rfl, h0, r0⟩ := trodAll_cons hA
  obtain ⟨v1, vs1, d1, ds1, p1, q1, rfl, rfl, rfl, h1, r1⟩ := trodAll_cons r0
  obtain ⟨rfl, rfl, rfl⟩ := trodAll_nil r1
  obtain rfl : args = #[v0, v1] := by cases args; simp_all
  obtain ⟨rfl, rfl⟩ := trodVars_none hV
  obtain ⟨a0, len0, cap0, rfl⟩ := okWide_slice Tryz.underlying22 (hval 0 22 v0 rfl rfl)
  have k0 := h0
  have lt0 : ∀ x ∈ p0, x.block < W.heap.size := by obtain ⟨m, hm⟩ := k0; exact DataW.trod_lt m _ _ _ hm
  obtain ⟨z0, w0⟩ : ∃ zs, IsRow W a0 len0 cap0 zs := by
    obtain ⟨fuel, hf⟩ := h0
    rcases open_ints Tryz.underlying22 Tryz.underlying5 (by kernel_rfl) hf with ⟨hcs, _⟩ | ⟨x, l, c, zs, hcs, _, hl, hm, hz, _, hcell, hwz⟩
    · simp [Value.cells] at hcs
      obtain ⟨rfl, rfl, rfl⟩ := hcs
      exact ⟨[], .inl ⟨rfl, rfl, rfl, rfl⟩⟩
    · simp [Value.cells] at hcs
      obtain ⟨rfl, rfl, rfl⟩ := hcs
      exact ⟨zs, .inr ⟨_, rfl, hl, hm, by simpa using hz, hcell, hwz⟩⟩
  obtain ⟨a1, len1, cap1, rfl⟩ := okWide_slice Tryz.underlying22 (hval 1 22 v1 rfl rfl)
  have k1 := h1
  have lt1 : ∀ x ∈ p1, x.block < W.heap.size := by obtain ⟨m, hm⟩ := k1; exact DataW.trod_lt m _ _ _ hm
  obtain ⟨z1, w1⟩ : ∃ zs, IsRow W a1 len1 cap1 zs := by
    obtain ⟨fuel, hf⟩ := h1
    rcases open_ints Tryz.underlying22 Tryz.underlying5 (by kernel_rfl) hf with ⟨hcs, _⟩ | ⟨x, l, c, zs, hcs, _, hl, hm, hz, _, hcell, hwz⟩
    · simp [Value.cells] at hcs
      obtain ⟨rfl, rfl, rfl⟩ := hcs
      exact ⟨[], .inl ⟨rfl, rfl, rfl, rfl⟩⟩
    · simp [Value.cells] at hcs
      obtain ⟨rfl, rfl, rfl⟩ := hcs
      exact ⟨zs, .inr ⟨_, rfl, hl, hm, by simpa using hz, hcell, hwz⟩⟩
  clear hA0 hval0
  refine (walkRefines W w0 w1).mono fun e W' ⟨he, bel⟩ => ?_
  subst he
  exact ⟨_, rfl, _, _, _, [], _, [], hW', trodAll_mk1 (shut_bool Tryz.underlying4 _), (trodAll_cons_mk (Below.trod laidOut (by kernel_rfl) (of_decide_eq_true (by kernel_rfl)) k0 bel lt0) (trodAll_cons_mk (Below.trod laidOut (by kernel_rfl) (of_decide_eq_true (by kernel_rfl)) k1 bel lt1) trodAll_mk0)), rfl, bel.frame _, fun h => by cases h⟩

-- each of the three walks over the program by itself: together they are too much for the kernel's memory
theorem jf1 : (Rows.fnRefinesRow.inPlace == Tryz.prog.inPlace 4) = true := by kernel_rfl
theorem jf2 : (Rows.fnRefinesRow.unfollowed == Tryz.prog.unfollowed 4) = true := by kernel_rfl
theorem jf3 : (Rows.fnRefinesRow.recurses == Tryz.prog.recurses 4) = true := by kernel_rfl
theorem jf4 : (Rows.fnRefinesRow.named == Tryz.prog.varsNamed 4) = true := by kernel_rfl
theorem jf5 : laidOutB Tryz.prog = true := by kernel_rfl
theorem jf6 : mapsRowed Tryz.prog = true := by kernel_rfl
theorem jf7 : Tryz.prog.stopsHeard = true := by kernel_rfl
theorem jg : false = (Rows.fnRefinesRow).goesBy Tryz.pinned.checked.prog := by kernel_rfl
theorem closed : joinedFacts Tryz.prog 4 Tryz.f4 Rows.fnRefinesSpec Rows.fnRefinesRow = true := by
  unfold joinedFacts
  rw [jf1, jf2, jf3, jf4, jf5, jf6, jf7]
  kernel_rfl

theorem said : Rows.FnRefinesSaid :=
  OpenClaim.holds_of_wide 4 Tryz.f4 rfl rfl rfl rfl rfl rfl rfl ⟨rfl, rfl, rfl, rfl, rfl⟩ rfl rfl rfl rfl rfl (by kernel_rfl) Tryz.func4 closed
    (of_decide_eq_true (by kernel_rfl)) (by unfold Func.isWrapper; first | (rw [if_pos (by decide +kernel)]; kernel_rfl) | (rw [if_neg (by decide +kernel)]; exact ⟨rfl, rfl⟩))
    (fun os started H enc _ => by rw [OpenClaim.pre_eq_preRow]; exact lifted os started H enc)

theorem plain (f : FuncId) (fn : Func) (hf : Tryz.pinned.checked.prog.funcNamed Rows.fnRefinesRow.func = some f) (hfn : Tryz.pinned.checked.prog.funcs[f]? = some fn) :
    true = Tryz.pinned.checked.prog.looks [] ∧ ∀ (j : Nat) t, fn.params[j]? = some t → Tryz.pinned.checked.prog.wantsStandIn t = false := by
  obtain rfl : f = 4 := Option.some.inj ((show Tryz.prog.funcNamed Rows.fnRefinesRow.func = some 4 by kernel_rfl).symm.trans hf) |>.symm
  obtain rfl : fn = Tryz.f4 := (Option.some.inj (Tryz.func4.symm.trans hfn)).symm
  refine ⟨by kernel_rfl, fun j t ht => ?_⟩
  rw [Tryz.params4] at ht
  obtain rfl : t = 22 := by
    have := Array.mem_of_getElem? ht
    simpa using this
  exact (show Tryz.prog.wantsStandIn 22 = false by kernel_rfl)

theorem refines_card : Rows.FnRefinesCardSaid :=
  Claim7.holds_tied_plain_at .later [] _ _ _ _ said (fun _ h => by cases h) (by kernel_rfl) (fun _ h => by cases h) fnRefines_row_tie rfl ⟨rfl, rfl⟩ (by kernel_rfl) rfl plain jg

#print axioms refines_card
end Go.Proofs.YtopbkkmplgllkaaGreatDoor
