/-
  The law of programs that treat two variables alike is true at all bytes: no condition. The card.
-/
import Derived.Test.YtgkoljphndgoeaaGreatDoorCards
import Derived.Test.YtgkoljphndgoeaaGreatDoorTie
import Derived.Test.YtgkoljphndgoeaaGreatDoorSy0
import Derived.Test.YtgkoljphndgoeaaGreatDoorTopD
import Derived.Deep.RegionHeld3
import Derived.ProofKit
import Derived.ChangeOld
import Derived.Deep.DeepHandedRow
import Derived.Lib.SmallJoins
import Derived.ChangeSame
import Derived.JoinedOf
import Derived.JoinedAt
import Derived.RowKit3
import Derived.ShutString
import Derived.OpenShut
import Derived.LaidMore
import Derived.Lay
import Derived.SevenTiedAt
import Derived.Stop.Joined
namespace Go.Proofs.YtgkoljphndgoeaaGreatDoor
open Go.ChangeShapes Go.WideShapes Go.ChangeAt Go.RowKit Go.Joins
open Go.WideMaps Go.WideElems Tm
open Go.ChangeMaps (open_string shut_string)
open Go.Great


theorem same_texts3 (s t : ByteArray) : ∃ r : Bool, (∀ w, Calls Tryz.prog 103 #[.string s, .string t] w fun e w' => e = .returned (.bool r) ∧ Below w.heap.size w w') ∧ (∀ w, Calls Tryz.prog 30 #[.string t, .string s] w fun e w' => e = .returned (.bool r) ∧ Below w.heap.size w w') ∧ (∀ w, Calls Tryz.prog 30 #[.string s, .string t] w fun e w' => e = .returned (.bool r) ∧ Below w.heap.size w w') ∧ (PV s → s = t → r = true) := by
  by_cases h : PV s ∧ PV t
  · obtain ⟨⟨⟨p, hp, hs⟩, hl⟩, ⟨q, hq, ht⟩, hm⟩ := h
    have hs' := bs_ofP hs
    have ht' := bs_ofP ht
    have lp : p.ser.length ≤ 200 := by rw [hs', bs_size] at hl; exact hl
    have lq : q.ser.length ≤ 200 := by rw [ht', bs_size] at hm; exact hm
    refine ⟨allO eqO (oc p) (oc q), fun w => ?_, fun w => ?_, fun w => implSame_yes s t w hp hs hl hq ht hm, fun _ e => ?_⟩
    · have := specSame_yes p q w hp lp hq lq
      rw [same_pure, ← hs', ← ht'] at this
      exact this
    · rw [allO_symm]; exact implSame_yes t s w hq ht hm hp hs hl
    · subst e
      have epq : p = q := (pg_inj hp hq (r := []) (r' := []) (by rw [List.append_nil, List.append_nil]; exact hs.symm.trans ht)).1
      subst epq
      rw [allO_iff]
      intro j _
      unfold eqO
      simp only [beq_self_eq_true, Bool.and_self]
  · exact ⟨false, fun w => specSame_no s t w h, fun w => implSame_no t s w fun k => h ⟨k.2, k.1⟩, fun w => implSame_no s t w h, fun hs e => absurd ⟨hs, e ▸ hs⟩ h⟩
theorem exch_comm (v w c : UInt8) : exch w v c = exch v w c := by
  unfold exch
  by_cases h1 : c = w
  · by_cases h2 : c = v
    · rw [if_pos h1, if_pos h2, ← h1, ← h2]
    · rw [if_pos h1, if_neg h2, if_pos h1]
  · by_cases h2 : c = v
    · rw [if_neg h1, if_pos h2, if_pos h2]
    · rw [if_neg h1, if_neg h2, if_neg h2, if_neg h1]
theorem exch_self (v c : UInt8) : exch v v c = c := by
  unfold exch
  by_cases h : c = v
  · rw [if_pos h, h]
  · rw [if_neg h, if_neg h]
theorem sy_facts (p v u : ByteArray) (hm2 : v.size ≤ maxLen) (hm3 : u.size ≤ maxLen) : ∃ (b c : Bool) (q : ByteArray),
    (∀ w, Calls Tryz.prog 32 #[.string p, .string v, .string u] w fun e w' => e = .returned (.bool b) ∧ Below w.heap.size w w') ∧
    (∀ w, Calls Tryz.prog 33 #[.string p, .string v, .string u] w fun e w' => e = .returned (.bool b) ∧ Below w.heap.size w w') ∧
    (∀ w, Calls Tryz.prog 34 #[.string p, .string v, .string u] w fun e w' => e = .returned (.tuple #[.string q, .bool c]) ∧ Below w.heap.size w w') ∧
    (c = false → b = false) ∧
    (c = true → (∀ w, Calls Tryz.prog 30 #[.string p, .string q] w fun e w' => e = .returned (.bool b) ∧ Below w.heap.size w w') ∧ ∀ w, Calls Tryz.prog 32 #[.string p, .string v, .string v] w fun e w' => e = .returned (.bool true) ∧ Below w.heap.size w w') ∧
    ∀ w, Calls Tryz.prog 32 #[.string p, .string u, .string v] w fun e w' => e = .returned (.bool b) ∧ Below w.heap.size w w' := by
  by_cases h : IsP p ∧ IsVar v ∧ IsVar u
  · obtain ⟨h1, h2, h3⟩ := h
    have V := var_pos h2
    have U := var_pos h3
    obtain ⟨r, d1, d2, d3, _⟩ := same_texts3 p (bs (p.data.toList.map (exch (v[0]'V) (u[0]'U))))
    obtain ⟨k1, k2⟩ := sym_yes p v u _ r (fun w => specSwap_yes p v u V U w h1 h2 h3) (fun w => implSwap_yes p v u V U w h1 h2 h3) d1 d2
    obtain ⟨r', e1, e2, _, er⟩ := same_texts3 p p
    obtain rfl : r' = true := er h1 rfl
    have ei : bs (p.data.toList.map (exch (v[0]'V) (v[0]'V))) = p := by
      rw [show exch (v[0]'V) (v[0]'V) = id from funext fun c => exch_self _ c, List.map_id]
      exact bs_self p
    have s1 : ∀ w, Calls Tryz.prog 102 #[.string p, .string v, .string v] w fun e w' => e = .returned (.tuple #[.string p, .bool true]) ∧ Below w.heap.size w w' := fun w => by
      have := specSwap_yes p v v V V w h1 h2 h2
      rwa [ei] at this
    have s2 : ∀ w, Calls Tryz.prog 34 #[.string p, .string v, .string v] w fun e w' => e = .returned (.tuple #[.string p, .bool true]) ∧ Below w.heap.size w w' := fun w => by
      have := implSwap_yes p v v V V w h1 h2 h2
      rwa [ei] at this
    have ec : exch (u[0]'U) (v[0]'V) = exch (v[0]'V) (u[0]'U) := funext fun c => exch_comm _ _ c
    have t1 : ∀ w, Calls Tryz.prog 102 #[.string p, .string u, .string v] w fun e w' => e = .returned (.tuple #[.string (bs (p.data.toList.map (exch (v[0]'V) (u[0]'U)))), .bool true]) ∧ Below w.heap.size w w' := fun w => by
      have := specSwap_yes p u v U V w h1 h3 h2
      rwa [ec] at this
    have t2 : ∀ w, Calls Tryz.prog 34 #[.string p, .string u, .string v] w fun e w' => e = .returned (.tuple #[.string (bs (p.data.toList.map (exch (v[0]'V) (u[0]'U)))), .bool true]) ∧ Below w.heap.size w w' := fun w => by
      have := implSwap_yes p u v U V w h1 h3 h2
      rwa [ec] at this
    exact ⟨r, true, _, k2, k1, fun w => implSwap_yes p v u V U w h1 h2 h3, fun k => (by cases k), fun _ => ⟨d3, (sym_yes p v v p true s1 s2 e1 e2).2⟩, (sym_yes p u v _ r t1 t2 d1 d2).2⟩
  · have h' : ¬ (IsP p ∧ IsVar u ∧ IsVar v) := fun k => h ⟨k.1, k.2.2, k.2.1⟩
    obtain ⟨k1, k2⟩ := sym_no p v u (fun w => specSwap_no p v u w hm2 hm3 h) (fun w => implSwap_no p v u w hm2 hm3 h)
    exact ⟨false, false, _, k2, k1, fun w => implSwap_no p v u w hm2 hm3 h, fun _ => rfl, fun k => (by cases k), (sym_no p u v (fun w => specSwap_no p u v w hm3 hm2 h') (fun w => implSwap_no p u v w hm3 hm2 h')).2⟩
def whichC : Array Value := #[.string ⟨#[120]⟩, .string ⟨#[121]⟩, .string ⟨#[122]⟩, .string ⟨#[120]⟩, .string ⟨#[121]⟩, .string ⟨#[122]⟩, .string ⟨#[120]⟩, .string ⟨#[121]⟩, .string ⟨#[]⟩, .string ⟨#[88]⟩, .string ⟨#[119]⟩, .string ⟨#[120, 121]⟩]
theorem whichQ : ∀ i, i < 12 → ∃ s, whichC[i]? = some (.string s) ∧ s.size ≤ 3 := by
  intro i hi
  have hc : i = 0 ∨ i = 1 ∨ i = 2 ∨ i = 3 ∨ i = 4 ∨ i = 5 ∨ i = 6 ∨ i = 7 ∨ i = 8 ∨ i = 9 ∨ i = 10 ∨ i = 11 := by omega
  rcases hc with rfl | rfl | rfl | rfl | rfl | rfl | rfl | rfl | rfl | rfl | rfl | rfl <;> exact ⟨_, rfl, by decide⟩
set_option maxRecDepth 100000 in
set_option maxHeartbeats 8000000 in
theorem which1 {a p : Nat} {w : World} (hr : Rd a p w) (hp : p ≤ 900000) :
    Calls Tryz.prog 101 #[.pointer (some ⟨a, 0, none⟩)] w (DrP a p 0 3 1 w) := by
  have hlt := hr.lt
  have hne : w.heap.size ≠ a := by omega
  have HL := Lib.hid (Blk.new w whichC 9)
  have hax := (Below.refl _ w).alloc (Nat.le_refl _) (.cells whichC 9)
  have HRx := Lib.hid (hr.kept hax)
  have HKx := Lib.hid (Kp.of (a := a) hax)
  have HQ := Lib.hid whichQ
  clear hr hax
  go_enter Tryz.func101, Tryz.ntmps101
  go_wp2_with fail
  refine (of_any 12 12 (fun s => s.size ≤ 3) HRx.out (by omega) HL.out hne (by omega) (by omega) HQ.out).mono ?_
  rintro e w2 ⟨o, ho, rfl, hr, hk⟩
  have HR2 := Lib.hid hr
  have HK2 := Lib.hid (HKx.out.trans hk)
  clear hr hk
  go_wp2_with fail
  go_ret
  exact ⟨o, p + 1, by omega, ho, by omega, rfl, HR2.out, HK2.out⟩
set_option maxRecDepth 100000 in
set_option maxHeartbeats 4000000 in
theorem drawSymmetric {a : Option Addr} {len cap : Nat} {zs : List Int} {w : World} (h : IsRow w a len cap zs) :
    Calls Tryz.prog 31 #[.slice a len cap] w fun e w' => ∃ s u v : ByteArray, s.size ≤ 100000 ∧ u.size ≤ 3 ∧ v.size ≤ 3 ∧ e = .returned (.tuple #[.string s, .string u, .string v]) ∧ Below w.heap.size w w' := by
  have HO := Lib.hid (open_any h)
  clear h
  go_enter Tryz.func31, Tryz.ntmps31
  go_wp2_with fail
  refine HO.out.mono ?_
  rintro e w1 ⟨rfl, hr, hb⟩
  have HR1 := Lib.hid hr
  have HW1 := Lib.hid hb
  clear hr hb HO
  have C := Lib.hid (pick_any 2 HR1.out (by omega) (by omega) (by omega))
  go_wp2_with fail
  refine C.out.mono ?_
  rintro e w2 ⟨k, k0, k1, rfl, hr, hk⟩
  have HR2 := Lib.hid hr
  have HK2 := Lib.hid hk
  clear hr hk C
  have ew : IntKind.i64.wrap (1 + k) = 1 + k := IntWalk.i64_in _ (by omega)
  have HC := Lib.hid (dP_any ⟨#[122]⟩ (by decide) (by decide) true (1 + k) (by omega) (by omega) HR2.out (by omega))
  go_wp2_with fail
  refine HC.out.mono ?_
  rintro e w3 ⟨x, q, x1, x2, hq, rfl, hr, hk⟩
  have HR3 := Lib.hid hr
  have HK3 := Lib.hid (HK2.out.trans hk)
  clear hr hk HC
  have C := Lib.hid (pick_any 2 HR3.out (by omega) (by omega) (by omega))
  go_wp2_with fail
  refine C.out.mono ?_
  rintro e w4 ⟨m, m0, m1, rfl, hr, hk⟩
  have HR4 := Lib.hid hr
  have HK4 := Lib.hid (HK3.out.trans hk)
  clear hr hk C
  by_cases e0 : m = 0
  · subst e0
    have HC := Lib.hid (open3 HR4.out (by omega))
    go_wp2_with fail
    refine HC.out.mono ?_
    rintro e w5 ⟨s, q5, s1, s2, hq5, rfl, hr, hk⟩
    have HR5 := Lib.hid hr
    have HK5 := Lib.hid (HK4.out.trans hk)
    clear hr hk HC
    have HC := Lib.hid (which1 HR5.out (by omega))
    go_wp2_with fail
    refine HC.out.mono ?_
    rintro e w6 ⟨u, q6, u1, u2, hq6, rfl, hr, hk⟩
    have HR6 := Lib.hid hr
    have HK6 := Lib.hid (HK5.out.trans hk)
    clear hr hk HC
    have HC := Lib.hid (which1 HR6.out (by omega))
    go_wp2_with fail
    refine HC.out.mono ?_
    rintro e w7 ⟨v, q7, v1, v2, hq7, rfl, hr, hk⟩
    have HW7 := Lib.hid (HW1.out.trans ((HK6.out.trans hk).below (Nat.le_refl _) HW1.out.size))
    clear hr hk HC
    go_wp2_with fail
    refine bodyPost_ret (v := .tuple #[.string s, .string u, .string v]) (by simp [results, Tryz.results31, go_sem]) rfl ?_
    exact ⟨s, u, v, by omega, u2, v2, rfl, HW7.out⟩
  · have n0 : (m == 0) = false := by simpa using e0
    obtain ⟨s, hs5⟩ : ∃ s, s = x := ⟨_, rfl⟩
    obtain ⟨q5, hq5⟩ : ∃ q5, q5 = q + 1 := ⟨_, rfl⟩
    have s2 : s.size ≤ 100000 := by rw [hs5]; omega
    subst hs5
    rw [← hq5] at HR4
    have HR5 := HR4
    have HK5 := HK4
    clear HR4 HK4
    have HC := Lib.hid (which1 HR5.out (by omega))
    go_wp2_with fail
    refine HC.out.mono ?_
    rintro e w6 ⟨u, q6, u1, u2, hq6, rfl, hr, hk⟩
    have HR6 := Lib.hid hr
    have HK6 := Lib.hid (HK5.out.trans hk)
    clear hr hk HC
    have HC := Lib.hid (which1 HR6.out (by omega))
    go_wp2_with fail
    refine HC.out.mono ?_
    rintro e w7 ⟨v, q7, v1, v2, hq7, rfl, hr, hk⟩
    have HW7 := Lib.hid (HW1.out.trans ((HK6.out.trans hk).below (Nat.le_refl _) HW1.out.size))
    clear hr hk HC
    go_wp2_with fail
    refine bodyPost_ret (v := .tuple #[.string s, .string u, .string v]) (by simp [results, Tryz.results31, go_sem]) rfl ?_
    exact ⟨s, u, v, by omega, u2, v2, rfl, HW7.out⟩

set_option maxRecDepth 100000 in
set_option maxHeartbeats 16000000 in
theorem walkSymmetric {a0 : Option Addr} {len0 cap0 : Nat} {z0 : List Int} (w : World) (h0 : IsRow w a0 len0 cap0 z0) :
    Calls Tryz.prog 6 #[.slice a0 len0 cap0] w fun e w' => e = .returned (.bool true) ∧ Below w.heap.size w w' := by
  have DD := Lib.hid (drawSymmetric h0)
  clear h0
  by_cases hl : (1048576 : Int) < len0
  · go_enter Tryz.func6, Tryz.ntmps6
    go_wp2_with fail
    go_ret
    exact ⟨rfl, Below.refl _ _⟩
  go_enter Tryz.func6, Tryz.ntmps6
  go_wp2_with fail
  refine DD.out.mono ?_
  rintro e w1 ⟨p, v, u, lp, lv, lu, rfl, hb⟩
  have HB := Lib.hid hb
  clear hb DD
  obtain ⟨b, c, q, c1, c2, c3, hf, ht, c6⟩ := sy_facts p v u (by unfold maxLen; omega) (by unfold maxLen; omega)
  replace c1 := fun w => Lib.hid (c1 w)
  replace c2 := fun w => Lib.hid (c2 w)
  replace c3 := fun w => Lib.hid (c3 w)
  replace c6 := fun w => Lib.hid (c6 w)
  cases c with
  | false =>
    obtain rfl := hf rfl
    clear hf ht
    go_wp2_with fail
    refine (c1 _).out.mono ?_
    rintro e w2 ⟨rfl, hb⟩
    replace HB := Lib.hid (bnext HB.out hb)
    clear hb
    go_wp2_with fail
    refine (c2 _).out.mono ?_
    rintro e w2 ⟨rfl, hb⟩
    replace HB := Lib.hid (bnext HB.out hb)
    clear hb
    go_wp2_with fail
    refine (c3 _).out.mono ?_
    rintro e w2 ⟨rfl, hb⟩
    replace HB := Lib.hid (bnext HB.out hb)
    clear hb
    go_wp2_with fail
    refine (c6 _).out.mono ?_
    rintro e w2 ⟨rfl, hb⟩
    replace HB := Lib.hid (bnext HB.out hb)
    clear hb
    go_wp2_with fail
    go_ret
    exact ⟨rfl, HB.out⟩
  | true =>
    obtain ⟨c4, c5⟩ := ht rfl
    clear hf ht
    replace c4 := fun w => Lib.hid (c4 w)
    replace c5 := fun w => Lib.hid (c5 w)
    cases b
    · go_wp2_with fail
      refine (c1 _).out.mono ?_
      rintro e w2 ⟨rfl, hb⟩
      replace HB := Lib.hid (bnext HB.out hb)
      clear hb
      go_wp2_with fail
      refine (c2 _).out.mono ?_
      rintro e w2 ⟨rfl, hb⟩
      replace HB := Lib.hid (bnext HB.out hb)
      clear hb
      go_wp2_with fail
      refine (c3 _).out.mono ?_
      rintro e w2 ⟨rfl, hb⟩
      replace HB := Lib.hid (bnext HB.out hb)
      clear hb
      go_wp2_with fail
      refine (c4 _).out.mono ?_
      rintro e w2 ⟨rfl, hb⟩
      replace HB := Lib.hid (bnext HB.out hb)
      clear hb
      go_wp2_with fail
      refine (c5 _).out.mono ?_
      rintro e w2 ⟨rfl, hb⟩
      replace HB := Lib.hid (bnext HB.out hb)
      clear hb
      go_wp2_with fail
      refine (c6 _).out.mono ?_
      rintro e w2 ⟨rfl, hb⟩
      replace HB := Lib.hid (bnext HB.out hb)
      clear hb
      go_wp2_with fail
      go_ret
      exact ⟨rfl, HB.out⟩
    · go_wp2_with fail
      refine (c1 _).out.mono ?_
      rintro e w2 ⟨rfl, hb⟩
      replace HB := Lib.hid (bnext HB.out hb)
      clear hb
      go_wp2_with fail
      refine (c2 _).out.mono ?_
      rintro e w2 ⟨rfl, hb⟩
      replace HB := Lib.hid (bnext HB.out hb)
      clear hb
      go_wp2_with fail
      refine (c3 _).out.mono ?_
      rintro e w2 ⟨rfl, hb⟩
      replace HB := Lib.hid (bnext HB.out hb)
      clear hb
      go_wp2_with fail
      refine (c4 _).out.mono ?_
      rintro e w2 ⟨rfl, hb⟩
      replace HB := Lib.hid (bnext HB.out hb)
      clear hb
      go_wp2_with fail
      refine (c5 _).out.mono ?_
      rintro e w2 ⟨rfl, hb⟩
      replace HB := Lib.hid (bnext HB.out hb)
      clear hb
      go_wp2_with fail
      refine (c6 _).out.mono ?_
      rintro e w2 ⟨rfl, hb⟩
      replace HB := Lib.hid (bnext HB.out hb)
      clear hb
      go_wp2_with fail
      go_ret
      exact ⟨rfl, HB.out⟩


theorem Tryz.own : ownKnob Tryz.prog.godebug = none := by kernel_rfl
theorem laidOut : laidOutB Tryz.prog = true := by kernel_rfl

set_option linter.unusedVariables false in
set_option maxRecDepth 100000 in
set_option maxHeartbeats 2000000 in
theorem lifted (os : Os) (started : os.Started) (H : Type) (enc : TypeId × Value → H) :
    ReturnsInHanded {} Tryz.checked os 6 .any (fun w args => (Rows.fnSymmetricSpec.pre enc Tryz.prog Tryz.f6 Rows.fnSymmetricRow.domain false w args ∧ laidMetH Tryz.prog Rows.fnSymmetricRow.laid w) ∧ sizedMet enc Tryz.prog Tryz.f6 (OpenSpec.ofChange Rows.fnSymmetricSpec) false w args)
      (Rows.fnSymmetricSpec.post enc Tryz.prog Tryz.f6 false true false false) := by
  refine returnsInHanded_of_change_and (C := Tryz.checked) (X := fun w _ => laidMetH Tryz.prog Rows.fnSymmetricRow.laid w) (fun _ _ _ hh h => h.of_heap hh) Tryz.own started (by kernel_rfl) Tryz.func6
    (ChangeSpec.witness_shaped (enc := enc) (C := Tryz.checked) (os := os) (X := fun w _ => laidMetH Tryz.prog Rows.fnSymmetricRow.laid w) false (World.laidAll Tryz.prog os Rows.fnSymmetricRow.laid) #[.slice none 0 0] 8 (World.laidAll_os _ _ _)
      (World.shaped_of_ZipB (by kernel_rfl) (by kernel_rfl)) (by kernel_rfl) (by kernel_rfl) (by kernel_rfl)
      (by rw [MakeChecks.laidMetH_plain _ _ _ (by kernel_rfl)]; exact laidMet_laidAll _ (by kernel_rfl) (by kernel_rfl))) ?_
  intro W base args ds gs before hval0 hW _ _ hL _
  have hval : ∀ (j : Nat) t v, Tryz.f6.params[j]? = some t → args[j]? = some v → Value.okWide Tryz.prog W .any base t v := hval0
  have hW' := hW
  obtain ⟨p, q, hA0, hV, rfl, _, _⟩ := hW
  have hA : DataW.TrodAll enc Tryz.prog W 0 (fun _ => true) true Tryz.f6.params.toList args.toList ds p := hA0
  rw [Tryz.params6] at hA hval
  obtain ⟨v0, vs0, d0, ds0, p0, q0, hargs, rfl, rfl, h0, r0⟩ := trodAll_cons hA
  obtain ⟨rfl, rfl, rfl⟩ := trodAll_nil r0
  obtain rfl : args = #[v0] := by cases args; simp_all
  obtain ⟨rfl, rfl⟩ := trodVars_none hV
  obtain ⟨a0, len0, cap0, rfl⟩ := okWide_slice Tryz.underlying22 (hval 0 22 v0 rfl rfl)
  have k0 := h0
  have lt0 : ∀ x ∈ p0, x.block < W.heap.size := by obtain ⟨m, hm⟩ := k0; exact DataW.trod_lt m _ _ _ hm
  obtain ⟨z0, w0⟩ : ∃ zs, IsRow W a0 len0 cap0 zs := by
    obtain ⟨fuel, hf⟩ := h0
    rcases open_ints Tryz.underlying22 Tryz.underlying5 (by kernel_rfl) hf with ⟨hcs, _⟩ | ⟨x, l, c, zs, hcs, _, hl, hm, hz, _, hcell, hwz⟩
    · simp [Value.cells] at hcs
      obtain ⟨rfl, rfl, rfl⟩ := hcs
      exact ⟨[], .inl ⟨rfl, rfl, rfl, rfl⟩⟩
    · simp [Value.cells] at hcs
      obtain ⟨rfl, rfl, rfl⟩ := hcs
      exact ⟨zs, .inr ⟨_, rfl, hl, hm, by simpa using hz, hcell, hwz⟩⟩
  clear hA0 hval0
  refine (walkSymmetric W w0).mono fun e W' ⟨he, bel⟩ => ?_
  subst he
  exact ⟨_, rfl, _, _, _, [], _, [], hW', trodAll_mk1 (shut_bool Tryz.underlying4 _), (trodAll_cons_mk (Below.trod laidOut (by kernel_rfl) (of_decide_eq_true (by kernel_rfl)) k0 bel lt0) trodAll_mk0), rfl, bel.frame _, fun h => by cases h⟩

-- each of the three walks over the program by itself: together they are too much for the kernel's memory
theorem jf1 : (Rows.fnSymmetricRow.inPlace == Tryz.prog.inPlace 6) = true := by kernel_rfl
theorem jf2 : (Rows.fnSymmetricRow.unfollowed == Tryz.prog.unfollowed 6) = true := by kernel_rfl
theorem jf3 : (Rows.fnSymmetricRow.recurses == Tryz.prog.recurses 6) = true := by kernel_rfl
theorem jf4 : (Rows.fnSymmetricRow.named == Tryz.prog.varsNamed 6) = true := by kernel_rfl
theorem jf5 : laidOutB Tryz.prog = true := by kernel_rfl
theorem jf6 : mapsRowed Tryz.prog = true := by kernel_rfl
theorem jf7 : Tryz.prog.stopsHeard = true := by kernel_rfl
theorem jg : false = (Rows.fnSymmetricRow).goesBy Tryz.pinned.checked.prog := by kernel_rfl
theorem closed : joinedFacts Tryz.prog 6 Tryz.f6 Rows.fnSymmetricSpec Rows.fnSymmetricRow = true := by
  unfold joinedFacts
  rw [jf1, jf2, jf3, jf4, jf5, jf6, jf7]
  kernel_rfl

theorem said : Rows.FnSymmetricSaid :=
  OpenClaim.holds_of_wide 6 Tryz.f6 rfl rfl rfl rfl rfl rfl rfl ⟨rfl, rfl, rfl, rfl, rfl⟩ rfl rfl rfl rfl rfl (by kernel_rfl) Tryz.func6 closed
    (of_decide_eq_true (by kernel_rfl)) (by unfold Func.isWrapper; first | (rw [if_pos (by decide +kernel)]; kernel_rfl) | (rw [if_neg (by decide +kernel)]; exact ⟨rfl, rfl⟩))
    (fun os started H enc _ => by rw [OpenClaim.pre_eq_preRow]; exact lifted os started H enc)

theorem plain (f : FuncId) (fn : Func) (hf : Tryz.pinned.checked.prog.funcNamed Rows.fnSymmetricRow.func = some f) (hfn : Tryz.pinned.checked.prog.funcs[f]? = some fn) :
    true = Tryz.pinned.checked.prog.looks [] ∧ ∀ (j : Nat) t, fn.params[j]? = some t → Tryz.pinned.checked.prog.wantsStandIn t = false := by
  obtain rfl : f = 6 := Option.some.inj ((show Tryz.prog.funcNamed Rows.fnSymmetricRow.func = some 6 by kernel_rfl).symm.trans hf) |>.symm
  obtain rfl : fn = Tryz.f6 := (Option.some.inj (Tryz.func6.symm.trans hfn)).symm
  refine ⟨by kernel_rfl, fun j t ht => ?_⟩
  rw [Tryz.params6] at ht
  obtain rfl : t = 22 := by
    have := Array.mem_of_getElem? ht
    simpa using this
  exact (show Tryz.prog.wantsStandIn 22 = false by kernel_rfl)

theorem symmetric_card : Rows.FnSymmetricCardSaid :=
  Claim7.holds_tied_plain_at .later [] _ _ _ _ said (fun _ h => by cases h) (by kernel_rfl) (fun _ h => by cases h) fnSymmetric_row_tie rfl ⟨rfl, rfl⟩ (by kernel_rfl) rfl plain jg

#print axioms symmetric_card
end Go.Proofs.YtgkoljphndgoeaaGreatDoor
