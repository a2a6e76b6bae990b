import Derived.Test.YtgkoljphndgoeaaGreatDoorCards
import Derived.Test.YtgkoljphndgoeaaGreatDoorTie
import Derived.Test.YtgkoljphndgoeaaGreatDoorSo0
import Derived.Test.YtgkoljphndgoeaaGreatDoorTopD
import Derived.Deep.RegionHeld3
import Derived.ProofKit
import Derived.ChangeOld
import Derived.Deep.DeepHandedRow
import Derived.Lib.SmallJoins
import Derived.ChangeSame
import Derived.JoinedOf
import Derived.JoinedAt
import Derived.RowKit3
import Derived.ShutString
import Derived.OpenShut
import Derived.LaidMore
import Derived.Lay
import Derived.SevenTiedAt
import Derived.Stop.Joined
namespace Go.Proofs.YtgkoljphndgoeaaGreatDoor
open Go.ChangeShapes Go.WideShapes Go.ChangeAt Go.RowKit Go.Joins
open Go.WideMaps Go.WideElems Tm
open Go.ChangeMaps (open_string shut_string)
open Go.Great
theorem phB_iff {p q : Pg} {F P : Nat → Nat → Bool} : phB p q F P = true ↔ ∀ i, i < 27 → ∀ j, j < 27 → F i j = true → ∀ a, a < 27 → ∀ c, c < 27 → rT p i a = true → rT q j c = true → P a c = true := by
 unfold phB
 rw [relEq_iff]
 constructor
 ·intro h i hi j hj hf a ha c hc h1 h2
  have := h i hi j hj
  rw [hf, Bool.and_true] at this
  exact frR_iff.1 this a ha c hc (by rw [h1, h2]; rfl)
 ·intro h i hi j hj
  cases hf : F i j with
  | false => rw [Bool.and_false]
  | true =>
   rw [Bool.and_true, frR_iff]
   intro a ha c hc hr
   rw [Bool.and_eq_true] at hr
   exact h i hi j hj hf a ha c hc hr.1 hr.2
theorem agRel_symm (u : ByteArray) (i j : Nat) : agRel u i j = agRel u j i := by
 unfold agRel agF
 congr 1
 ·congr 1
  ·congr 1; rw [Bool.eq_iff_iff, beq_iff_eq, beq_iff_eq]; exact eq_comm
  ·congr 1; rw [Bool.eq_iff_iff, beq_iff_eq, beq_iff_eq]; exact eq_comm
 ·congr 1; rw [Bool.eq_iff_iff, beq_iff_eq, beq_iff_eq]; exact eq_comm
def xyzW : ByteArray := ⟨#[120, 121, 122]⟩
theorem agv_xyzW : AgV xyzW := by unfold AgV; decide +kernel
theorem agv_nil : AgV ⟨#[]⟩ := by unfold AgV; decide +kernel
theorem agRel_all (u : ByteArray) (i j : Nat) (h : agRel xyzW i j = true) : agRel u i j = true := by
 have h0 : hasL xyzW 120 = true := by decide +kernel
 have h1 : hasL xyzW 121 = true := by decide +kernel
 have h2 : hasL xyzW 122 = true := by decide +kernel
 unfold agRel at h ⊢
 rw [h0, h1, h2] at h
 unfold agF at h ⊢
 simp only [Bool.not_true, Bool.false_or, Bool.and_eq_true] at h
 simp only [Bool.and_eq_true, Bool.or_eq_true]
 exact ⟨⟨.inr h.1.1, .inr h.1.2⟩, .inr h.2⟩
theorem agRel_none (i j : Nat) : agRel ⟨#[]⟩ i j = true := by
 have h0 : hasL ⟨#[]⟩ 120 = false := by decide +kernel
 have h1 : hasL ⟨#[]⟩ 121 = false := by decide +kernel
 have h2 : hasL ⟨#[]⟩ 122 = false := by decide +kernel
 unfold agRel
 rw [h0, h1, h2]
 rfl
theorem so_turn (p q : Pg) (u v : ByteArray) (h : phB p q (agRel u) (agRel v) = true) : phB q p (agRel u) (agRel v) = true := by
 rw [phB_iff] at h ⊢
 intro i hi j hj hf a ha c hc h1 h2
 rw [agRel_symm]
 exact h j hj i hi (by rw [agRel_symm]; exact hf) c hc a ha h2 h1
theorem so_more (p q : Pg) (u v : ByteArray) (h : phB p q (agRel u) (agRel v) = true) : phB p q (agRel xyzW) (agRel v) = true := by
 rw [phB_iff] at h ⊢
 exact fun i hi j hj hf => h i hi j hj (agRel_all u i j hf)
theorem so_less (p q : Pg) (u : ByteArray) : phB p q (agRel u) (agRel ⟨#[]⟩) = true := phB_iff.2 fun _ _ _ _ _ a _ c _ _ _ => agRel_none a c
theorem sos_yes (p q : Pg) (u v : ByteArray) (hp : p.ok false) (hl : p.ser.length ≤ 200) (hq : q.ok false) (hm : q.ser.length ≤ 200) (hu : AgV u) (hv : AgV v) (lu : u.size ≤ maxLen) (lv : v.size ≤ maxLen) (w : World) :
  Calls Tryz.prog 14 #[.string (bs p.ser), .string (bs q.ser), .string u, .string v] w fun e w' => e = .returned (.bool (phB p q (agRel u) (agRel v))) ∧ Below w.heap.size w w' := by
 have k := so_spec (bs p.ser) (bs q.ser) u v _ _ true true (phB p q (agRel u) (agRel v)) (fun w => specAg_yes u hu lu w) (fun w => specAg_yes v hv lv w) (fun _ w => by
  obtain ⟨b, hb, hc⟩ := ready_any (bs p.ser) (bs q.ser) (bs (relT (agRel v))) (rel_len _)
  obtain rfl := hb.2 ⟨⟨⟨p, hp, by simp [bs]⟩, by rw [bs_size]; exact hl⟩, ⟨⟨q, hq, by simp [bs]⟩, by rw [bs_size]; exact hm⟩, rel729_bs _⟩
  have c1 := fun w => specPf_yes p q (bs (relT (agRel v))) w hp hl hq hm (rel729_bs _) hc
  have := ph_spec (bs (relT (agRel u))) _ _ (bs (relT (agRel v))) _ true _ c1 (fun _ w => specRelWithin_yes (bs (relT (agRel u))) _ ⟨rel729_bs _, rel729_bs _⟩ w) w
  rw [ph_eq, Bool.true_and, phB_congr (fun i hi j hj => relS_bs _ hi hj) (fun i hi j hj => relS_bs _ hi hj)] at this
  exact this) w
 exact k
theorem ph_at (p q : Pg) (u v : ByteArray) (hp : p.ok false) (hl : p.ser.length ≤ 200) (hq : q.ok false) (hm : q.ser.length ≤ 200) (w : World) :
  Calls Tryz.prog 16 #[.string (bs (relT (agRel u))), .string (bs p.ser), .string (bs q.ser), .string (bs (relT (agRel v)))] w fun e w' => e = .returned (.bool (phB p q (agRel u) (agRel v))) ∧ Below w.heap.size w w' := by
 have k := implPh_yes (bs (relT (agRel u))) (bs p.ser) (bs q.ser) (bs (relT (agRel v))) w hp (by simp [bs]) (by rw [bs_size]; exact hl) hq (by simp [bs]) (by rw [bs_size]; exact hm) (rel729_bs _) (rel729_bs _)
 rwa [phB_congr (fun i hi j hj => relS_bs _ hi hj) (fun i hi j hj => relS_bs _ hi hj)] at k
theorem sol_facts (s t u v : ByteArray) (lu : u.size ≤ maxLen) (lv : v.size ≤ maxLen) : ∃ (b b1 b2 : Bool) (x y : ByteArray),
  (∀ w, Calls Tryz.prog 13 #[.string s, .string t, .string u, .string v] w fun e w' => e = .returned (.bool b) ∧ Below w.heap.size w w') ∧
  (∀ w, Calls Tryz.prog 14 #[.string s, .string t, .string u, .string v] w fun e w' => e = .returned (.bool b) ∧ Below w.heap.size w w') ∧
  (∀ w, Calls Tryz.prog 15 #[.string u] w fun e w' => e = .returned (.tuple #[.string x, .bool b1]) ∧ Below w.heap.size w w') ∧
  (∀ w, Calls Tryz.prog 15 #[.string v] w fun e w' => e = .returned (.tuple #[.string y, .bool b2]) ∧ Below w.heap.size w w') ∧
  ((b1 && b2) = false → b = false) ∧
  ((b1 && b2) = true → (∀ w, Calls Tryz.prog 16 #[.string x, .string s, .string t, .string y] w fun e w' => e = .returned (.bool b) ∧ Below w.heap.size w w') ∧
   (b = true → (∀ w, Calls Tryz.prog 13 #[.string t, .string s, .string u, .string v] w fun e w' => e = .returned (.bool true) ∧ Below w.heap.size w w') ∧
    (∀ w, Calls Tryz.prog 13 #[.string s, .string t, .string ⟨#[120, 121, 122]⟩, .string v] w fun e w' => e = .returned (.bool true) ∧ Below w.heap.size w w') ∧
    ∀ w, Calls Tryz.prog 13 #[.string s, .string t, .string u, .string ⟨#[]⟩] w fun e w' => e = .returned (.bool true) ∧ Below w.heap.size w w')) := by
 by_cases hu : AgV u
 ·by_cases hv : AgV v
  ·by_cases h : PV s ∧ PV t
   ·obtain ⟨⟨⟨p, hp, hs⟩, hl⟩, ⟨q, hq, ht⟩, hn⟩ := h
    obtain rfl := bs_ofP hs
    obtain rfl := bs_ofP ht
    have lp : p.ser.length ≤ 200 := by rwa [bs_size] at hl
    have lq : q.ser.length ≤ 200 := by rwa [bs_size] at hn
    refine ⟨phB p q (agRel u) (agRel v), true, true, _, _, so_yes p q u v hp lp hq lq hu hv, sos_yes p q u v hp lp hq lq hu hv lu lv, implAg_yes u hu, implAg_yes v hv, fun k => (by cases k), fun _ => ⟨ph_at p q u v hp lp hq lq, fun hb => ⟨fun w => ?_, fun w => ?_, fun w => ?_⟩⟩⟩
    ·have k := so_yes q p u v hq lq hp lp hu hv w
     rwa [so_turn p q u v hb] at k
    ·have k := so_yes p q xyzW v hp lp hq lq agv_xyzW hv w
     rwa [so_more p q u v hb] at k
    ·have k := so_yes p q u ⟨#[]⟩ hp lp hq lq hu agv_nil w
     rwa [so_less p q u] at k
   ·obtain ⟨b, c1, d1⟩ := so_any2 s t u v lu lv
    have hf := so_no s t u v h hu hv
    have d2 : ∀ w, Calls Tryz.prog 14 #[.string s, .string t, .string u, .string v] w fun e w' => e = .returned (.bool false) ∧ Below w.heap.size w w' := fun w => by
     obtain ⟨b', hb', hc'⟩ := ready_any s t (bs (relT (agRel v))) (rel_len _)
     obtain rfl : b' = false := by cases b' with | false => rfl | true => exact absurd ⟨(hb'.1 rfl).1, (hb'.1 rfl).2.1⟩ h
     exact so_spec s t u v _ _ true true false (fun w => specAg_yes u hu lu w) (fun w => specAg_yes v hv lv w) (fun _ w => ph_spec _ s t _ _ false false (fun w => specPf_no s t _ w hc') (fun h => by cases h) w) w
    have d3 : ∀ w, Calls Tryz.prog 16 #[.string (bs (relT (agRel u))), .string s, .string t, .string (bs (relT (agRel v)))] w fun e w' => e = .returned (.bool false) ∧ Below w.heap.size w w' := fun w => by
     have d4 : ∀ w, Calls Tryz.prog 75 #[.string s, .string t, .string (bs (relT (agRel v)))] w fun e w' => ∃ v1 v2, e = .returned (.tuple #[v1, v2, .agg (relC .u32 noR), .bool false]) ∧ Below w.heap.size w w' := fun w => (three_bad s t _ (fun k => h ⟨k.1, k.2.1⟩) w).mono fun e w' ⟨he, hb⟩ => ⟨_, _, he, hb⟩
     exact implPh_no _ s t _ false true _ _ rfl d4 (fun w => readRel_yes _ (rel729_bs _) w) w
    exact ⟨false, true, true, _, _, hf, d2, implAg_yes u hu, implAg_yes v hv, fun _ => rfl, fun _ => ⟨d3, fun k => (by cases k)⟩⟩
  ·exact ⟨false, true, false, _, _, fun w => so_impl s t u v _ _ true false false (fun w => implAg_yes u hu w) (fun w => implAg_no v hv w) (fun w => implPh_not _ s t _ (fun k => not729 k.2) w) w, fun w => so_spec s t u v _ _ true false false (fun w => specAg_yes u hu lu w) (fun w => specAg_no v hv lv w) (fun h => by cases h) w, implAg_yes u hu, implAg_no v hv, fun _ => rfl, fun k => (by cases k)⟩
 ·obtain ⟨y, b2, _, _, _, c2, d2⟩ := ag_any2 v lv
  exact ⟨false, false, b2, _, y, fun w => so_impl s t u v _ _ false b2 false (fun w => implAg_no u hu w) d2 (fun w => implPh_not _ s t y (fun k => not729 k.1) w) w, fun w => so_spec s t u v _ y false b2 false (fun w => specAg_no u hu lu w) c2 (fun h => by cases h) w, implAg_no u hu, d2, fun _ => rfl, fun k => (by cases k)⟩
theorem l10_list (l : List UInt8) (h : l.length ≤ 3) : (bs l).size ≤ 3 := by rw [bs_size]; exact h
def varsC : Array Value := #[.string ⟨#[120]⟩, .string ⟨#[121]⟩, .string ⟨#[120, 121]⟩, .string ⟨#[120, 121, 122]⟩, .string ⟨#[]⟩, .string ⟨#[122]⟩, .string ⟨#[121, 122]⟩, .string ⟨#[120, 122]⟩, .string ⟨#[120]⟩, .string ⟨#[121]⟩, .string ⟨#[121, 120]⟩, .string ⟨#[88]⟩]
theorem varsQ : ∀ i, i < 12 → ∃ s, varsC[i]? = some (.string s) ∧ s.size ≤ 3 := by
 intro i hi
 have hc : i = 0 ∨ i = 1 ∨ i = 2 ∨ i = 3 ∨ i = 4 ∨ i = 5 ∨ i = 6 ∨ i = 7 ∨ i = 8 ∨ i = 9 ∨ i = 10 ∨ i = 11 := by omega
 rcases hc with rfl | rfl | rfl | rfl | rfl | rfl | rfl | rfl | rfl | rfl | rfl | rfl <;> exact ⟨_, rfl, by decide⟩
set_option maxRecDepth 100000 in
set_option maxHeartbeats 8000000 in
theorem vars10 {a p : Nat} {w : World} (hr : Rd a p w) (hp : p ≤ 900000) :
  Calls Tryz.prog 69 #[.pointer (some ⟨a, 0, none⟩)] w (DrP a p 0 3 1 w) := by
 have HR := Lib.hid hr
 have hlt := hr.lt
 have hne : w.heap.size ≠ a := by omega
 have HL := Lib.hid (Blk.new w varsC 9)
 have hax := (Below.refl _ w).alloc (Nat.le_refl _) (.cells varsC 9)
 have HRx := Lib.hid (hr.kept hax)
 have HKx := Lib.hid (Kp.of (a := a) hax)
 have HQ := Lib.hid varsQ
 clear hr hax
 go_enter Tryz.func69, Tryz.ntmps69
 go_wp2_with fail
 refine (of_any 12 12 (fun s => s.size ≤ 3) HRx.out (by omega) HL.out hne (by omega) (by omega) HQ.out).mono ?_
 rintro e w2 ⟨o, ho, rfl, hr, hk⟩
 have HR2 := Lib.hid hr
 have HK2 := Lib.hid (HKx.out.trans hk)
 clear hr hk
 go_wp2_with fail
 go_ret
 exact ⟨o, p + 1, by omega, ho, by omega, rfl, HR2.out, HK2.out⟩
set_option maxHeartbeats 4000000 in
theorem drawSameOn {a : Option Addr} {len cap : Nat} {zs : List Int} {w : World} (h : IsRow w a len cap zs) :
  Calls Tryz.prog 12 #[.slice a len cap] w fun e w' => ∃ s t u v : ByteArray, s.size ≤ 100000 ∧ t.size ≤ 100000 ∧ u.size ≤ 3 ∧ v.size ≤ 3 ∧ e = .returned (.tuple #[.string s, .string t, .string u, .string v]) ∧ Below w.heap.size w w' := by
 have HO := Lib.hid (open_any h)
 clear h
 go_enter Tryz.func12, Tryz.ntmps12
 go_wp2_with fail
 refine HO.out.mono ?_
 rintro e w1 ⟨rfl, hr, hb⟩
 have HW1 := Lib.hid hb
 have HC := Lib.hid (pair10 hr (by omega))
 clear hr hb
 go_wp2_with fail
 refine HC.out.mono ?_
 rintro e w2 ⟨s, t, q, t1, t2, hq, rfl, hr, hk⟩
 have HR2 := Lib.hid hr
 have HK2 := Lib.hid hk
 clear hr hk
 have HC := Lib.hid (vars10 HR2.out (by omega))
 go_wp2_with fail
 refine HC.out.mono ?_
 rintro e w3 ⟨u, q3, u1, u2, hq3, rfl, hr, hk⟩
 have HR3 := Lib.hid hr
 have HK3 := Lib.hid (HK2.out.trans hk)
 clear hr hk
 have HC := Lib.hid (vars10 HR3.out (by omega))
 go_wp2_with fail
 refine HC.out.mono ?_
 rintro e w4 ⟨v, q4, v1, v2, hq4, rfl, hr, hk⟩
 have HW4 := Lib.hid (HW1.out.trans ((HK3.out.trans hk).below (Nat.le_refl _) HW1.out.size))
 clear hr hk
 go_wp2_with fail
 refine bodyPost_ret (v := .tuple #[.string s, .string t, .string u, .string v]) (by simp [results, Tryz.results12, go_sem]) rfl ?_
 exact ⟨s, t, u, v, t1, t2, u2, v2, rfl, HW4.out⟩
set_option maxRecDepth 100000 in
set_option maxHeartbeats 16000000 in
theorem walkSameOn {a0 : Option Addr} {len0 cap0 : Nat} {z0 : List Int} (w : World) (h0 : IsRow w a0 len0 cap0 z0) :
  Calls Tryz.prog 3 #[.slice a0 len0 cap0] w fun e w' => e = .returned (.bool true) ∧ Below w.heap.size w w' := by
 have DD := Lib.hid (drawSameOn h0)
 clear h0
 by_cases hl : (1048576 : Int) < len0
 ·go_enter Tryz.func3, Tryz.ntmps3
  go_wp2_with fail
  go_ret
  exact ⟨rfl, Below.refl _ _⟩
 go_enter Tryz.func3, Tryz.ntmps3
 go_wp2_with fail
 refine DD.out.mono ?_
 rintro e w1 ⟨s, t, u, v, ls, lt, lu, lv, rfl, hb⟩
 have HB := Lib.hid hb
 clear hb DD
 obtain ⟨b, b1, b2, x, y, c1, c2, c3, c4, hf, ht⟩ := sol_facts s t u v (by unfold maxLen; omega) (by unfold maxLen; omega)
 replace c1 := fun w => Lib.hid (c1 w)
 replace c2 := fun w => Lib.hid (c2 w)
 replace c3 := fun w => Lib.hid (c3 w)
 replace c4 := fun w => Lib.hid (c4 w)
 cases hbb : (b1 && b2) with
 | false =>
  obtain rfl := hf hbb
  clear hf ht
  have HBB := Lib.hid hbb
  clear hbb
  cases b1 with
  | false =>
   clear HBB
   go_wp2_with fail
   refine (c1 _).out.mono ?_
   rintro e w2 ⟨rfl, hb⟩
   replace HB := Lib.hid (bnext HB.out hb)
   clear hb
   go_wp2_with fail
   refine (c2 _).out.mono ?_
   rintro e w2 ⟨rfl, hb⟩
   replace HB := Lib.hid (bnext HB.out hb)
   clear hb
   go_wp2_with fail
   refine (c3 _).out.mono ?_
   rintro e w2 ⟨rfl, hb⟩
   replace HB := Lib.hid (bnext HB.out hb)
   clear hb
   go_wp2_with fail
   refine (c4 _).out.mono ?_
   rintro e w2 ⟨rfl, hb⟩
   replace HB := Lib.hid (bnext HB.out hb)
   clear hb
   go_wp2_with fail
   go_ret
   exact ⟨rfl, HB.out⟩
  | true =>
   obtain rfl : b2 = false := by have := HBB.out; simpa using this
   clear HBB
   go_wp2_with fail
   refine (c1 _).out.mono ?_
   rintro e w2 ⟨rfl, hb⟩
   replace HB := Lib.hid (bnext HB.out hb)
   clear hb
   go_wp2_with fail
   refine (c2 _).out.mono ?_
   rintro e w2 ⟨rfl, hb⟩
   replace HB := Lib.hid (bnext HB.out hb)
   clear hb
   go_wp2_with fail
   refine (c3 _).out.mono ?_
   rintro e w2 ⟨rfl, hb⟩
   replace HB := Lib.hid (bnext HB.out hb)
   clear hb
   go_wp2_with fail
   refine (c4 _).out.mono ?_
   rintro e w2 ⟨rfl, hb⟩
   replace HB := Lib.hid (bnext HB.out hb)
   clear hb
   go_wp2_with fail
   go_ret
   exact ⟨rfl, HB.out⟩
 | true =>
  obtain ⟨c5, ht2⟩ := ht hbb
  rw [Bool.and_eq_true] at hbb
  obtain ⟨rfl, rfl⟩ := hbb
  clear hf ht
  replace c5 := fun w => Lib.hid (c5 w)
  cases b with
  | false =>
   clear ht2
   go_wp2_with fail
   refine (c1 _).out.mono ?_
   rintro e w2 ⟨rfl, hb⟩
   replace HB := Lib.hid (bnext HB.out hb)
   clear hb
   go_wp2_with fail
   refine (c2 _).out.mono ?_
   rintro e w2 ⟨rfl, hb⟩
   replace HB := Lib.hid (bnext HB.out hb)
   clear hb
   go_wp2_with fail
   refine (c3 _).out.mono ?_
   rintro e w2 ⟨rfl, hb⟩
   replace HB := Lib.hid (bnext HB.out hb)
   clear hb
   go_wp2_with fail
   refine (c4 _).out.mono ?_
   rintro e w2 ⟨rfl, hb⟩
   replace HB := Lib.hid (bnext HB.out hb)
   clear hb
   go_wp2_with fail
   refine (c5 _).out.mono ?_
   rintro e w2 ⟨rfl, hb⟩
   replace HB := Lib.hid (bnext HB.out hb)
   clear hb
   go_wp2_with fail
   go_ret
   exact ⟨rfl, HB.out⟩
  | true =>
   obtain ⟨c6, c7, c8⟩ := ht2 rfl
   clear ht2
   replace c6 := fun w => Lib.hid (c6 w)
   replace c7 := fun w => Lib.hid (c7 w)
   replace c8 := fun w => Lib.hid (c8 w)
   go_wp2_with fail
   refine (c1 _).out.mono ?_
   rintro e w2 ⟨rfl, hb⟩
   replace HB := Lib.hid (bnext HB.out hb)
   clear hb
   go_wp2_with fail
   refine (c2 _).out.mono ?_
   rintro e w2 ⟨rfl, hb⟩
   replace HB := Lib.hid (bnext HB.out hb)
   clear hb
   go_wp2_with fail
   refine (c3 _).out.mono ?_
   rintro e w2 ⟨rfl, hb⟩
   replace HB := Lib.hid (bnext HB.out hb)
   clear hb
   go_wp2_with fail
   refine (c4 _).out.mono ?_
   rintro e w2 ⟨rfl, hb⟩
   replace HB := Lib.hid (bnext HB.out hb)
   clear hb
   go_wp2_with fail
   refine (c5 _).out.mono ?_
   rintro e w2 ⟨rfl, hb⟩
   replace HB := Lib.hid (bnext HB.out hb)
   clear hb
   go_wp2_with fail
   refine (c6 _).out.mono ?_
   rintro e w2 ⟨rfl, hb⟩
   replace HB := Lib.hid (bnext HB.out hb)
   clear hb
   go_wp2_with fail
   refine (c7 _).out.mono ?_
   rintro e w2 ⟨rfl, hb⟩
   replace HB := Lib.hid (bnext HB.out hb)
   clear hb
   go_wp2_with fail
   refine (c8 _).out.mono ?_
   rintro e w2 ⟨rfl, hb⟩
   replace HB := Lib.hid (bnext HB.out hb)
   clear hb
   go_wp2_with fail
   go_ret
   exact ⟨rfl, HB.out⟩
theorem Tryz.own : ownKnob Tryz.prog.godebug = none := by kernel_rfl
theorem laidOut : laidOutB Tryz.prog = true := by kernel_rfl
set_option linter.unusedVariables false in
set_option maxRecDepth 100000 in
set_option maxHeartbeats 2000000 in
theorem lifted (os : Os) (started : os.Started) (H : Type) (enc : TypeId × Value → H) :
  ReturnsInHanded {} Tryz.checked os 3 .any (fun w args => (Rows.fnSameOnSpec.pre enc Tryz.prog Tryz.f3 Rows.fnSameOnRow.domain false w args ∧ laidMetH Tryz.prog Rows.fnSameOnRow.laid w) ∧ sizedMet enc Tryz.prog Tryz.f3 (OpenSpec.ofChange Rows.fnSameOnSpec) false w args)
   (Rows.fnSameOnSpec.post enc Tryz.prog Tryz.f3 false true false false) := by
 refine returnsInHanded_of_change_and (C := Tryz.checked) (X := fun w _ => laidMetH Tryz.prog Rows.fnSameOnRow.laid w) (fun _ _ _ hh h => h.of_heap hh) Tryz.own started (by kernel_rfl) Tryz.func3
  (ChangeSpec.witness_shaped (enc := enc) (C := Tryz.checked) (os := os) (X := fun w _ => laidMetH Tryz.prog Rows.fnSameOnRow.laid w) false (World.laidAll Tryz.prog os Rows.fnSameOnRow.laid) #[.slice none 0 0] 8 (World.laidAll_os _ _ _)
   (World.shaped_of_ZipB (by kernel_rfl) (by kernel_rfl)) (by kernel_rfl) (by kernel_rfl) (by kernel_rfl)
   (by rw [MakeChecks.laidMetH_plain _ _ _ (by kernel_rfl)]; exact laidMet_laidAll _ (by kernel_rfl) (by kernel_rfl))) ?_
 intro W base args ds gs before hval0 hW _ _ hL _
 have hval : ∀ (j : Nat) t v, Tryz.f3.params[j]? = some t → args[j]? = some v → Value.okWide Tryz.prog W .any base t v := hval0
 have hW' := hW
 obtain ⟨p, q, hA0, hV, rfl, _, _⟩ := hW
 have hA : DataW.TrodAll enc Tryz.prog W 0 (fun _ => true) true Tryz.f3.params.toList args.toList ds p := hA0
 rw [Tryz.params3] at hA hval
 obtain ⟨v0, vs0, d0, ds0, p0, q0, hargs, rfl, rfl, h0, r0⟩ := trodAll_cons hA
 obtain ⟨rfl, rfl, rfl⟩ := trodAll_nil r0
 obtain rfl : args = #[v0] := by cases args; simp_all
 obtain ⟨rfl, rfl⟩ := trodVars_none hV
 obtain ⟨a0, len0, cap0, rfl⟩ := okWide_slice Tryz.underlying22 (hval 0 22 v0 rfl rfl)
 have k0 := h0
 have lt0 : ∀ x ∈ p0, x.block < W.heap.size := by obtain ⟨m, hm⟩ := k0; exact DataW.trod_lt m _ _ _ hm
 obtain ⟨z0, w0⟩ : ∃ zs, IsRow W a0 len0 cap0 zs := by
  obtain ⟨fuel, hf⟩ := h0
  rcases open_ints Tryz.underlying22 Tryz.underlying5 (by kernel_rfl) hf with ⟨hcs, _⟩ | ⟨x, l, c, zs, hcs, _, hl, hm, hz, _, hcell, hwz⟩
  ·simp [Value.cells] at hcs
   obtain ⟨rfl, rfl, rfl⟩ := hcs
   exact ⟨[], .inl ⟨rfl, rfl, rfl, rfl⟩⟩
  ·simp [Value.cells] at hcs
   obtain ⟨rfl, rfl, rfl⟩ := hcs
   exact ⟨zs, .inr ⟨_, rfl, hl, hm, by simpa using hz, hcell, hwz⟩⟩
 clear hA0 hval0
 refine (walkSameOn W w0).mono fun e W' ⟨he, bel⟩ => ?_
 subst he
 exact ⟨_, rfl, _, _, _, [], _, [], hW', trodAll_mk1 (shut_bool Tryz.underlying4 _), (trodAll_cons_mk (Below.trod laidOut (by kernel_rfl) (of_decide_eq_true (by kernel_rfl)) k0 bel lt0) trodAll_mk0), rfl, bel.frame _, fun h => by cases h⟩
-- each of the three walks over the program by itself: together they are too much for the kernel's memory
theorem jf1 : (Rows.fnSameOnRow.inPlace == Tryz.prog.inPlace 3) = true := by kernel_rfl
theorem jf2 : (Rows.fnSameOnRow.unfollowed == Tryz.prog.unfollowed 3) = true := by kernel_rfl
theorem jf3 : (Rows.fnSameOnRow.recurses == Tryz.prog.recurses 3) = true := by kernel_rfl
theorem jf4 : (Rows.fnSameOnRow.named == Tryz.prog.varsNamed 3) = true := by kernel_rfl
theorem jf5 : laidOutB Tryz.prog = true := by kernel_rfl
theorem jf6 : mapsRowed Tryz.prog = true := by kernel_rfl
theorem jf7 : Tryz.prog.stopsHeard = true := by kernel_rfl
theorem jg : false = (Rows.fnSameOnRow).goesBy Tryz.pinned.checked.prog := by kernel_rfl
theorem closed : joinedFacts Tryz.prog 3 Tryz.f3 Rows.fnSameOnSpec Rows.fnSameOnRow = true := by
 unfold joinedFacts
 rw [jf1, jf2, jf3, jf4, jf5, jf6, jf7]
 kernel_rfl
theorem said : Rows.FnSameOnSaid :=
 OpenClaim.holds_of_wide 3 Tryz.f3 rfl rfl rfl rfl rfl rfl rfl ⟨rfl, rfl, rfl, rfl, rfl⟩ rfl rfl rfl rfl rfl (by kernel_rfl) Tryz.func3 closed
  (of_decide_eq_true (by kernel_rfl)) (by unfold Func.isWrapper; first | (rw [if_pos (by decide +kernel)]; kernel_rfl) | (rw [if_neg (by decide +kernel)]; exact ⟨rfl, rfl⟩))
  (fun os started H enc _ => by rw [OpenClaim.pre_eq_preRow]; exact lifted os started H enc)
theorem plain (f : FuncId) (fn : Func) (hf : Tryz.pinned.checked.prog.funcNamed Rows.fnSameOnRow.func = some f) (hfn : Tryz.pinned.checked.prog.funcs[f]? = some fn) :
  true = Tryz.pinned.checked.prog.looks [] ∧ ∀ (j : Nat) t, fn.params[j]? = some t → Tryz.pinned.checked.prog.wantsStandIn t = false := by
 obtain rfl : f = 3 := Option.some.inj ((show Tryz.prog.funcNamed Rows.fnSameOnRow.func = some 3 by kernel_rfl).symm.trans hf) |>.symm
 obtain rfl : fn = Tryz.f3 := (Option.some.inj (Tryz.func3.symm.trans hfn)).symm
 refine ⟨by kernel_rfl, fun j t ht => ?_⟩
 rw [Tryz.params3] at ht
 obtain rfl : t = 22 := by
  have := Array.mem_of_getElem? ht
  simpa using this
 exact (show Tryz.prog.wantsStandIn 22 = false by kernel_rfl)
theorem sameOn_card : Rows.FnSameOnCardSaid :=
 Claim7.holds_tied_plain_at .later [] _ _ _ _ said (fun _ h => by cases h) (by kernel_rfl) (fun _ h => by cases h) fnSameOn_row_tie rfl ⟨rfl, rfl⟩ (by kernel_rfl) rfl plain jg
#print axioms sameOn_card
end Go.Proofs.YtgkoljphndgoeaaGreatDoor
