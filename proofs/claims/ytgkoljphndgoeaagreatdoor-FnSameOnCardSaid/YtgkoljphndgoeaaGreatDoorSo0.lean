import Derived.Test.YtgkoljphndgoeaaGreatDoorPh0
import Derived.Test.YtgkoljphndgoeaaGreatDoorTopA1
namespace Go.Proofs.YtgkoljphndgoeaaGreatDoor
open Go.RowKit Tm Go.Great
set_option maxHeartbeats 4000000 in
theorem so_impl (s t u v x y : ByteArray) (b1 b2 b3 : Bool)
  (c1 : ∀ w, Calls Tryz.prog 15 #[.string u] w fun e w' => e = .returned (.tuple #[.string x, .bool b1]) ∧ Below w.heap.size w w')
  (c2 : ∀ w, Calls Tryz.prog 15 #[.string v] w fun e w' => e = .returned (.tuple #[.string y, .bool b2]) ∧ Below w.heap.size w w')
  (c3 : ∀ w, Calls Tryz.prog 16 #[.string x, .string s, .string t, .string y] w fun e w' => e = .returned (.bool b3) ∧ Below w.heap.size w w') (w : World) :
  Calls Tryz.prog 13 #[.string s, .string t, .string u, .string v] w fun e w' => e = .returned (.bool b3) ∧ Below w.heap.size w w' := by
 have C1 := Lib.hid c1
 have C2 := Lib.hid c2
 have C3 := Lib.hid c3
 clear c1 c2 c3
 go_enter Tryz.func13, Tryz.ntmps13
 go_wp2_with fail
 refine (C1.out _).mono ?_
 rintro e w2 ⟨rfl, hb⟩
 have HB2 := Lib.hid hb
 clear hb
 go_wp2_with fail
 refine (C2.out _).mono ?_
 rintro e w3 ⟨rfl, hb⟩
 have HB3 := Lib.hid (bnext HB2.out hb)
 clear hb
 go_wp2_with fail
 refine (C3.out _).mono ?_
 rintro e w4 ⟨rfl, hb⟩
 have HB4 := Lib.hid (bnext HB3.out hb)
 clear hb
 go_wp2_with fail
 go_ret
 exact ⟨rfl, HB4.out⟩
set_option maxHeartbeats 4000000 in
theorem so_spec (s t u v x y : ByteArray) (b1 b2 b3 : Bool)
  (c1 : ∀ w, Calls Tryz.prog 70 #[.string u] w fun e w' => e = .returned (.tuple #[.string x, .bool b1]) ∧ Below w.heap.size w w')
  (c2 : ∀ w, Calls Tryz.prog 70 #[.string v] w fun e w' => e = .returned (.tuple #[.string y, .bool b2]) ∧ Below w.heap.size w w')
  (c3 : (b1 && b2) = true → ∀ w, Calls Tryz.prog 71 #[.string x, .string s, .string t, .string y] w fun e w' => e = .returned (.bool b3) ∧ Below w.heap.size w w') (w : World) :
  Calls Tryz.prog 14 #[.string s, .string t, .string u, .string v] w fun e w' => e = .returned (.bool (b1 && b2 && b3)) ∧ Below w.heap.size w w' := by
 have C1 := Lib.hid c1
 have C2 := Lib.hid c2
 clear c1 c2
 cases b1
 case false =>
  clear c3
  go_enter Tryz.func14, Tryz.ntmps14
  go_wp2_with fail
  refine (C1.out _).mono ?_
  rintro e w2 ⟨rfl, hb⟩
  have HB2 := Lib.hid hb
  clear hb
  go_wp2_with fail
  refine (C2.out _).mono ?_
  rintro e w3 ⟨rfl, hb⟩
  have HB3 := Lib.hid (bnext HB2.out hb)
  clear hb
  go_wp2_with fail
  go_ret
  exact ⟨rfl, HB3.out⟩
 case true =>
 cases b2
 case false =>
  clear c3
  go_enter Tryz.func14, Tryz.ntmps14
  go_wp2_with fail
  refine (C1.out _).mono ?_
  rintro e w2 ⟨rfl, hb⟩
  have HB2 := Lib.hid hb
  clear hb
  go_wp2_with fail
  refine (C2.out _).mono ?_
  rintro e w3 ⟨rfl, hb⟩
  have HB3 := Lib.hid (bnext HB2.out hb)
  clear hb
  go_wp2_with fail
  go_ret
  exact ⟨rfl, HB3.out⟩
 case true =>
 have C3 := Lib.hid (c3 rfl)
 clear c3
 go_enter Tryz.func14, Tryz.ntmps14
 go_wp2_with fail
 refine (C1.out _).mono ?_
 rintro e w2 ⟨rfl, hb⟩
 have HB2 := Lib.hid hb
 clear hb
 go_wp2_with fail
 refine (C2.out _).mono ?_
 rintro e w3 ⟨rfl, hb⟩
 have HB3 := Lib.hid (bnext HB2.out hb)
 clear hb
 go_wp2_with fail
 refine (C3.out _).mono ?_
 rintro e w4 ⟨rfl, hb⟩
 have HB4 := Lib.hid (bnext HB3.out hb)
 clear hb
 go_wp2_with fail
 go_ret
 exact ⟨rfl, HB4.out⟩
theorem implPh_not (x s t r : ByteArray) (h : ¬ (Rel729 x ∧ Rel729 r)) (w : World) : Calls Tryz.prog 16 #[.string x, .string s, .string t, .string r] w fun e w' => e = .returned (.bool false) ∧ Below w.heap.size w w' := by
 by_cases hr : PV s ∧ PV t ∧ Rel729 r
 ·obtain ⟨⟨⟨p, hp, hs⟩, hl⟩, ⟨⟨q, hq, ht⟩, hn⟩, hr⟩ := hr
  have hx : ¬ Rel729 x := fun k => h ⟨k, hr⟩
  exact implPh_no x s t r true false noR _ rfl (fun w => (three_yes s t r w hp hs hl hq ht hn hr).mono fun e w' ⟨T, u, T', u', _, _, he, _, _, hb⟩ => ⟨_, _, he, hb⟩) (fun w => readRel_no x hx w) w
 ·have d1 : ∀ w, Calls Tryz.prog 75 #[.string s, .string t, .string r] w fun e w' => ∃ v1 v2, e = .returned (.tuple #[v1, v2, .agg (relC .u32 noR), .bool false]) ∧ Below w.heap.size w w' := fun w => (three_bad s t r hr w).mono fun e w' ⟨he, hb⟩ => ⟨_, _, he, hb⟩
  by_cases hx : Rel729 x
  ·exact implPh_no x s t r false true _ _ rfl d1 (fun w => readRel_yes x hx w) w
  ·exact implPh_no x s t r false false _ _ rfl d1 (fun w => readRel_no x hx w) w
theorem rel_len (T : Nat → Nat → Bool) : (bs (relT T)).size ≤ maxLen := by rw [(rel729_bs T).size]; decide
theorem not729 : ¬ Rel729 ⟨#[]⟩ := fun h => by have := h.size; cases this
theorem so_any2 (s t u v : ByteArray) (hu : u.size ≤ maxLen) (hv : v.size ≤ maxLen) : ∃ b : Bool, (∀ w, Calls Tryz.prog 14 #[.string s, .string t, .string u, .string v] w fun e w' => e = .returned (.bool b) ∧ Below w.heap.size w w') ∧ ∀ w, Calls Tryz.prog 13 #[.string s, .string t, .string u, .string v] w fun e w' => e = .returned (.bool b) ∧ Below w.heap.size w w' := by
 obtain ⟨x, b1, hx, _, n1, c1, d1⟩ := ag_any2 u hu
 obtain ⟨y, b2, hy, _, n2, c2, d2⟩ := ag_any2 v hv
 cases b1 with
 | false =>
  obtain ⟨_, rfl⟩ := n1 rfl
  exact ⟨false, fun w => so_spec s t u v _ y false b2 false c1 c2 (fun h => by cases h) w, fun w => so_impl s t u v _ y false b2 false d1 d2 (fun w => implPh_not _ s t y (fun k => not729 k.1) w) w⟩
 | true =>
  cases b2 with
  | false =>
   obtain ⟨_, rfl⟩ := n2 rfl
   exact ⟨false, fun w => so_spec s t u v x _ true false false c1 c2 (fun h => by cases h) w, fun w => so_impl s t u v x _ true false false d1 d2 (fun w => implPh_not x s t _ (fun k => not729 k.2) w) w⟩
  | true =>
   obtain ⟨b, c3, d3⟩ := ph_any2 x s t y hx hy
   exact ⟨b, fun w => so_spec s t u v x y true true b c1 c2 (fun _ => c3) w, fun w => so_impl s t u v x y true true b d1 d2 d3 w⟩
theorem frR_congr {p q : Pg} {A B : Nat → Nat → Bool} (h : ∀ i, i < 27 → ∀ j, j < 27 → A i j = B i j) (i j : Nat) : frR p q A i j = frR p q B i j := by
 rw [Bool.eq_iff_iff, frR_iff, frR_iff]
 exact ⟨fun k a ha c hc hr => (h a ha c hc) ▸ k a ha c hc hr, fun k a ha c hc hr => (h a ha c hc).symm ▸ k a ha c hc hr⟩
theorem phB_congr {p q : Pg} {F F' P P' : Nat → Nat → Bool} (h : ∀ i, i < 27 → ∀ j, j < 27 → F i j = F' i j) (h' : ∀ i, i < 27 → ∀ j, j < 27 → P i j = P' i j) : phB p q F P = phB p q F' P' := by
 unfold phB
 rw [Bool.eq_iff_iff, relEq_iff, relEq_iff]
 constructor
 ·intro k i hi j hj
  rw [← frR_congr h', ← h i hi j hj]; exact k i hi j hj
 ·intro k i hi j hj
  rw [frR_congr h', h i hi j hj]; exact k i hi j hj
theorem so_yes (p q : Pg) (u v : ByteArray) (hp : p.ok false) (hl : p.ser.length ≤ 200) (hq : q.ok false) (hm : q.ser.length ≤ 200) (hu : AgV u) (hv : AgV v) (w : World) :
  Calls Tryz.prog 13 #[.string (bs p.ser), .string (bs q.ser), .string u, .string v] w fun e w' => e = .returned (.bool (phB p q (agRel u) (agRel v))) ∧ Below w.heap.size w w' := by
 have k := so_impl (bs p.ser) (bs q.ser) u v _ _ true true _ (fun w => implAg_yes u hu w) (fun w => implAg_yes v hv w)
  (fun w => implPh_yes (bs (relT (agRel u))) (bs p.ser) (bs q.ser) (bs (relT (agRel v))) w hp (by simp [bs]) (by rw [bs_size]; exact hl) hq (by simp [bs]) (by rw [bs_size]; exact hm) (rel729_bs _) (rel729_bs _)) w
 rwa [show phB p q (relS (bs (relT (agRel u))).data.toList) (relS (bs (relT (agRel v))).data.toList) = phB p q (agRel u) (agRel v) from phB_congr (fun i hi j hj => relS_bs _ hi hj) (fun i hi j hj => relS_bs _ hi hj)] at k
theorem so_no (s t u v : ByteArray) (h : ¬ (PV s ∧ PV t)) (hu : AgV u) (hv : AgV v) (w : World) :
  Calls Tryz.prog 13 #[.string s, .string t, .string u, .string v] w fun e w' => e = .returned (.bool false) ∧ Below w.heap.size w w' := by
 refine so_impl s t u v _ _ true true false (fun w => implAg_yes u hu w) (fun w => implAg_yes v hv w) (fun w => ?_) w
 have d1 : ∀ w, Calls Tryz.prog 75 #[.string s, .string t, .string (bs (relT (agRel v)))] w fun e w' => ∃ v1 v2, e = .returned (.tuple #[v1, v2, .agg (relC .u32 noR), .bool false]) ∧ Below w.heap.size w w' := fun w => (three_bad s t _ (fun k => h ⟨k.1, k.2.1⟩) w).mono fun e w' ⟨he, hb⟩ => ⟨_, _, he, hb⟩
 exact implPh_no _ s t _ false true _ _ rfl d1 (fun w => readRel_yes _ (rel729_bs _) w) w
end Go.Proofs.YtgkoljphndgoeaaGreatDoor
