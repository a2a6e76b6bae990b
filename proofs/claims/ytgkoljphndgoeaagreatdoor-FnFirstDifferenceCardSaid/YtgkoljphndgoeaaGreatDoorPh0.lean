import Derived.Test.YtgkoljphndgoeaaGreatDoorTopP2
import Derived.BigQuiet
namespace Go.Proofs.YtgkoljphndgoeaaGreatDoor
open Go.RowKit Tm Go.Great
theorem relS_bs (T : Nat → Nat → Bool) {i j : Nat} (hi : i < 27) (hj : j < 27) : relS (bs (relT T)).data.toList i j = T i j := by
 unfold relS
 rw [show (bs (relT T)).data.toList = relT T by simp [bs], relT_eq, hs_tbn]
 have h1 : 27 * i + j < 729 := by omega
 have h2 : (27 * i + j) / 27 = i := by omega
 have h3 : (27 * i + j) % 27 = j := by omega
 rw [h2, h3]
 simp [h1]
noncomputable def phB (p q : Pg) (F P : Nat → Nat → Bool) : Bool := relEq (fun i j => frR p q P i j && F i j) F
set_option maxRecDepth 1000000 in
set_option maxHeartbeats 8000000 in
theorem implPh_yes (x s t r : ByteArray) (w : World) {p q : Pg} (hp : p.ok false) (hs : s.data.toList = p.ser) (hl : s.size ≤ 200) (hq : q.ok false) (ht : t.data.toList = q.ser) (hm : t.size ≤ 200) (hr : Rel729 r) (hx : Rel729 x) :
  Calls Tryz.prog 16 #[.string x, .string s, .string t, .string r] w fun e w' => e = .returned (.bool (phB p q (relS x.data.toList) (relS r.data.toList))) ∧ Below w.heap.size w w' := by
 have C1 := fun w => Lib.hid (three_yes s t r w hp hs hl hq ht hm hr)
 have C2 := fun w => Lib.hid (readRel_yes x hx w)
 have HL := all_len hs hl
 have HM := all_len ht hm
 have HF := fun F A B B' v1 v2 w h1 h2 => Lib.hid (freeAmong_any p q B B' v1 v2 F A w h1 h2 hp hq HL HM)
 clear hs ht hr hx HL HM
 generalize relS r.data.toList = A at *
 generalize relS x.data.toList = F at *
 replace HF := Lib.hid (HF F A)
 have HEQ := r_eq (fun i j => frR p q A i j && F i j) F
 have HPB : relEq (fun i j => frR p q A i j && F i j) F = phB p q F A := rfl
 rw [HPB] at HEQ
 clear HPB
 generalize phB p q F A = res at *
 go_enter Tryz.func16, Tryz.ntmps16
 go_wp2_with fail
 refine (C1 _).out.mono ?_
 rintro e w2 ⟨T, u, T', u', B, B', rfl, h1, h2, hb⟩
 obtain ⟨p0, pb⟩ := push_blk w2 (relC .u32 noR) (relC .u32 A) 68
 have P0 := Lib.hid p0
 have L0 := Lib.hid (one_blk w2 (relC .u32 noR) 68).1
 have S1 := Lib.hid (h1.below pb)
 have S2 := Lib.hid (h2.below pb)
 have NB := Lib.hid (bnext hb pb)
 clear p0 pb h1 h2 hb C1
 go_wp2_with (first
  | (refine r_alloc rfl rfl (some 11) rfl w2.heap.size rfl ?_)
  | (refine wpList_store_row rfl 68 _ _ rfl w2.heap.size (relC .u32 A) (by rfl) (by rfl) 68 (relC .u32 noR) L0.out (infoR _) (by rw [relC_size, relC_size]) (relC_one _ _) ?_))
 clear L0
 generalize (w2.alloc (.cells (relC .u32 noR) 68)).setRow w2.heap.size (relC .u32 A) = w3 at *
 generalize w2.heap.size = b1 at *
 refine (C2 _).out.mono ?_
 rintro e w4 ⟨rfl, hb⟩
 obtain ⟨p0, pb⟩ := push_blk w4 (relC .u32 noR) (relC .u32 F) 68
 have L0 := Lib.hid (one_blk w4 (relC .u32 noR) 68).1
 have Q0 := Lib.hid (((P0.out.kept hb).kept pb)).drew
 have Q1 := Lib.hid p0.drew
 have T1 := Lib.hid (((S1.out.below hb).below pb).below (Below.refl _ _).drew)
 have T2 := Lib.hid (((S2.out.below hb).below pb).below (Below.refl _ _).drew)
 have QB := Lib.hid (bnext (bnext NB.out hb) pb).drew
 clear p0 pb hb C2 P0 S1 S2 NB
 go_wp2_with (first
  | (refine r_alloc rfl rfl (some 13) rfl w4.heap.size rfl ?_)
  | (refine wpList_store_row rfl 68 _ _ rfl w4.heap.size (relC .u32 F) (by rfl) (by rfl) 68 (relC .u32 noR) L0.out (infoR _) (by rw [relC_size, relC_size]) (relC_one _ _) ?_))
 clear L0
 generalize (w4.alloc (.cells (relC .u32 noR) 68)).setRow w4.heap.size (relC .u32 F) = w5 at *
 generalize w4.heap.size = b2 at *
 refine wp_region_held_drew (S := fun w' => Blk w' b1 (relC .u32 A) 68 ∧ Blk w' b2 (relC .u32 F) 68) (by kernel_rfl) ⟨Q0.out, Q1.out⟩ (fun hHeld => ?_)
 generalize w5.drew = wd at *
 refine wpAnyH_take (i := 0) (oi := { dst := some 29, op := _, type := _, pos := _, after := _, guard := _ }) (v := ?_) rfl (by kernel_rfl) (by kernel_rfl) (by kernel_rfl) (fun _ _ _ h => h) (Or.inl ⟨by kernel_rfl, ?_⟩) hHeld ?_
 rotate_left
 ·intro w hSw
  go_simp
  first | done | with_reducible rfl
 simp only [Act.put]
 try simp only [List.setIfInBounds_toArray]
 refine wpAnyH_take (i := 1) (oi := { dst := some 30, op := _, type := _, pos := _, after := _, guard := _ }) (v := ?_) rfl (by kernel_rfl) (by kernel_rfl) (by kernel_rfl) (fun _ _ _ h => h) (Or.inl ⟨by kernel_rfl, ?_⟩) hHeld ?_
 rotate_left
 ·intro w hSw
  go_simp
  first | done | with_reducible rfl
 simp only [Act.put]
 try simp only [List.setIfInBounds_toArray]
 refine wpAnyH_take (i := 2) (oi := { dst := some 31, op := _, type := _, pos := _, after := _, guard := _ }) (v := ?_) rfl (by kernel_rfl) (by kernel_rfl) (by kernel_rfl) (fun _ _ _ h => h) (Or.inl ⟨by kernel_rfl, ?_⟩) hHeld ?_
 rotate_left
 ·intro w hSw
  go_simp
  first | done | with_reducible rfl
 simp only [Act.put]
 try simp only [List.setIfInBounds_toArray]
 refine wpAnyH_take (i := 3) (oi := { dst := some 32, op := _, type := _, pos := _, after := _, guard := _ }) (v := ?_) rfl (by kernel_rfl) (by kernel_rfl) (by kernel_rfl) (fun _ _ _ h => h) (Or.inl ⟨by kernel_rfl, ?_⟩) hHeld ?_
 rotate_left
 ·intro w hSw
  go_simp
  first | done | with_reducible rfl
 simp only [Act.put]
 try simp only [List.setIfInBounds_toArray]
 refine wpAnyH_take (i := 4) (oi := { dst := some 33, op := _, type := _, pos := _, after := _, guard := _ }) (v := ?_) rfl (by kernel_rfl) (by kernel_rfl) (by kernel_rfl) (fun _ _ _ h => h) (Or.inl ⟨by kernel_rfl, ?_⟩) hHeld ?_
 rotate_left
 ·intro w hSw
  go_simp
  first | done | with_reducible rfl
 simp only [Act.put]
 try simp only [List.setIfInBounds_toArray]
 refine wpAnyH_take (i := 5) (v := .agg (relC .u32 F)) rfl (by kernel_rfl) (by kernel_rfl) (by kernel_rfl) (fun _ _ _ h => h) (yields_row (by kernel_rfl) rfl rfl fun w hSw => r_load hSw.2) hHeld ?_
 simp only [Act.put]
 try simp only [List.setIfInBounds_toArray]
 refine wpAnyH_take (i := 6) (oi := { dst := some 35, op := _, type := _, pos := _, after := _, guard := _ }) (v := ?_) rfl (by kernel_rfl) (by kernel_rfl) (by kernel_rfl) (fun _ _ _ h => h) (Or.inl ⟨by kernel_rfl, ?_⟩) hHeld ?_
 rotate_left
 ·intro w hSw
  go_simp
  first | done | with_reducible rfl
 simp only [Act.put]
 try simp only [List.setIfInBounds_toArray]
 refine wpAnyH_take (i := 7) (oi := { dst := some 36, op := _, type := _, pos := _, after := _, guard := _ }) (v := ?_) rfl (by kernel_rfl) (by kernel_rfl) (by kernel_rfl) (fun _ _ _ h => h) (Or.inl ⟨by kernel_rfl, ?_⟩) hHeld ?_
 rotate_left
 ·intro w hSw
  go_simp
  first | done | with_reducible rfl
 simp only [Act.put]
 try simp only [List.setIfInBounds_toArray]
 refine wpAnyH_take (i := 8) (v := .agg (relC .u32 A)) rfl (by kernel_rfl) (by kernel_rfl) (by kernel_rfl) (fun _ _ _ h => h) (yields_row (by kernel_rfl) rfl rfl fun w hSw => r_load hSw.1) hHeld ?_
 simp only [Act.put]
 try simp only [List.setIfInBounds_toArray]
 refine wpAnyH_take (i := 10) (v := .agg (relC .u32 F)) rfl (by kernel_rfl) (by kernel_rfl) (by kernel_rfl) (fun _ _ _ h => h) (yields_row (by kernel_rfl) rfl rfl fun w hSw => r_load hSw.2) hHeld ?_
 simp only [Act.put]
 try simp only [List.setIfInBounds_toArray]
 refine wpAnyH_ready (rs := [9]) (by kernel_rfl) (by simp) ?_
 refine AllReadyH.cons rfl (fun K hK => ?_) AllReadyH.nil
 go_simp
 refine (HF.out _ _ _ _ wd T1.out T2.out).out.mono ?_
 rintro e w6 ⟨rfl, hb⟩
 have R0 := Lib.hid (Q0.out.kept hb)
 have R1 := Lib.hid (Q1.out.kept hb)
 have RB := Lib.hid (bnext QB.out hb)
 clear hb Q0 Q1 T1 T2 QB HF
 go_wp2_with fail
 refine hK.out _ _ ⟨R0.out, R1.out⟩ (fun hHeld => ?_)
 clear hK K
 try simp only [Act.put]
 try simp only [List.setIfInBounds_toArray]
 refine wpAnyH_take (i := 11) (oi := { dst := some 40, op := _, type := _, pos := _, after := _, guard := _ }) (v := ?_) rfl (by kernel_rfl) (by kernel_rfl) (by kernel_rfl) (fun _ _ _ h => h) (Or.inl ⟨by kernel_rfl, ?_⟩) hHeld ?_
 rotate_left
 ·intro w hSw
  go_simp
  first | done | with_reducible rfl
 simp only [Act.put]
 try simp only [List.setIfInBounds_toArray]
 refine wpAnyH_take (i := 12) (oi := { dst := some 41, op := _, type := _, pos := _, after := _, guard := _ }) (v := ?_) rfl (by kernel_rfl) (by kernel_rfl) (by kernel_rfl) (fun _ _ _ h => h) (Or.inl ⟨by kernel_rfl, ?_⟩) hHeld ?_
 rotate_left
 ·intro w hSw
  go_simp
  first | done | with_reducible rfl
 simp only [Act.put]
 try simp only [List.setIfInBounds_toArray]
 refine wpAnyH_take (i := 13) (oi := { dst := some 8, op := .assign (.tmp 41), type := _, pos := _, after := _, guard := _ }) (v := ?_) rfl (by kernel_rfl) (by kernel_rfl) (by kernel_rfl) (fun _ _ _ h => h) (Or.inl ⟨by kernel_rfl, ?_⟩) hHeld ?_
 rotate_left
 ·intro w hSw
  go_simp
  first | done | with_reducible rfl
 simp only [Act.put]
 try simp only [List.setIfInBounds_toArray]
 refine wpAnyH_done (by kernel_rfl) ?_ _
 clear hHeld HEQ
 go_wp2_with fail
 go_ret
 exact ⟨rfl, RB.out⟩
theorem implPh_no (x s t r : ByteArray) (a b : Bool) (F A : Nat → Nat → Bool) (hab : (a && b) = false)
  (c1 : ∀ w, Calls Tryz.prog 75 #[.string s, .string t, .string r] w fun e w' => ∃ v1 v2, e = .returned (.tuple #[v1, v2, .agg (relC .u32 A), .bool a]) ∧ Below w.heap.size w w') (c2 : ∀ w, Calls Tryz.prog 76 #[.string x] w (ReadPost F b w)) (w : World) :
  Calls Tryz.prog 16 #[.string x, .string s, .string t, .string r] w fun e w' => e = .returned (.bool false) ∧ Below w.heap.size w w' := by
 have C1 := Lib.hid c1
 have C2 := Lib.hid c2
 clear c1 c2
 go_enter Tryz.func16, Tryz.ntmps16
 go_wp2_with fail
 refine (C1.out _).mono ?_
 rintro e w2 ⟨v1, v2, rfl, hb⟩
 obtain ⟨p0, pb⟩ := push_blk w2 (relC .u32 noR) (relC .u32 A) 68
 have L0 := Lib.hid (one_blk w2 (relC .u32 noR) 68).1
 have NB := Lib.hid (bnext hb pb)
 clear p0 pb hb C1
 go_wp2_with (first
  | (refine r_alloc rfl rfl (some 11) rfl w2.heap.size rfl ?_)
  | (refine wpList_store_row rfl 68 _ _ rfl w2.heap.size (relC .u32 A) (by rfl) (by rfl) 68 (relC .u32 noR) L0.out (infoR _) (by rw [relC_size, relC_size]) (relC_one _ _) ?_))
 clear L0
 generalize (w2.alloc (.cells (relC .u32 noR) 68)).setRow w2.heap.size (relC .u32 A) = w3 at *
 generalize w2.heap.size = b1 at *
 refine (C2.out _).mono ?_
 rintro e w4 ⟨rfl, hb⟩
 obtain ⟨p0, pb⟩ := push_blk w4 (relC .u32 noR) (relC .u32 F) 68
 have L0 := Lib.hid (one_blk w4 (relC .u32 noR) 68).1
 have QB := Lib.hid (bnext (bnext NB.out hb) pb)
 clear p0 pb hb C2 NB
 cases a
 ·go_wp2_with (first
   | (refine r_alloc rfl rfl (some 13) rfl w4.heap.size rfl ?_)
   | (refine wpList_store_row rfl 68 _ _ rfl w4.heap.size (relC .u32 F) (by rfl) (by rfl) 68 (relC .u32 noR) L0.out (infoR _) (by rw [relC_size, relC_size]) (relC_one _ _) ?_))
  go_quiet (fail)
  go_wp2_with fail
  go_ret
  exact ⟨rfl, bdrewN QB.out nq⟩
 ·obtain rfl : b = false := by simpa using hab
  go_wp2_with (first
   | (refine r_alloc rfl rfl (some 13) rfl w4.heap.size rfl ?_)
   | (refine wpList_store_row rfl 68 _ _ rfl w4.heap.size (relC .u32 F) (by rfl) (by rfl) 68 (relC .u32 noR) L0.out (infoR _) (by rw [relC_size, relC_size]) (relC_one _ _) ?_))
  go_quiet (fail)
  go_wp2_with fail
  go_ret
  exact ⟨rfl, bdrewN QB.out nq⟩
theorem ph_spec (x s t r y : ByteArray) (b1 b2 : Bool) (c1 : ∀ w, Calls Tryz.prog 139 #[.string s, .string t, .string r] w fun e w' => e = .returned (.tuple #[.string y, .bool b1]) ∧ Below w.heap.size w w')
  (c2 : b1 = true → ∀ w, Calls Tryz.prog 140 #[.string x, .string y] w fun e w' => e = .returned (.bool b2) ∧ Below w.heap.size w w') (w : World) :
  Calls Tryz.prog 71 #[.string x, .string s, .string t, .string r] w fun e w' => e = .returned (.bool (b1 && b2)) ∧ Below w.heap.size w w' := by
 have C1 := Lib.hid c1
 clear c1
 cases b1 with
 | false =>
  clear c2
  go_enter Tryz.func71, Tryz.ntmps71
  go_wp2_with fail
  refine (C1.out _).mono ?_
  rintro e w2 ⟨rfl, hb⟩
  have HB2 := Lib.hid hb
  clear hb
  go_wp2_with fail
  go_ret
  exact ⟨rfl, HB2.out⟩
 | true =>
  have C2 := Lib.hid (c2 rfl)
  clear c2
  go_enter Tryz.func71, Tryz.ntmps71
  go_wp2_with fail
  refine (C1.out _).mono ?_
  rintro e w2 ⟨rfl, hb⟩
  have HB2 := Lib.hid hb
  clear hb
  go_wp2_with fail
  refine (C2.out _).mono ?_
  rintro e w3 ⟨rfl, hb⟩
  have HB3 := Lib.hid (bnext HB2.out hb)
  clear hb
  go_wp2_with fail
  go_ret
  exact ⟨rfl, HB3.out⟩
theorem ph_eq (p q : Pg) (F P : Nat → Nat → Bool) : relEq (fun i j => F i j && relS (bs (relT (frR p q P))).data.toList i j) F = phB p q F P := by
 unfold phB
 rw [Bool.eq_iff_iff, relEq_iff, relEq_iff]
 constructor
 ·intro h i hi j hj
  have := h i hi j hj
  rw [relS_bs _ hi hj] at this
  rw [Bool.and_comm]; exact this
 ·intro h i hi j hj
  have := h i hi j hj
  rw [relS_bs _ hi hj, Bool.and_comm]; exact this
theorem ph_any2 (x s t r : ByteArray) (hx : x.size ≤ maxLen) (hm : r.size ≤ maxLen) : ∃ b : Bool, (∀ w, Calls Tryz.prog 71 #[.string x, .string s, .string t, .string r] w fun e w' => e = .returned (.bool b) ∧ Below w.heap.size w w') ∧ ∀ w, Calls Tryz.prog 16 #[.string x, .string s, .string t, .string r] w fun e w' => e = .returned (.bool b) ∧ Below w.heap.size w w' := by
 obtain ⟨b, hb, hc⟩ := ready_any s t r hm
 cases b with
 | true =>
  obtain ⟨⟨⟨p, hp, hs⟩, hl⟩, ⟨⟨q, hq, ht⟩, hn⟩, hr⟩ := hb.1 rfl
  obtain rfl := bs_ofP hs
  obtain rfl := bs_ofP ht
  have lp : p.ser.length ≤ 200 := by rwa [bs_size] at hl
  have lq : q.ser.length ≤ 200 := by rwa [bs_size] at hn
  have c1 := fun w => specPf_yes p q r w hp lp hq lq hr hc
  by_cases h : Rel729 x
  ·refine ⟨phB p q (relS x.data.toList) (relS r.data.toList), fun w => ?_, fun w => implPh_yes x _ _ r w hp hs hl hq ht hn hr h⟩
   have := ph_spec x _ _ r _ true _ c1 (fun _ w => specRelWithin_yes x _ ⟨h, rel729_bs _⟩ w) w
   rw [ph_eq, Bool.true_and] at this
   exact this
  ·refine ⟨false, fun w => ?_, fun w => implPh_no x _ _ r true false noR _ rfl (fun w => (three_yes _ _ r w hp hs hl hq ht hn hr).mono fun e w' ⟨T, u, T', u', _, _, he, _, _, hb⟩ => ⟨_, _, he, hb⟩) (fun w => readRel_no x h w) w⟩
   exact ph_spec x _ _ r _ true false c1 (fun _ w => specRelWithin_no x _ (fun k => h k.1) hx (by rw [(rel729_bs _).size]; decide) w) w
 | false =>
  have hno : ¬ (PV s ∧ PV t ∧ Rel729 r) := fun k => by have := hb.2 k; cases this
  have c1 := fun w => specPf_no s t r w hc
  have d1 : ∀ w, Calls Tryz.prog 75 #[.string s, .string t, .string r] w fun e w' => ∃ v1 v2, e = .returned (.tuple #[v1, v2, .agg (relC .u32 noR), .bool false]) ∧ Below w.heap.size w w' := fun w => (three_bad s t r hno w).mono fun e w' ⟨he, hb⟩ => ⟨_, _, he, hb⟩
  refine ⟨false, fun w => ph_spec x s t r _ false false c1 (fun h => by cases h) w, fun w => ?_⟩
  by_cases h : Rel729 x
  ·exact implPh_no x s t r false true _ _ rfl d1 (fun w => readRel_yes x h w) w
  ·exact implPh_no x s t r false false _ _ rfl d1 (fun w => readRel_no x h w) w
end Go.Proofs.YtgkoljphndgoeaaGreatDoor
