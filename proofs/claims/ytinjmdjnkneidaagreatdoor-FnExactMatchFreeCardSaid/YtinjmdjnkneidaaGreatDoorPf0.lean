/-
  PairFree: both sides.
-/
import Derived.Test.YtinjmdjnkneidaaGreatDoorRp4
import Derived.Test.YtinjmdjnkneidaaGreatDoorSf0
import Derived.Test.YtinjmdjnkneidaaGreatDoorTopX1
import Derived.Test.YtinjmdjnkneidaaGreatDoorTopR1
namespace Go.Proofs.YtinjmdjnkneidaaGreatDoor
open Go.RowKit Tm Go.Great

theorem rel729_bs (T : Nat → Nat → Bool) : Rel729 (bs (relT T)) := by
  unfold Rel729
  rw [show (bs (relT T)).data.toList = relT T by simp [bs], relT_eq]
  exact bits_tbn 729 _
theorem PV.t {s : ByteArray} (h : PV s) (w : World) : Calls Tryz.prog 68 #[.string s] w fun e w' => e = .returned (.bool true) ∧ Below w.heap.size w w' := by
  obtain ⟨b, hb, hc⟩ := specPVb s w
  rw [hb.2 h] at hc; exact hc
theorem PV.f {s : ByteArray} (h : ¬ PV s) (w : World) : Calls Tryz.prog 68 #[.string s] w fun e w' => e = .returned (.bool false) ∧ Below w.heap.size w w' := by
  obtain ⟨b, hb, hc⟩ := specPVb s w
  cases b with
  | false => exact hc
  | true => exact absurd (hb.1 rfl) h
theorem all_len {p : Pg} {s : ByteArray} (hs : s.data.toList = p.ser) (hl : s.size ≤ 200) : p.all.length ≤ 1100 := by
  have h1 : p.all.length ≤ p.ser.length := p.all_le
  have h2 := congrArg List.length hs
  simp at h2
  omega

/-! ### The program -/
set_option maxRecDepth 1000000 in
set_option maxHeartbeats 8000000 in
theorem three_no (s t r : ByteArray) (a b : Bool) (A : Nat → Nat → Bool) (c1 : ∀ w, Calls Tryz.prog 90 #[.string s, .string t] w fun e w' => ∃ v1 v2, e = .returned (.tuple #[v1, v2, .bool a]) ∧ Below w.heap.size w w')
    (c2 : ∀ w, Calls Tryz.prog 56 #[.string r] w (ReadPost A b w)) (h : (a && b) = false) (w : World) :
    Calls Tryz.prog 43 #[.string s, .string t, .string r] w fun e w' => e = .returned (.tuple #[.nilIface, .nilIface, .agg (relC .u32 noR), .bool false]) ∧ Below w.heap.size w w' := by
  have C1 := Lib.hid c1
  have C2 := Lib.hid c2
  clear c1 c2
  obtain ⟨k0, kb, kz⟩ := one_blk w (relC .u32 noR) 46
  have K0 := Lib.hid k0
  have KB := Lib.hid kb
  clear k0 kb kz
  go_enter Tryz.func43, Tryz.ntmps43
  go_wp2_with (refine r_alloc rfl rfl (some 8) rfl w.heap.size rfl ?_)
  generalize w.alloc (.cells (relC .u32 noR) 46) = w0 at *
  refine (C1.out _).mono ?_
  rintro e w2 ⟨v1, v2, rfl, hb⟩
  have R0 := Lib.hid (K0.out.kept hb)
  have RB := Lib.hid (bnext KB.out hb)
  clear hb K0 KB
  go_wp2_with fail
  refine (C2.out _).mono ?_
  rintro e w3 ⟨rfl, hb⟩
  have Q0 := Lib.hid (R0.out.kept hb)
  have QB := Lib.hid (bnext RB.out hb)
  obtain ⟨p0, pb⟩ := push_blk w3 (relC .u32 noR) (relC .u32 A) 46
  have L0 := Lib.hid (one_blk w3 (relC .u32 noR) 46).1
  have N0 := Lib.hid (Q0.out.kept pb)
  have NB := Lib.hid (bnext QB.out pb)
  clear p0 pb hb R0 RB Q0 QB C1 C2
  cases a
  · go_wp2_with (first
      | (refine r_alloc rfl rfl (some 13) rfl w3.heap.size rfl ?_)
      | (refine wpList_store_row rfl 46 _ _ rfl w3.heap.size (relC .u32 A) (by rfl) (by rfl) 46 (relC .u32 noR) L0.out (infoR _) (by rw [relC_size, relC_size]) (relC_one _ _) ?_)
      | (refine wpList_buildTo rfl 46 _ rfl _ rfl (relC .u32 noR) (by kernel_rfl) ?_)
      | (refine wpList_store_row rfl 46 _ _ rfl w.heap.size (relC .u32 noR) (by rfl) (by rfl) 46 (relC .u32 noR) N0.out (infoR _) (by first | rw [relC_size, relC_size] | rw [relC_size]) (relC_one _ _) ?_))
    exact bodyPost_ret (v := .tuple #[.nilIface, .nilIface, .agg (relC .u32 noR), .bool false]) (results_ssct rfl _ _ w.heap.size 46 _ (0, 0) _ (by rfl) _ _ _ (by rfl) (by rfl) (by rfl) (N0.out.row _) undR rfl (infoR _)) rfl ⟨rfl, Below.setRow NB.out (Nat.le_refl _) _⟩
  · obtain rfl : b = false := by simpa using h
    go_wp2_with (first
      | (refine r_alloc rfl rfl (some 13) rfl w3.heap.size rfl ?_)
      | (refine wpList_store_row rfl 46 _ _ rfl w3.heap.size (relC .u32 A) (by rfl) (by rfl) 46 (relC .u32 noR) L0.out (infoR _) (by rw [relC_size, relC_size]) (relC_one _ _) ?_)
      | (refine wpList_buildTo rfl 46 _ rfl _ rfl (relC .u32 noR) (by kernel_rfl) ?_)
      | (refine wpList_store_row rfl 46 _ _ rfl w.heap.size (relC .u32 noR) (by rfl) (by rfl) 46 (relC .u32 noR) N0.out (infoR _) (by first | rw [relC_size, relC_size] | rw [relC_size]) (relC_one _ _) ?_))
    exact bodyPost_ret (v := .tuple #[.nilIface, .nilIface, .agg (relC .u32 noR), .bool false]) (results_ssct rfl _ _ w.heap.size 46 _ (0, 0) _ (by rfl) _ _ _ (by rfl) (by rfl) (by rfl) (N0.out.row _) undR rfl (infoR _)) rfl ⟨rfl, Below.setRow NB.out (Nat.le_refl _) _⟩
theorem two_no (s t : ByteArray) (w : World) (h : ¬ (PV s ∧ PV t)) : Calls Tryz.prog 90 #[.string s, .string t] w fun e w' => ∃ v1 v2, e = .returned (.tuple #[v1, v2, .bool false]) ∧ Below w.heap.size w w' := by
  by_cases hs : PV s
  · exact (two_noB s t w hs.1 hs.2 (fun k => h ⟨hs, k⟩)).mono fun e w' hh => ⟨_, _, hh.1, hh.2⟩
  · exact (two_noA s t w hs).mono fun e w' hh => ⟨_, _, hh.1, hh.2⟩
theorem three_bad (s t r : ByteArray) (h : ¬ (PV s ∧ PV t ∧ Rel729 r)) (w : World) :
    Calls Tryz.prog 43 #[.string s, .string t, .string r] w fun e w' => e = .returned (.tuple #[.nilIface, .nilIface, .agg (relC .u32 noR), .bool false]) ∧ Below w.heap.size w w' := by
  by_cases h1 : PV s ∧ PV t
  · obtain ⟨⟨⟨p, hp, hs⟩, hl⟩, ⟨q, hq, ht⟩, hm⟩ := id h1
    have hr : ¬ Rel729 r := fun k => h ⟨h1.1, h1.2, k⟩
    exact three_no s t r true false noR (fun w => (two_yes s t w hp hs hl hq ht hm).mono fun e w' ⟨T, u, T', u', _, _, _, he, _, _, _, hb⟩ => ⟨_, _, he, hb⟩) (fun w => readRel_no r hr w) rfl w
  · have c1 : ∀ w, Calls Tryz.prog 90 #[.string s, .string t] w fun e w' => ∃ v1 v2, e = .returned (.tuple #[v1, v2, .bool false]) ∧ Below w.heap.size w w' := fun w => two_no s t w h1
    by_cases hr : Rel729 r
    · exact three_no s t r false true _ c1 (fun w => readRel_yes r hr w) rfl w
    · exact three_no s t r false false _ c1 (fun w => readRel_no r hr w) rfl w
noncomputable def pfOut (p q : Pg) (A : Nat → Nat → Bool) : Value := .tuple #[.string (bs (relT (frR p q A))), .bool true]
def pfNo : Value := .tuple #[.string ⟨#[]⟩, .bool false]
set_option maxRecDepth 1000000 in
set_option maxHeartbeats 8000000 in
theorem implPf_yes (s t r : ByteArray) (w : World) {p q : Pg} (hp : p.ok false) (hs : s.data.toList = p.ser) (hl : s.size ≤ 200) (hq : q.ok false) (ht : t.data.toList = q.ser) (hm : t.size ≤ 200) (hr : Rel729 r) :
    Calls Tryz.prog 18 #[.string s, .string t, .string r] w fun e w' => e = .returned (pfOut p q (relS r.data.toList)) ∧ Below w.heap.size w w' := by
  have C1 := fun w => Lib.hid (three_yes s t r w hp hs hl hq ht hm hr)
  have HE := fun w => Lib.hid (every_any w)
  have HL := all_len hs hl
  have HM := all_len ht hm
  have HF := fun A B B' v1 v2 w h1 h2 => Lib.hid (freeAmong_any p q B B' v1 v2 (fun _ _ => true) A w h1 h2 hp hq HL HM)
  have HX : ∀ A, (fun i j => frR p q A i j && (fun _ _ => true) i j) = frR p q A := fun A => by funext i j; simp
  simp only [HX] at HF
  have HT := fun w => Lib.hid (rel_text (frR p q (relS r.data.toList)) w)
  unfold pfOut
  clear hs ht hr HX HL HM
  generalize relS r.data.toList = A at *
  replace HF := Lib.hid (HF A)
  generalize bs (relT (frR p q A)) = txt at *
  go_enter Tryz.func18, Tryz.ntmps18
  go_wp2_with fail
  refine (C1 _).out.mono ?_
  rintro e w2 ⟨T, u, T', u', B, B', rfl, h1, h2, hb⟩
  obtain ⟨p0, pb⟩ := push_blk w2 (relC .u32 noR) (relC .u32 A) 46
  have P0 := Lib.hid p0.drew
  have L0 := Lib.hid (one_blk w2 (relC .u32 noR) 46).1
  have S1 := Lib.hid ((h1.below pb).below (Below.refl _ _).drew)
  have S2 := Lib.hid ((h2.below pb).below (Below.refl _ _).drew)
  have NB := Lib.hid (bnext hb pb).drew
  clear p0 pb h1 h2 hb C1
  go_wp2_with (first
    | (refine r_alloc rfl rfl (some 10) rfl w2.heap.size rfl ?_)
    | (refine wpList_store_row rfl 46 _ _ rfl w2.heap.size (relC .u32 A) (by rfl) (by rfl) 46 (relC .u32 noR) L0.out (infoR _) (by rw [relC_size, relC_size]) (relC_one _ _) ?_))
  generalize (w2.alloc (.cells (relC .u32 noR) 46)).setRow w2.heap.size (relC .u32 A) = w4 at *
  generalize w2.heap.size = nb at *
  refine wp_region_held_drew (S := fun w' => Blk w' nb (relC .u32 A) 46) (by kernel_rfl) P0.out (fun hHeld => ?_)
  generalize w4.drew = wd at *
  refine wpAnyH_take (i := 1) (oi := { dst := some 24, op := _, type := _, pos := _, after := _, guard := _ }) (v := ?_) rfl (by kernel_rfl) (by kernel_rfl) (by kernel_rfl) (fun _ _ _ h => h) (Or.inl ⟨by kernel_rfl, ?_⟩) hHeld ?_
  rotate_left
  · intro w hSw
    go_simp
    first | done | with_reducible rfl
  simp only [Act.put]
  try simp only [List.setIfInBounds_toArray]
  refine wpAnyH_take (i := 2) (oi := { dst := some 25, op := _, type := _, pos := _, after := _, guard := _ }) (v := ?_) rfl (by kernel_rfl) (by kernel_rfl) (by kernel_rfl) (fun _ _ _ h => h) (Or.inl ⟨by kernel_rfl, ?_⟩) hHeld ?_
  rotate_left
  · intro w hSw
    go_simp
    first | done | with_reducible rfl
  simp only [Act.put]
  try simp only [List.setIfInBounds_toArray]
  refine wpAnyH_take (i := 3) (v := .agg (relC .u32 A)) rfl (by kernel_rfl) (by kernel_rfl) (by kernel_rfl) (fun _ _ _ h => h) (yields_row (by rfl) rfl rfl fun w hSw => r_load hSw) hHeld ?_
  simp only [Act.put]
  try simp only [List.setIfInBounds_toArray]
  refine wpAnyH_ready (rs := [0]) (by kernel_rfl) (by simp) ?_
  refine AllReadyH.cons rfl (fun K hK => ?_) AllReadyH.nil
  go_simp
  refine (HE wd).out.mono ?_
  rintro e w5 ⟨rfl, hb⟩
  have Q0 := Lib.hid (P0.out.kept hb)
  have T1 := Lib.hid (S1.out.below hb)
  have T2 := Lib.hid (S2.out.below hb)
  have QB := Lib.hid (bnext NB.out hb)
  clear hb P0 S1 S2 NB HE
  go_wp2_with fail
  refine hK.out _ _ Q0.out (fun hHeld => ?_)
  clear hK K
  try simp only [Act.put]
  refine wpAnyH_ready (rs := [4]) (by kernel_rfl) (by simp) ?_
  refine AllReadyH.cons rfl (fun K hK => ?_) AllReadyH.nil
  go_simp
  refine (HF.out _ _ _ _ w5 T1.out T2.out).out.mono ?_
  rintro e w6 ⟨rfl, hb⟩
  have R0 := Lib.hid (Q0.out.kept hb)
  have RB := Lib.hid (bnext QB.out hb)
  clear hb Q0 T1 T2 QB HF
  go_wp2_with fail
  refine hK.out _ _ R0.out (fun hHeld => ?_)
  clear hK K
  try simp only [Act.put]
  refine wpAnyH_ready (rs := [5]) (by kernel_rfl) (by simp) ?_
  refine AllReadyH.cons rfl (fun K hK => ?_) AllReadyH.nil
  go_simp
  refine (HT w6).out.mono ?_
  rintro e w7 ⟨rfl, hb⟩
  have U0 := Lib.hid (R0.out.kept hb)
  have UB := Lib.hid (bnext RB.out hb)
  clear hb R0 RB HT
  go_wp2_with fail
  refine hK.out _ _ U0.out (fun hHeld => ?_)
  clear hK K
  try simp only [Act.put]
  refine wpAnyH_take (i := 6) (oi := { dst := some 6, op := .assign (.tmp 28), type := _, pos := _, after := _, guard := _ }) (v := ?_) rfl (by kernel_rfl) (by kernel_rfl) (by kernel_rfl) (fun _ _ _ h => h) (Or.inl ⟨by kernel_rfl, ?_⟩) hHeld ?_
  rotate_left
  · intro w hSw
    go_simp
    first | done | with_reducible rfl
  simp only [Act.put]
  try simp only [List.setIfInBounds_toArray]
  refine wpAnyH_take (i := 7) (oi := { dst := some 7, op := .assign (.const (.bool true)), type := _, pos := _, after := _, guard := _ }) (v := ?_) rfl (by kernel_rfl) (by kernel_rfl) (by kernel_rfl) (fun _ _ _ h => h) (Or.inl ⟨by kernel_rfl, ?_⟩) hHeld ?_
  rotate_left
  · intro w hSw
    go_simp
    first | done | with_reducible rfl
  simp only [Act.put]
  try simp only [List.setIfInBounds_toArray]
  refine wpAnyH_done (by kernel_rfl) ?_ _
  clear hHeld
  go_wp2_with fail
  go_ret2
  exact ⟨rfl, UB.out⟩
set_option maxRecDepth 1000000 in
set_option maxHeartbeats 8000000 in
theorem implPf_no (s t r : ByteArray) (w : World) (h : ¬ (PV s ∧ PV t ∧ Rel729 r)) :
    Calls Tryz.prog 18 #[.string s, .string t, .string r] w fun e w' => e = .returned pfNo ∧ Below w.heap.size w w' := by
  have C1 := fun w => Lib.hid (three_bad s t r h w)
  unfold pfNo
  clear h
  go_enter Tryz.func18, Tryz.ntmps18
  go_wp2_with fail
  refine (C1 _).out.mono ?_
  rintro e w2 ⟨rfl, hb⟩
  obtain ⟨p0, pb⟩ := push_blk w2 (relC .u32 noR) (relC .u32 noR) 46
  have L0 := Lib.hid (one_blk w2 (relC .u32 noR) 46).1
  have NB := Lib.hid (bnext hb pb)
  clear p0 pb hb C1
  go_wp2_with (first
    | (refine r_alloc rfl rfl (some 10) rfl w2.heap.size rfl ?_)
    | (refine wpList_store_row rfl 46 _ _ rfl w2.heap.size (relC .u32 noR) (by rfl) (by rfl) 46 (relC .u32 noR) L0.out (infoR _) (by first | rw [relC_size, relC_size] | rw [relC_size]) (relC_one _ _) ?_))
  go_ret2
  exact ⟨rfl, NB.out⟩

/-! ### The model -/
theorem ready_of (s t r : ByteArray) (b1 b2 b3 : Bool) (c1 : ∀ w, Calls Tryz.prog 68 #[.string s] w fun e w' => e = .returned (.bool b1) ∧ Below w.heap.size w w') (c2 : ∀ w, Calls Tryz.prog 68 #[.string t] w fun e w' => e = .returned (.bool b2) ∧ Below w.heap.size w w')
    (c3 : ∀ w, Calls Tryz.prog 57 #[.string r] w fun e w' => e = .returned (.bool b3) ∧ Below w.heap.size w w') (w : World) :
    Calls Tryz.prog 40 #[.string s, .string t, .string r] w fun e w' => e = .returned (.bool (b1 && b2 && b3)) ∧ Below w.heap.size w w' := by
  have C1 := Lib.hid c1
  have C2 := Lib.hid c2
  have C3 := Lib.hid c3
  clear c1 c2 c3
  cases b1
  · go_enter Tryz.func40, Tryz.ntmps40
    go_wp2_with fail
    refine (C1.out _).mono ?_
    rintro e w1 ⟨rfl, hb⟩
    have HB := Lib.hid hb
    clear hb
    go_wp2_with fail
    go_ret
    exact ⟨rfl, HB.out⟩
  · cases b2
    · go_enter Tryz.func40, Tryz.ntmps40
      go_wp2_with fail
      refine (C1.out _).mono ?_
      rintro e w1 ⟨rfl, hb⟩
      have HB := Lib.hid hb
      clear hb
      go_wp2_with fail
      refine (C2.out _).mono ?_
      rintro e w2 ⟨rfl, hb⟩
      have HB2 := Lib.hid (bnext HB.out hb)
      clear hb
      go_wp2_with fail
      go_ret
      exact ⟨rfl, HB2.out⟩
    · go_enter Tryz.func40, Tryz.ntmps40
      go_wp2_with fail
      refine (C1.out _).mono ?_
      rintro e w1 ⟨rfl, hb⟩
      have HB := Lib.hid hb
      clear hb
      go_wp2_with fail
      refine (C2.out _).mono ?_
      rintro e w2 ⟨rfl, hb⟩
      have HB2 := Lib.hid (bnext HB.out hb)
      clear hb
      go_wp2_with fail
      refine (C3.out _).mono ?_
      rintro e w3 ⟨rfl, hb⟩
      have HB3 := Lib.hid (bnext HB2.out hb)
      clear hb
      go_wp2_with fail
      go_ret
      exact ⟨rfl, HB3.out⟩
theorem ready_any (s t r : ByteArray) (hm : r.size ≤ maxLen) : ∃ b : Bool, (b = true ↔ PV s ∧ PV t ∧ Rel729 r) ∧ ∀ w, Calls Tryz.prog 40 #[.string s, .string t, .string r] w fun e w' => e = .returned (.bool b) ∧ Below w.heap.size w w' := by
  have h1 : ∃ b1 : Bool, (b1 = true ↔ PV s) ∧ ∀ w, Calls Tryz.prog 68 #[.string s] w fun e w' => e = .returned (.bool b1) ∧ Below w.heap.size w w' := by
    by_cases h : PV s
    · exact ⟨true, by simp [h], fun w => h.t w⟩
    · exact ⟨false, by simp [h], fun w => PV.f h w⟩
  have h2 : ∃ b2 : Bool, (b2 = true ↔ PV t) ∧ ∀ w, Calls Tryz.prog 68 #[.string t] w fun e w' => e = .returned (.bool b2) ∧ Below w.heap.size w w' := by
    by_cases h : PV t
    · exact ⟨true, by simp [h], fun w => h.t w⟩
    · exact ⟨false, by simp [h], fun w => PV.f h w⟩
  have h3 : ∃ b3 : Bool, (b3 = true ↔ Rel729 r) ∧ ∀ w, Calls Tryz.prog 57 #[.string r] w fun e w' => e = .returned (.bool b3) ∧ Below w.heap.size w w' := by
    by_cases h : Rel729 r
    · exact ⟨true, by simp [h], fun w => BoolIs.of (specRelV_yes r h w)⟩
    · exact ⟨false, by simp [h], fun w => BoolIs.of (specRelV_no r h hm w)⟩
  obtain ⟨b1, e1, c1⟩ := h1
  obtain ⟨b2, e2, c2⟩ := h2
  obtain ⟨b3, e3, c3⟩ := h3
  refine ⟨b1 && b2 && b3, ?_, fun w => ready_of s t r b1 b2 b3 c1 c2 c3 w⟩
  rw [Bool.and_eq_true, Bool.and_eq_true, e1, e2, e3, and_assoc]
theorem specRl (r : ByteArray) (hr : Rel729 r) (w : World) : Calls Tryz.prog 48 #[.string r] w (MPost (relS r.data.toList) w) := by
  have C := fun w => Lib.hid (specRead r hr w)
  clear hr
  generalize relS r.data.toList = A at *
  obtain ⟨k0, kb, kz⟩ := one_blk w (relC .i64 noR) 52
  have K0 := Lib.hid k0
  have KB := Lib.hid kb
  clear k0 kb kz
  go_enter Tryz.func48, Tryz.ntmps48
  go_wp2_with (refine m_alloc rfl rfl (some 2) rfl w.heap.size rfl ?_)
  generalize w.alloc (.cells (relC .i64 noR) 52) = w0 at *
  refine (C _).out.mono ?_
  rintro e w2 ⟨rfl, hb⟩
  have L0 := Lib.hid (K0.out.kept hb)
  have LB := Lib.hid (bnext KB.out hb)
  clear hb K0 KB
  go_wp2_with (refine wpList_store_row rfl 52 _ _ rfl w.heap.size (relC .i64 A) (by rfl) (by rfl) 52 (relC .i64 noR) L0.out (infoM _) (by rw [relC_size, relC_size]) (relC_one _ _) ?_)
  exact bodyPost_ret (v := .agg (relC .i64 A)) (results_cell_row rfl _ _ w.heap.size 52 _ (0, 0) _ (by rfl) (L0.out.row _) undM rfl (infoM _)) rfl ⟨rfl, Below.setRow LB.out (Nat.le_refl _) _⟩
set_option maxRecDepth 1000000 in
set_option maxHeartbeats 8000000 in
theorem specPf_yes (p q : Pg) (r : ByteArray) (w : World) (hp : p.ok false) (hl : p.ser.length ≤ 200) (hq : q.ok false) (hm : q.ser.length ≤ 200) (hr : Rel729 r) (c : ∀ w, Calls Tryz.prog 40 #[.string (bs p.ser), .string (bs q.ser), .string r] w fun e w' => e = .returned (.bool true) ∧ Below w.heap.size w w') :
    Calls Tryz.prog 17 #[.string (bs p.ser), .string (bs q.ser), .string r] w fun e w' => e = .returned (pfOut p q (relS r.data.toList)) ∧ Below w.heap.size w w' := by
  have C := Lib.hid c
  have R1 := fun w => Lib.hid (run_any p hp hl w)
  have R2 := fun w => Lib.hid (run_any q hq hm w)
  have R3 := fun w => Lib.hid (specRl r hr w)
  have R4 := fun w => Lib.hid (specFree (rT p) (rL p) (rK p) (rT q) (rL q) (rK q) (relS r.data.toList) w)
  have HFR : relC .i64 (frS (rT p) (rT q) (relS r.data.toList)) = relC .i64 (frR p q (relS r.data.toList)) := relC_congr fun i _ j _ => frS_eq p q _
  unfold MPost at R4
  rw [HFR] at R4
  have R5 := fun w => Lib.hid (specRText (frR p q (relS r.data.toList)) w)
  unfold AllPost at R1 R2
  unfold pfOut
  clear hr c HFR
  generalize relS r.data.toList = A at *
  generalize bs (relT (frR p q A)) = txt at *
  generalize relC .i64 (frR p q A) = RR at *
  unfold MPost at R3
  generalize relC .i64 A = RA at *
  generalize allC (rT p) (rL p) (rK p) = C1 at *
  generalize allC (rT q) (rL q) (rK q) = C2 at *
  generalize bs p.ser = s at *
  generalize bs q.ser = t at *
  go_enter Tryz.func17, Tryz.ntmps17
  go_wp2_with fail
  refine (C.out _).mono ?_
  rintro e w1 ⟨rfl, hb⟩
  have HB1 := Lib.hid hb
  clear hb
  go_wp2_with fail
  refine (R1 _).out.mono ?_
  rintro e w2 ⟨rfl, hb⟩
  have HB2 := Lib.hid (bnext HB1.out hb)
  clear hb
  go_wp2_with fail
  refine (R2 _).out.mono ?_
  rintro e w3 ⟨rfl, hb⟩
  have HB3 := Lib.hid (bnext HB2.out hb)
  clear hb
  go_wp2_with fail
  refine (R3 _).out.mono ?_
  rintro e w4 ⟨rfl, hb⟩
  have HB4 := Lib.hid (bnext HB3.out hb)
  clear hb
  go_wp2_with fail
  refine (R4 _).out.mono ?_
  rintro e w5 ⟨rfl, hb⟩
  have HB5 := Lib.hid (bnext HB4.out hb)
  clear hb
  go_wp2_with fail
  refine (R5 _).out.mono ?_
  rintro e w6 ⟨rfl, hb⟩
  have HB6 := Lib.hid (bnext HB5.out hb)
  clear hb
  go_wp2_with fail
  go_ret2
  exact ⟨rfl, HB6.out⟩
theorem specPf_no (s t r : ByteArray) (w : World) (c : ∀ w, Calls Tryz.prog 40 #[.string s, .string t, .string r] w fun e w' => e = .returned (.bool false) ∧ Below w.heap.size w w') :
    Calls Tryz.prog 17 #[.string s, .string t, .string r] w fun e w' => e = .returned pfNo ∧ Below w.heap.size w w' := by
  have C := Lib.hid c
  unfold pfNo
  clear c
  go_enter Tryz.func17, Tryz.ntmps17
  go_wp2_with fail
  refine (C.out _).mono ?_
  rintro e w1 ⟨rfl, hb⟩
  have HB1 := Lib.hid hb
  clear hb
  go_wp2_with fail
  go_ret2
  exact ⟨rfl, HB1.out⟩
/-- Both sides, at any texts. -/
theorem pf_any2 (s t r : ByteArray) (hm : r.size ≤ maxLen) : ∃ x : ByteArray, ∃ b : Bool, x.size ≤ maxLen ∧ ((b = true → Rel729 x) ∧ (b = true → Rel729 r) ∧ (b = false → x = ⟨#[]⟩)) ∧ (∀ w, Calls Tryz.prog 17 #[.string s, .string t, .string r] w fun e w' => e = .returned (.tuple #[.string x, .bool b]) ∧ Below w.heap.size w w') ∧ ∀ w, Calls Tryz.prog 18 #[.string s, .string t, .string r] w fun e w' => e = .returned (.tuple #[.string x, .bool b]) ∧ Below w.heap.size w w' := by
  obtain ⟨b, hb, hc⟩ := ready_any s t r hm
  cases b with
  | true =>
    obtain ⟨⟨⟨p, hp, hs⟩, hl⟩, ⟨⟨q, hq, ht⟩, hn⟩, hr⟩ := hb.1 rfl
    obtain rfl := bs_ofP hs
    obtain rfl := bs_ofP ht
    have lp : p.ser.length ≤ 200 := by rwa [bs_size] at hl
    have lq : q.ser.length ≤ 200 := by rwa [bs_size] at hn
    exact ⟨_, true, by rw [(rel729_bs _).size]; decide, ⟨fun _ => rel729_bs _, fun _ => hr, fun h => (by cases h)⟩, fun w => specPf_yes p q r w hp lp hq lq hr hc, fun w => implPf_yes _ _ r w hp hs hl hq ht hn hr⟩
  | false =>
    have hno : ¬ (PV s ∧ PV t ∧ Rel729 r) := fun k => by have := hb.2 k; cases this
    exact ⟨⟨#[]⟩, false, by decide, ⟨fun h => (by cases h), fun h => (by cases h), fun _ => rfl⟩, fun w => specPf_no s t r w hc, fun w => implPf_no s t r w hno⟩
end Go.Proofs.YtinjmdjnkneidaaGreatDoor
