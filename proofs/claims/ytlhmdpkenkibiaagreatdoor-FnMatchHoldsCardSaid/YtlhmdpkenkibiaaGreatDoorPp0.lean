import Derived.Test.YtlhmdpkenkibiaaGreatDoorTopP2
namespace Go.Proofs.YtlhmdpkenkibiaaGreatDoor
open Go.RowKit Tm Go.Great
noncomputable def ppOut (p q : Pg) (A : Nat → Nat → Bool) : Value := .tuple #[.string (bs (relT (poR p q A))), .bool true]
set_option maxRecDepth 1000000 in
set_option maxHeartbeats 8000000 in
theorem implPp_yes (r s t : ByteArray) (w : World) {p q : Pg} (hp : p.ok false) (hs : s.data.toList = p.ser) (hl : s.size ≤ 200) (hq : q.ok false) (ht : t.data.toList = q.ser) (hm : t.size ≤ 200) (hr : Rel729 r) :
  Calls Tryz.prog 57 #[.string r, .string s, .string t] w fun e w' => e = .returned (ppOut p q (relS r.data.toList)) ∧ Below w.heap.size w w' := by
 have C1 := fun w => Lib.hid (three_yes s t r w hp hs hl hq ht hm hr)
 have HL := all_len hs hl
 have HM := all_len ht hm
 have HF := fun A B B' v1 v2 w h1 h2 => Lib.hid (walkPairs_any p q B B' v1 v2 A w h1 h2 hp hq HL HM)
 have HT := fun w => Lib.hid (rel_text (poR p q (relS r.data.toList)) w)
 unfold ppOut
 clear hs ht hr HL HM
 generalize relS r.data.toList = A at *
 replace HF := Lib.hid (HF A)
 generalize htx : bs (relT (poR p q A)) = txt at *
 go_enter Tryz.func57, Tryz.ntmps57
 go_wp2_with fail
 refine (C1 _).out.mono ?_
 rintro e w2 ⟨T, u, T', u', B, B', rfl, h1, h2, hb⟩
 obtain ⟨p0, pb⟩ := push_blk w2 (relC .u32 noR) (relC .u32 A) 68
 have P0 := Lib.hid p0
 have L0 := Lib.hid (one_blk w2 (relC .u32 noR) 68).1
 have S1 := Lib.hid (h1.below pb)
 have S2 := Lib.hid (h2.below pb)
 have NB := Lib.hid (bnext hb pb)
 clear p0 pb h1 h2 hb C1 htx
 go_wp2_with (first
  | (refine r_alloc rfl rfl (some 10) rfl w2.heap.size rfl ?_)
  | (refine wpList_store_row rfl 68 _ _ rfl w2.heap.size (relC .u32 A) (by rfl) (by rfl) 68 (relC .u32 noR) L0.out (infoR _) (by rw [relC_size, relC_size]) (relC_one _ _) ?_)
  | (refine wpList_load_row rfl 68 _ rfl w2.heap.size (by rfl) 68 (relC .u32 A) (0, 0) _ P0.out undR rfl (infoR _) ?_))
 refine (HF.out _ _ _ _ _ S1.out S2.out).out.mono ?_
 rintro e w5 ⟨spL, spR, bm, m, f, rfl, hbf, hgn, ⟨rb, n1, cap1, rfl⟩, ⟨rb2, n2, cap2, rfl⟩, hb, hT, hU, _, _⟩
 have HE := Lib.hid (ends_any rb n1 cap1 rb2 n2 cap2 (flS p) (flS q) bm f w5 hbf.mp)
 have HR : relC .u32 (fun i j => (f ((0, i), (0, j))).isSome) = relC .u32 (poR p q A) := relC_congr fun i _ j _ => by
  rw [hbf.isSome]
  exact hgn.ends hT hU i j
 unfold RelPost at HE
 rw [HR] at HE
 have RB := Lib.hid (bnext NB.out hb)
 clear hbf hgn hb hT hU HR HF S1 S2 NB P0 L0
 go_wp2_with fail
 refine HE.out.mono ?_
 rintro e w6 ⟨rfl, hb⟩
 have RB2 := Lib.hid (bnext RB.out hb)
 clear hb RB HE
 go_wp2_with fail
 refine (HT w6).out.mono ?_
 rintro e w7 ⟨rfl, hb⟩
 have UB := Lib.hid (bnext RB2.out hb)
 clear hb RB2 HT
 go_wp2_with fail
 go_ret2
 exact ⟨rfl, UB.out⟩
set_option maxRecDepth 1000000 in
set_option maxHeartbeats 8000000 in
theorem implPp_no (r s t : ByteArray) (w : World) (h : ¬ (PV s ∧ PV t ∧ Rel729 r)) :
  Calls Tryz.prog 57 #[.string r, .string s, .string t] w fun e w' => e = .returned pfNo ∧ Below w.heap.size w w' := by
 have C1 := fun w => Lib.hid (three_bad s t r h w)
 unfold pfNo
 clear h
 go_enter Tryz.func57, Tryz.ntmps57
 go_wp2_with fail
 refine (C1 _).out.mono ?_
 rintro e w2 ⟨rfl, hb⟩
 obtain ⟨p0, pb⟩ := push_blk w2 (relC .u32 noR) (relC .u32 noR) 68
 have L0 := Lib.hid (one_blk w2 (relC .u32 noR) 68).1
 have NB := Lib.hid (bnext hb pb)
 clear p0 pb hb C1
 go_wp2_with (first
  | (refine r_alloc rfl rfl (some 10) rfl w2.heap.size rfl ?_)
  | (refine wpList_store_row rfl 68 _ _ rfl w2.heap.size (relC .u32 noR) (by rfl) (by rfl) 68 (relC .u32 noR) L0.out (infoR _) (by first | rw [relC_size, relC_size] | rw [relC_size]) (relC_one _ _) ?_))
 go_ret2
 exact ⟨rfl, NB.out⟩
def toP (A T' : Nat → Nat → Bool) (i : Nat) : Nat → Bool := postS (A i) T' 27
def opP (T T' A : Nat → Nat → Bool) (i k : Nat) : Nat → Nat → Bool := fun a c => (upto i fun i' => T i' a && toP A T' i' c) || (decide (a < k) && (T i a && toP A T' i c))
theorem opP_zero (T T' A : Nat → Nat → Bool) : relC .i64 (opP T T' A 0 0) = relC .i64 noR := relC_congr fun a _ c _ => by simp [opP, upto_zero, noR]
theorem opP_row (T T' A : Nat → Nat → Bool) (i : Nat) : relC .i64 (opP T T' A i 27) = relC .i64 (opP T T' A (i + 1) 0) := relC_congr fun a ha c _ => by
 unfold opP
 rw [upto_succ, decide_eq_true ha]
 simp
theorem opP_no {T T' A : Nat → Nat → Bool} {i k : Nat} (h : T i k = false) : relC .i64 (opP T T' A i k) = relC .i64 (opP T T' A i (k + 1)) := relC_congr fun a _ c _ => by
 unfold opP
 by_cases e : a = k
 ·subst e; simp [h]
 ·by_cases h1 : a < k
  ·rw [decide_eq_true h1, decide_eq_true (show a < k + 1 by omega)]
  ·rw [decide_eq_false h1, decide_eq_false (show ¬ a < k + 1 by omega)]
theorem opP_yes {T T' A : Nat → Nat → Bool} {i k : Nat} (h : T i k = true) : relC .i64 (setR (opP T T' A i k) k (fun c => opP T T' A i k k c || toP A T' i c)) = relC .i64 (opP T T' A i (k + 1)) := relC_congr fun a _ c _ => by
 unfold setR
 by_cases e : a = k
 ·rw [if_pos e]
  subst e
  unfold opP
  rw [h]
  simp
 ·rw [if_neg e]
  unfold opP
  by_cases h1 : a < k
  ·rw [decide_eq_true h1, decide_eq_true (show a < k + 1 by omega)]
  ·rw [decide_eq_false h1, decide_eq_false (show ¬ a < k + 1 by omega)]
theorem opP_at {T T' A : Nat → Nat → Bool} {i k : Nat} (hk : k < 27) : (relC .i64 (opP T T' A i k))[k]? = some (.int .i64 (nb 27 (opP T T' A i k k))) := relC_get _ _ hk
theorem opP_all (p q : Pg) (A : Nat → Nat → Bool) : relC .i64 (opP (rT p) (rT q) A 27 0) = relC .i64 (poR p q A) := relC_congr fun a _ c _ => by
 unfold opP toP
 simp only [Nat.not_lt_zero, decide_false, Bool.false_and, Bool.or_false]
 rw [Bool.eq_iff_iff, poR_iff, upto_iff]
 constructor
 ·rintro ⟨i, hi, h⟩
  rw [Bool.and_eq_true] at h
  obtain ⟨h1, h2⟩ := h
  unfold postS at h2
  obtain ⟨j, hj, h3⟩ := upto_iff.1 h2
  rw [Bool.and_eq_true] at h3
  exact ⟨i, hi, j, hj, h3.1, by rw [h1, h3.2]; rfl⟩
 ·rintro ⟨i, hi, j, hj, h1, h2⟩
  rw [Bool.and_eq_true] at h2
  refine ⟨i, hi, ?_⟩
  rw [h2.1, Bool.true_and]
  unfold postS
  exact upto_iff.2 ⟨j, hj, by rw [h1, h2.2]; rfl⟩
theorem undAllP : Tryz.prog.underlying 57 = some (.struct (Tryz.prog.fieldsOf 57)) := by kernel_rfl
theorem load_allP {w : World} {g : Nat} {cs : Array Value} (h : Blk w g cs 57) (hi : (Tryz.prog.info? 57).map (·.size) = some cs.size) : (loadVar 57 ⟨g, 0, none⟩).run Tryz.prog w = .ok (.agg cs) w := run_loadVar_row w g _ _ _ _ _ h undAllP rfl hi
def P4 (w : World) (R T : Nat → Nat → Bool) (L K : Nat → Bool) (T' : Nat → Nat → Bool) (L' K' : Nat → Bool) (A : Nat → Nat → Bool) (b0 b1 b2 b3 : Nat) : Prop :=
 Blk w b0 (relC .i64 R) 59 ∧ Blk w b1 (allC T L K) 57 ∧ Blk w b2 (allC T' L' K') 57 ∧ Blk w b3 (relC .i64 A) 59 ∧ b0 ≠ b1 ∧ b0 ≠ b2 ∧ b0 ≠ b3
theorem P4.kept {w w' : World} {R T : Nat → Nat → Bool} {L K : Nat → Bool} {T' : Nat → Nat → Bool} {L' K' : Nat → Bool} {A : Nat → Nat → Bool} {b0 b1 b2 b3 : Nat} (h : P4 w R T L K T' L' K' A b0 b1 b2 b3) (hb : Below w.heap.size w w') : P4 w' R T L K T' L' K' A b0 b1 b2 b3 :=
 ⟨h.1.kept hb, h.2.1.kept hb, h.2.2.1.kept hb, h.2.2.2.1.kept hb, h.2.2.2.2⟩
theorem P4.put {w : World} {R R' T : Nat → Nat → Bool} {L K : Nat → Bool} {T' : Nat → Nat → Bool} {L' K' : Nat → Bool} {A : Nat → Nat → Bool} {b0 b1 b2 b3 : Nat} (h : P4 w R T L K T' L' K' A b0 b1 b2 b3) (k : Nat) (v : Value) (h0 : Blk (w.setCell ⟨b0, k, none⟩ v) b0 (relC .i64 R') 59) : P4 (w.setCell ⟨b0, k, none⟩ v) R' T L K T' L' K' A b0 b1 b2 b3 :=
 ⟨h0, h.2.1.setOther (fun e => h.2.2.2.2.1 e.symm) _, h.2.2.1.setOther (fun e => h.2.2.2.2.2.1 e.symm) _, h.2.2.2.1.setOther (fun e => h.2.2.2.2.2.2 e.symm) _, h.2.2.2.2⟩
set_option maxRecDepth 1000000 in
set_option maxHeartbeats 8000000 in
theorem specPp_yes (p q : Pg) (r : ByteArray) (w : World) (hp : p.ok false) (hl : p.ser.length ≤ 200) (hq : q.ok false) (hm : q.ser.length ≤ 200) (hr : Rel729 r) (c : ∀ w, Calls Tryz.prog 67 #[.string (bs p.ser), .string (bs q.ser), .string r] w fun e w' => e = .returned (.bool true) ∧ Below w.heap.size w w') :
  Calls Tryz.prog 58 #[.string r, .string (bs p.ser), .string (bs q.ser)] w fun e w' => e = .returned (ppOut p q (relS r.data.toList)) ∧ Below w.heap.size w w' := by
 have C := Lib.hid c
 have R1 := fun w => Lib.hid (run_any p hp hl w)
 have R2 := fun w => Lib.hid (run_any q hq hm w)
 have R3 := fun w => Lib.hid (specRl r hr w)
 have R5 := fun w => Lib.hid (specRText (poR p q (relS r.data.toList)) w)
 have HOP := Lib.hid (opP_all p q (relS r.data.toList))
 unfold AllPost at R1 R2
 unfold ppOut
 clear hr c
 generalize relS r.data.toList = A at *
 generalize bs (relT (poR p q A)) = txt at *
 generalize relC .i64 (poR p q A) = RR at *
 generalize rT p = T at *
 generalize rL p = L at *
 generalize rK p = K at *
 generalize rT q = T' at *
 generalize rL q = L' at *
 generalize rK q = K' at *
 generalize bs p.ser = s at *
 generalize bs q.ser = t at *
 have hi := infoAll' T' L' K'
 have z1 := Lib.hid (infoAll' T L K)
 have z2 : Hid ((allC noT noS noS).size = (allC T L K).size) := by show _ = _; rw [allC_size, allC_size]
 have z3 := Lib.hid (allC_one T L K)
 have y1 := Lib.hid (infoAll' T' L' K')
 have y2 : Hid ((allC noT noS noS).size = (allC T' L' K').size) := by show _ = _; rw [allC_size, allC_size]
 have y3 := Lib.hid (allC_one T' L' K')
 obtain ⟨k0, kb, kz⟩ := one_blk w (relC .i64 noR) 59
 have K0 := Lib.hid (k0.row (relC .i64 noR))
 have KL := Lib.hid k0
 have KB := Lib.hid (Below.setRow kb (g := w.heap.size) (Nat.le_refl _) (relC .i64 noR))
 clear k0 kb kz
 go_enter Tryz.func58, Tryz.ntmps58
 go_wp2_with (first
  | (refine wpList_buildTo rfl 59 _ rfl _ rfl (relC .i64 noR) (by kernel_rfl) ?_)
  | (refine m_alloc rfl rfl (some 8) rfl w.heap.size rfl ?_)
  | (refine wpList_store_row rfl 59 _ _ rfl w.heap.size (relC .i64 noR) (by rfl) (by rfl) 59 (relC .i64 noR) KL.out (infoM _) (by first | rw [relC_size, relC_size] | rw [relC_size]) (relC_one _ _) ?_))
 clear KL
 generalize (w.alloc (.cells (relC .i64 noR) 59)).setRow w.heap.size (relC .i64 noR) = w0 at *
 refine (C.out _).mono ?_
 rintro e w1 ⟨rfl, hb⟩
 have A0 := Lib.hid (K0.out.kept hb)
 have AB := Lib.hid (bnext KB.out hb)
 clear hb K0 KB
 go_wp2_with fail
 refine (R1 _).out.mono ?_
 rintro e w2 ⟨rfl, hb⟩
 have m1 := (Blk.new w2 (allC noT noS noS) 57)
 have M1 := Lib.hid (m1.row (allC T L K))
 have X1 := Lib.hid m1
 have bb := Below.setRow ((Below.refl w2.heap.size w2).alloc (Nat.le_refl _) (.cells (allC noT noS noS) 57)) (g := w2.heap.size) (Nat.le_refl _) (allC T L K)
 have B0 := Lib.hid ((A0.out.kept hb).kept bb)
 have BB := Lib.hid (bnext (bnext AB.out hb) bb)
 have N1 : Hid (w.heap.size ≠ w2.heap.size) := by have := (A0.out.kept hb).lt; exact fun e => by omega
 clear hb A0 AB m1 bb
 go_wp2_with (first
  | (refine ar_alloc rfl rfl (some 9) rfl w2.heap.size rfl ?_)
  | (refine wpList_store_row rfl 57 _ _ rfl w2.heap.size (allC T L K) (by rfl) (by rfl) 57 (allC noT noS noS) X1.out z1.out z2.out z3.out ?_))
 clear X1
 generalize (w2.alloc (.cells (allC noT noS noS) 57)).setRow w2.heap.size (allC T L K) = w3 at *
 generalize w2.heap.size = b1 at *
 refine (R2 _).out.mono ?_
 rintro e w4 ⟨rfl, hb⟩
 have m2 := (Blk.new w4 (allC noT noS noS) 57)
 have M2 := Lib.hid (m2.row (allC T' L' K'))
 have X2 := Lib.hid m2
 have bb := Below.setRow ((Below.refl w4.heap.size w4).alloc (Nat.le_refl _) (.cells (allC noT noS noS) 57)) (g := w4.heap.size) (Nat.le_refl _) (allC T' L' K')
 have C0 := Lib.hid ((B0.out.kept hb).kept bb)
 have C1 := Lib.hid ((M1.out.kept hb).kept bb)
 have CB := Lib.hid (bnext (bnext BB.out hb) bb)
 have N2 : Hid (w.heap.size ≠ w4.heap.size) := by have := (B0.out.kept hb).lt; exact fun e => by omega
 clear hb B0 BB M1 m2 bb
 go_wp2_with (first
  | (refine ar_alloc rfl rfl (some 10) rfl w4.heap.size rfl ?_)
  | (refine wpList_store_row rfl 57 _ _ rfl w4.heap.size (allC T' L' K') (by rfl) (by rfl) 57 (allC noT noS noS) X2.out y1.out y2.out y3.out ?_))
 clear X2
 generalize (w4.alloc (.cells (allC noT noS noS) 57)).setRow w4.heap.size (allC T' L' K') = w5 at *
 generalize w4.heap.size = b2 at *
 refine (R3 _).out.mono ?_
 rintro e w6 ⟨rfl, hb⟩
 have m3 := (Blk.new w6 (relC .i64 noR) 59)
 have M3 := m3.row (relC .i64 A)
 have X3 := Lib.hid m3
 have bb := Below.setRow ((Below.refl w6.heap.size w6).alloc (Nat.le_refl _) (.cells (relC .i64 noR) 59)) (g := w6.heap.size) (Nat.le_refl _) (relC .i64 A)
 have N3 : w.heap.size ≠ w6.heap.size := by have := (C0.out.kept hb).lt; exact fun e => by omega
 have D4 : Hid (P4 ((w6.alloc (.cells (relC .i64 noR) 59)).setRow w6.heap.size (relC .i64 A)) (opP T T' A 0 0) T L K T' L' K' A w.heap.size b1 b2 w6.heap.size) :=
  ⟨by rw [opP_zero]; exact (C0.out.kept hb).kept bb, (C1.out.kept hb).kept bb, (M2.out.kept hb).kept bb, M3, N1.out, N2.out, N3⟩
 have DB := Lib.hid (bnext (bnext CB.out hb) bb)
 clear hb C0 C1 CB M2 M3 m3 bb N1 N2 N3 R1 R2 R3 C z1 z2 z3 y1 y2 y3
 go_wp2_with (first
  | (refine m_alloc rfl rfl (some 11) rfl w6.heap.size rfl ?_)
  | (refine wpList_store_row rfl 59 _ _ rfl w6.heap.size (relC .i64 A) (by rfl) (by rfl) 59 (relC .i64 noR) X3.out (infoM _) (by first | rw [relC_size, relC_size] | rw [relC_size]) (relC_one _ _) ?_))
 clear X3
 generalize (w6.alloc (.cells (relC .i64 noR) 59)).setRow w6.heap.size (relC .i64 A) = w7 at *
 generalize w6.heap.size = b3 at *
 generalize hbw : w.heap.size = b0 at *
 replace hbw := Lib.hid hbw
 go_loopw [12, 13, 14] (fun i _ _ wr => ∃ k : Nat, k ≤ 27 ∧ i = .int .i64 k ∧ Hid (P4 wr (opP T T' A k 0) T L K T' L' K' A b0 b1 b2 b3) ∧ Hid (Below b0 w wr)) (fun i _ _ _ => 27 - (intOf i).toNat)
 case atStart => exact ⟨0, by omega, rfl, D4, DB⟩
 case round =>
  clear D4 DB
  obtain ⟨k, hk, rfl, R4, RB⟩ := hrel
  by_cases hlt : k < 27
  ·have CP := fun w => Lib.hid (specPost T' L' K' (A k) w)
   have HTO : postS (A k) T' 27 = toP A T' k := rfl
   rw [HTO] at CP
   generalize hto : toP A T' k = TO at *
   replace hto := Lib.hid hto
   have h0 : (0 : Int) ≤ (k : Int) := by omega
   have h27 : (k : Int) < 27 := by omega
   have N4 := Lib.hid (R4.out.kept (Below.refl _ _).drew)
   have NB := Lib.hid RB.out.drew
   clear R4 RB HTO
   go_wp2_with fail
   refine wp_region_held_drew (S := fun w' => P4 w' (opP T T' A k 0) T L K T' L' K' A b0 b1 b2 b3) (by kernel_rfl) N4.out (fun hHeld => ?_)
   generalize wr.drew = wd at *
   refine wpAnyH_take (i := 0) (v := .agg (allC T' L' K')) rfl (by kernel_rfl) (by kernel_rfl) (by kernel_rfl) (fun _ _ _ h => h) (yields_row (by rfl) rfl rfl fun w hSw => load_allP hSw.2.2.1 hi) hHeld ?_
   simp only [Act.put]
   refine wpAnyH_take (i := 1) (oi := { dst := some 32, op := _, type := _, pos := _, after := _, guard := _ }) (v := ?_) rfl (by kernel_rfl) (by kernel_rfl) (by kernel_rfl) (fun _ _ _ h => h) (Or.inl ⟨by kernel_rfl, ?_⟩) hHeld ?_
   rotate_left
   ·intro w hSw
    go_simp
    first | done | with_reducible rfl
   simp only [Act.put]
   try simp only [List.setIfInBounds_toArray]
   refine wpAnyH_ready (rs := [2]) (by kernel_rfl) (by simp) ?_
   refine AllReadyH.cons rfl (fun K hK => ?_) AllReadyH.nil
   go_simp
   go_wp2_with fail
   refine hK.out _ _ hHeld (fun hHeld => ?_)
   clear hK K
   try simp only [Act.put]
   refine wpAnyH_take (i := 3) (oi := { dst := some 34, op := _, type := _, pos := _, after := _, guard := _ }) (v := ?_) rfl (by kernel_rfl) (by kernel_rfl) (by kernel_rfl) (fun _ _ _ h => h) (Or.inl ⟨by kernel_rfl, ?_⟩) hHeld ?_
   rotate_left
   ·intro w hSw
    have a0 := mrel_cell hSw.2.2.2.1 hlt
    go_simp
    first | done | with_reducible rfl
   simp only [Act.put]
   try simp only [List.setIfInBounds_toArray]
   refine wpAnyH_ready (rs := [4]) (by kernel_rfl) (by simp) ?_
   refine AllReadyH.cons rfl (fun K hK => ?_) AllReadyH.nil
   go_simp
   refine (CP wd).out.mono ?_
   rintro e w8 ⟨rfl, hb⟩
   have U4 := Lib.hid (N4.out.kept hb)
   have UB := Lib.hid (NB.out.trans (hb.mono (by have := N4.out.1.lt; have := NB.out.size; rw [← hbw.out]; have := NB.out.size; omega)))
   clear hb N4 NB CP
   go_wp2_with fail
   refine hK.out _ _ U4.out (fun hHeld => ?_)
   clear hK K
   try simp only [Act.put]
   refine wpAnyH_take (i := 5) (oi := { dst := some 13, op := .assign (.tmp 35), type := _, pos := _, after := _, guard := _ }) (v := ?_) rfl (by kernel_rfl) (by kernel_rfl) (by kernel_rfl) (fun _ _ _ h => h) (Or.inl ⟨by kernel_rfl, ?_⟩) hHeld ?_
   rotate_left
   ·intro w hSw
    go_simp
    first | done | with_reducible rfl
   simp only [Act.put]
   try simp only [List.setIfInBounds_toArray]
   refine wpAnyH_done (by kernel_rfl) ?_ _
   clear hHeld
   go_wp2_with fail
   obtain ⟨wo, rfl⟩ : ∃ wo : World, wo = w8 := ⟨_, rfl⟩
   go_loopw [14] (fun c wr => ∃ m : Nat, m ≤ 27 ∧ c = .int .i64 m ∧ Hid (P4 wr (opP T T' A k m) T L K T' L' K' A b0 b1 b2 b3) ∧ Hid (Below b0 w wr)) (fun c _ => 27 - (intOf c).toNat)
   case atStart => exact ⟨0, by omega, rfl, U4, UB⟩
   case round =>
    clear U4 UB
    obtain ⟨m, hm, rfl, R4, RB⟩ := hrel
    by_cases hlm : m < 27
    ·as_aux_lemma =>
     have CI := fun w => Lib.hid (specInS (T k) m hlm w)
     have a0 := (R4.out.2.1.cell k).trans (allC_get _ _ _ hlt)
     cases hF : T k m <;> rw [hF] at CI
     ·have HO := opP_no (T' := T') (A := A) hF
      have N4 : Hid (P4 wr (opP T T' A k (m + 1)) T L K T' L' K' A b0 b1 b2 b3) := ⟨by rw [← HO]; exact R4.out.1, R4.out.2⟩
      clear hF HO R4
      go_wp2_with fail
      refine (CI _).out.mono ?_
      rintro e w2 ⟨rfl, rfl⟩
      go_wp2_with fail
      exact ⟨⟨m + 1, by omega, by go_num, N4, RB⟩, by simp [intOf]; omega⟩
     ·have c0 := (R4.out.1.cell m).trans (opP_at hlm)
      have c1 := R4.out.1.free m
      have HA := Lib.hid (s_or (opP T T' A k m m) TO)
      have RS := R4.out.1.set m (.int .i64 (nb 27 (fun c => opP T T' A k m m c || TO c)))
      rw [relC_set hlm, ← hto.out, opP_yes (A := A) hF, hto.out] at RS
      have N4 := Lib.hid (R4.out.put m _ RS)
      clear hF RS R4
      go_wp2_with fail
      refine (CI _).out.mono ?_
      rintro e w2 ⟨rfl, rfl⟩
      go_wp2_with fail
      rw [HA.out]
      exact ⟨⟨m + 1, by omega, by go_num, N4, Lib.hid (RB.out.setCell (p := ⟨b0, m, none⟩) (Nat.le_refl _) _)⟩, by simp [intOf]; omega⟩
    ·as_aux_lemma =>
     have hm2 : m = 27 := by omega
     have N4 : Hid (P4 wr (opP T T' A (k + 1) 0) T L K T' L' K' A b0 b1 b2 b3) := ⟨by rw [← opP_row, ← hm2]; exact R4.out.1, R4.out.2⟩
     have hml : ¬ ((m : Int) < 27) := by omega
     clear R4 hm2
     go_wp2_with fail
     exact ⟨⟨k + 1, by omega, by go_num, N4, RB⟩, by simp [intOf]; omega⟩
  ·have hk2 : k = 27 := by omega
   have RP := R4.out.1
   rw [hk2, HOP.out] at RP
   replace RP := Lib.hid RP
   have hkl : ¬ ((k : Int) < 27) := by omega
   clear R4 hk2
   go_wp2_with (refine wpList_load_row rfl 59 _ rfl b0 (by rfl) 59 RR (0, 0) _ RP.out undM rfl (by rw [← HOP.out]; exact infoM _) ?_)
   refine (R5 _).out.mono ?_
   rintro e w9 ⟨rfl, hb⟩
   have VB := Lib.hid (RB.out.trans (hb.mono (by rw [← hbw.out]; exact (by have h8 := RB.out.size; rw [← hbw.out] at *; exact h8))))
   clear hb RB
   go_wp2_with fail
   go_ret2
   exact ⟨rfl, by rw [hbw.out]; exact VB.out⟩
theorem specPp_no (r s t : ByteArray) (w : World) (c : ∀ w, Calls Tryz.prog 67 #[.string s, .string t, .string r] w fun e w' => e = .returned (.bool false) ∧ Below w.heap.size w w') :
  Calls Tryz.prog 58 #[.string r, .string s, .string t] w fun e w' => e = .returned pfNo ∧ Below w.heap.size w w' := by
 have C := Lib.hid c
 unfold pfNo
 clear c
 obtain ⟨k0, kb, kz⟩ := one_blk w (relC .i64 noR) 59
 have KL := Lib.hid k0
 have KB := Lib.hid (Below.setRow kb (g := w.heap.size) (Nat.le_refl _) (relC .i64 noR))
 clear k0 kb kz
 go_enter Tryz.func58, Tryz.ntmps58
 go_wp2_with (first
  | (refine wpList_buildTo rfl 59 _ rfl _ rfl (relC .i64 noR) (by kernel_rfl) ?_)
  | (refine m_alloc rfl rfl (some 8) rfl w.heap.size rfl ?_)
  | (refine wpList_store_row rfl 59 _ _ rfl w.heap.size (relC .i64 noR) (by rfl) (by rfl) 59 (relC .i64 noR) KL.out (infoM _) (by first | rw [relC_size, relC_size] | rw [relC_size]) (relC_one _ _) ?_))
 refine (C.out _).mono ?_
 rintro e w1 ⟨rfl, hb⟩
 have HB1 := Lib.hid (bnext KB.out hb)
 clear hb KB KL
 go_wp2_with fail
 go_ret2
 exact ⟨rfl, HB1.out⟩
end Go.Proofs.YtlhmdpkenkibiaaGreatDoor
