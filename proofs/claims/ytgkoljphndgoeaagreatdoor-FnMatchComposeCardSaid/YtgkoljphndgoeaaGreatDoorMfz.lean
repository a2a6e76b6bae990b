import Derived.Test.YtgkoljphndgoeaaGreatDoorPp0
import Derived.BigQuiet
namespace Go.Proofs.YtgkoljphndgoeaaGreatDoor
open Go.RowKit Tm Go.Great
noncomputable def maR (p q : Pg) (A : Nat → Nat → Bool) : Nat → Nat → Bool := fun i j => !(upto 27 fun c => rT p i c && !(upto 27 fun x => rT q j x && A c x))
noncomputable def mfOut (p q : Pg) (A : Nat → Nat → Bool) : Value := .tuple #[.string (bs (relT (maR p q A))), .bool true]
def noM (T' A : Nat → Nat → Bool) (j c : Nat) : Bool := (((nb 27 (fun x => T' j x && A c x) : Nat) : Int) == 0)
def upM (T T' A : Nat → Nat → Bool) (i j m : Nat) : Bool := !(upto m fun c => T i c && noM T' A j c)
def maS (T T' A : Nat → Nat → Bool) : Nat → Nat → Bool := fun i j => upM T T' A i j 27
theorem noM_eq {T' A : Nat → Nat → Bool} {j c : Nat} : noM T' A j c = !(upto 27 fun x => T' j x && A c x) := by
 rw [Bool.eq_iff_iff]
 unfold noM
 rw [nb0_iff, Bool.not_eq_true']
 constructor
 ·intro h
  cases hu : upto 27 (fun x => T' j x && A c x) with
  | false => rfl
  | true =>
   obtain ⟨x, hx, h1⟩ := upto_iff.1 hu
   rw [h x hx] at h1
   cases h1
 ·intro h x hx
  cases h1 : (T' j x && A c x) with
  | false => rfl
  | true =>
   rw [upto_iff.2 ⟨x, hx, h1⟩] at h
   cases h
theorem maS_eq (p q : Pg) (A : Nat → Nat → Bool) : relC .i64 (maS (rT p) (rT q) A) = relC .i64 (maR p q A) := relC_congr fun i _ j _ => by
 unfold maS upM maR
 simp only [noM_eq]
theorem upM_zero (T T' A : Nat → Nat → Bool) (i j : Nat) : upM T T' A i j 0 = true := by unfold upM; rw [upto_zero]; rfl
theorem upM_succ (T T' A : Nat → Nat → Bool) (i j m : Nat) : upM T T' A i j (m + 1) = (upM T T' A i j m && !(T i m && noM T' A j m)) := by
 unfold upM
 rw [upto_succ, Bool.not_or]
def lnR (F : Nat → Nat → Bool) (n : Nat) : Nat → Nat → Bool := lowR F (n / 27) (n % 27)
theorem lnR_zero (F : Nat → Nat → Bool) : relC .i64 (lnR F 0) = relC .i64 noR := lowR_zero F
theorem lnR_all (F : Nat → Nat → Bool) : relC .i64 (lnR F 729) = relC .i64 F := lowR_all F
theorem lnR_next (F : Nat → Nat → Bool) (n : Nat) : relC .i64 (lowR F (n / 27) (n % 27 + 1)) = relC .i64 (lnR F (n + 1)) := by
 unfold lnR
 by_cases h : n % 27 + 1 = 27
 ·rw [h, lowR_row, show (n + 1) / 27 = n / 27 + 1 by omega, show (n + 1) % 27 = 0 by omega]
 ·rw [show (n + 1) / 27 = n / 27 by omega, show (n + 1) % 27 = n % 27 + 1 by omega]
theorem lnR_no {F : Nat → Nat → Bool} {n : Nat} (h : F (n / 27) (n % 27) = false) : relC .i64 (lnR F n) = relC .i64 (lnR F (n + 1)) := (lowR_no h).trans (lnR_next F n)
theorem lnR_yes {F : Nat → Nat → Bool} {n : Nat} (h : F (n / 27) (n % 27) = true) : relC .i64 (setR (lnR F n) (n / 27) (fun j => lnR F n (n / 27) j || j == n % 27)) = relC .i64 (lnR F (n + 1)) := (lowR_yes h).trans (lnR_next F n)
set_option maxRecDepth 1000000 in
set_option maxHeartbeats 8000000 in
theorem specMf_yes (p q : Pg) (r : ByteArray) (w : World) (hp : p.ok false) (hl : p.ser.length ≤ 200) (hq : q.ok false) (hm : q.ser.length ≤ 200) (hr : Rel729 r) (c : ∀ w, Calls Tryz.prog 83 #[.string (bs p.ser), .string (bs q.ser), .string r] w fun e w' => e = .returned (.bool true) ∧ Below w.heap.size w w') :
  Calls Tryz.prog 19 #[.string (bs p.ser), .string (bs q.ser), .string r] w fun e w' => e = .returned (mfOut p q (relS r.data.toList)) ∧ Below w.heap.size w w' := by
 have C := Lib.hid c
 have R1 := fun w => Lib.hid (run_any p hp hl w)
 have R2 := fun w => Lib.hid (run_any q hq hm w)
 have R3 := fun w => Lib.hid (specRl r hr w)
 have R5 := fun w => Lib.hid (specRText (maR p q (relS r.data.toList)) w)
 have HE := Lib.hid (maS_eq p q (relS r.data.toList))
 unfold AllPost at R1 R2
 unfold mfOut
 clear hr c
 generalize relS r.data.toList = A at *
 generalize bs (relT (maR p q A)) = txt at *
 generalize relC .i64 (maR p q A) = RR at *
 generalize rT p = T at *
 generalize rL p = L at *
 generalize rK p = K at *
 generalize rT q = T' at *
 generalize rL q = L' at *
 generalize rK q = K' at *
 generalize bs p.ser = s at *
 generalize bs q.ser = t at *
 have hi := infoAll' T' L' K'
 have z1 := Lib.hid (infoAll' T L K)
 have z2 : Hid ((allC noT noS noS).size = (allC T L K).size) := by show _ = _; rw [allC_size, allC_size]
 have z3 := Lib.hid (allC_one T L K)
 have y1 := Lib.hid (infoAll' T' L' K')
 have y2 : Hid ((allC noT noS noS).size = (allC T' L' K').size) := by show _ = _; rw [allC_size, allC_size]
 have y3 := Lib.hid (allC_one T' L' K')
 obtain ⟨k0, kb, kz⟩ := one_blk w (relC .i64 noR) 83
 have K0 := Lib.hid (k0.row (relC .i64 noR))
 have KL := Lib.hid k0
 have KB := Lib.hid (Below.setRow kb (g := w.heap.size) (Nat.le_refl _) (relC .i64 noR))
 clear k0 kb kz
 go_enter Tryz.func19, Tryz.ntmps19
 go_wp2_with (first
  | (refine wpList_buildTo rfl 83 _ rfl _ rfl (relC .i64 noR) (by kernel_rfl) ?_)
  | (refine m_alloc rfl rfl (some 8) rfl w.heap.size rfl ?_)
  | (refine wpList_store_row rfl 83 _ _ rfl w.heap.size (relC .i64 noR) (by rfl) (by rfl) 83 (relC .i64 noR) KL.out (infoM _) (by first | rw [relC_size, relC_size] | rw [relC_size]) (relC_one _ _) ?_))
 clear KL
 generalize (w.alloc (.cells (relC .i64 noR) 83)).setRow w.heap.size (relC .i64 noR) = w0 at *
 refine (C.out _).mono ?_
 rintro e w1 ⟨rfl, hb⟩
 have A0 := Lib.hid (K0.out.kept hb)
 have AB := Lib.hid (bnext KB.out hb)
 clear hb K0 KB
 go_wp2_with fail
 refine (R1 _).out.mono ?_
 rintro e w2 ⟨rfl, hb⟩
 have m1 := (Blk.new w2 (allC noT noS noS) 85)
 have M1 := Lib.hid (m1.row (allC T L K))
 have X1 := Lib.hid m1
 have bb := Below.setRow ((Below.refl w2.heap.size w2).alloc (Nat.le_refl _) (.cells (allC noT noS noS) 85)) (g := w2.heap.size) (Nat.le_refl _) (allC T L K)
 have B0 := Lib.hid ((A0.out.kept hb).kept bb)
 have BB := Lib.hid (bnext (bnext AB.out hb) bb)
 have N1 : Hid (w.heap.size ≠ w2.heap.size) := by have := (A0.out.kept hb).lt; exact fun e => by omega
 clear hb A0 AB m1 bb
 go_wp2_with (first
  | (refine ar_alloc rfl rfl (some 9) rfl w2.heap.size rfl ?_)
  | (refine wpList_store_row rfl 85 _ _ rfl w2.heap.size (allC T L K) (by rfl) (by rfl) 85 (allC noT noS noS) X1.out z1.out z2.out z3.out ?_))
 clear X1
 generalize (w2.alloc (.cells (allC noT noS noS) 85)).setRow w2.heap.size (allC T L K) = w3 at *
 generalize w2.heap.size = b1 at *
 refine (R2 _).out.mono ?_
 rintro e w4 ⟨rfl, hb⟩
 have m2 := (Blk.new w4 (allC noT noS noS) 85)
 have M2 := Lib.hid (m2.row (allC T' L' K'))
 have X2 := Lib.hid m2
 have bb := Below.setRow ((Below.refl w4.heap.size w4).alloc (Nat.le_refl _) (.cells (allC noT noS noS) 85)) (g := w4.heap.size) (Nat.le_refl _) (allC T' L' K')
 have C0 := Lib.hid ((B0.out.kept hb).kept bb)
 have C1 := Lib.hid ((M1.out.kept hb).kept bb)
 have CB := Lib.hid (bnext (bnext BB.out hb) bb)
 have N2 : Hid (w.heap.size ≠ w4.heap.size) := by have := (B0.out.kept hb).lt; exact fun e => by omega
 clear hb B0 BB M1 m2 bb
 go_wp2_with (first
  | (refine ar_alloc rfl rfl (some 10) rfl w4.heap.size rfl ?_)
  | (refine wpList_store_row rfl 85 _ _ rfl w4.heap.size (allC T' L' K') (by rfl) (by rfl) 85 (allC noT noS noS) X2.out y1.out y2.out y3.out ?_))
 clear X2
 generalize (w4.alloc (.cells (allC noT noS noS) 85)).setRow w4.heap.size (allC T' L' K') = w5 at *
 generalize w4.heap.size = b2 at *
 refine (R3 _).out.mono ?_
 rintro e w6 ⟨rfl, hb⟩
 have m3 := (Blk.new w6 (relC .i64 noR) 83)
 have M3 := m3.row (relC .i64 A)
 have X3 := Lib.hid m3
 have bb := Below.setRow ((Below.refl w6.heap.size w6).alloc (Nat.le_refl _) (.cells (relC .i64 noR) 83)) (g := w6.heap.size) (Nat.le_refl _) (relC .i64 A)
 have N3 : w.heap.size ≠ w6.heap.size := by have := (C0.out.kept hb).lt; exact fun e => by omega
 have D4 : Hid (P4 ((w6.alloc (.cells (relC .i64 noR) 83)).setRow w6.heap.size (relC .i64 A)) (lnR (maS T T' A) 0) T L K T' L' K' A w.heap.size b1 b2 w6.heap.size) :=
  ⟨by rw [lnR_zero]; exact (C0.out.kept hb).kept bb, (C1.out.kept hb).kept bb, (M2.out.kept hb).kept bb, M3, N1.out, N2.out, N3⟩
 have DB := Lib.hid (bnext (bnext CB.out hb) bb)
 clear hb C0 C1 CB M2 M3 m3 bb N1 N2 N3 R1 R2 R3 C z1 z2 z3 y1 y2 y3
 go_wp2_with (first
  | (refine m_alloc rfl rfl (some 11) rfl w6.heap.size rfl ?_)
  | (refine wpList_store_row rfl 83 _ _ rfl w6.heap.size (relC .i64 A) (by rfl) (by rfl) 83 (relC .i64 noR) X3.out (infoM _) (by first | rw [relC_size, relC_size] | rw [relC_size]) (relC_one _ _) ?_))
 clear X3
 generalize (w6.alloc (.cells (relC .i64 noR) 83)).setRow w6.heap.size (relC .i64 A) = w7 at *
 generalize w6.heap.size = b3 at *
 generalize hbw : w.heap.size = b0 at *
 replace hbw := Lib.hid hbw
 go_loopw [12, 13, 14] (fun i _ _ wr => ∃ n : Nat, n ≤ 729 ∧ i = .int .i64 n ∧ Hid (P4 wr (lnR (maS T T' A) n) T L K T' L' K' A b0 b1 b2 b3) ∧ Hid (Below b0 w wr)) (fun i _ _ _ => 729 - (intOf i).toNat)
 case atStart => exact ⟨0, by omega, rfl, D4, DB⟩
 case round =>
  clear D4 DB
  obtain ⟨n, hn, rfl, R4, RB⟩ := hrel
  by_cases hlt : n < 729
  ·obtain ⟨i, hi2⟩ : ∃ i, i = n / 27 := ⟨_, rfl⟩
   obtain ⟨j, hj2⟩ : ∃ j, j = n % 27 := ⟨_, rfl⟩
   have hi27 : i < 27 := by omega
   have hj27 : j < 27 := by omega
   have hqq : ((n : Int)).tdiv 27 = (i : Int) := by rw [Int.tdiv_eq_ediv_of_nonneg (by omega)]; omega
   have hrr : ((n : Int)).tmod 27 = (j : Int) := by rw [Int.tmod_eq_emod_of_nonneg (by omega)]; omega
   have PI := Lib.hid hi2
   have PJ := Lib.hid hj2
   clear hi2 hj2
   go_wp2_with fail
   obtain ⟨wo, rfl⟩ : ∃ wo : World, wo = wr := ⟨_, rfl⟩
   go_loopw [13, 14] (fun o c wr => ∃ m : Nat, m ≤ 27 ∧ c = .int .i64 m ∧ o = .bool (upM T T' A i j m) ∧ Hid (P4 wr (lnR (maS T T' A) n) T L K T' L' K' A b0 b1 b2 b3) ∧ Hid (Below b0 w wr)) (fun _ c _ => 27 - (intOf c).toNat)
   case atStart => exact ⟨0, by omega, rfl, by rw [upM_zero], R4, RB⟩
   case round =>
    clear R4 RB
    obtain ⟨m, hm, rfl, rfl, R4, RB⟩ := hrel
    by_cases hlm : m < 27
    ·have c1 := (R4.out.2.1.cell i).trans (allC_get _ _ _ hi27)
     have c2 := (R4.out.2.2.1.cell j).trans (allC_get _ _ _ hj27)
     have c3 := mrel_cell R4.out.2.2.2.1 hlm
     have HAN := s_and (T' j) (A m)
     have HZ : Hid ((((nb 27 (fun x => T' j x && A m x) : Nat) : Int) != 0) = !noM T' A j m) := rfl
     have CI := fun w => Lib.hid ((specInS (T i) m hlm w).mono fun _ _ h => (⟨h.1, h.2.symm⟩ : _ ∧ _))
     have US := Lib.hid (upM_succ T T' A i j m)
     generalize hU : upM T T' A i j m = U at *
     replace hU := Lib.hid hU
     generalize T i m = V at *
     generalize noM T' A j m = Z at *
     have hm0 : (0 : Int) ≤ (m : Int) := by omega
     have hm1 : (m : Int) < 27 := by omega
     cases U with
     | false =>
      as_aux_lemma =>
      go_wp2_with fail
      go_quiet (fail)
      have N4 := Lib.hid (R4.out.kept (bdrewN (Below.refl _ _) nq))
      have NB := Lib.hid (bdrewN RB.out nq)
      clear R4 RB
      go_wp2_with fail
      exact ⟨⟨m + 1, by omega, by go_num, by rw [US.out]; rfl, N4, NB⟩, by simp [intOf]; omega⟩
     | true =>
      cases V with
      | false =>
       as_aux_lemma =>
       go_wp2_with fail
       go_quiet ((go_at_call 86; exact Calls.quiet_of_same (CI _).out))
       have N4 := Lib.hid (R4.out.kept (bdrewN (Below.refl _ _) nq))
       have NB := Lib.hid (bdrewN RB.out nq)
       clear R4 RB
       go_wp2_with fail
       exact ⟨⟨m + 1, by omega, by go_num, by rw [US.out]; rfl, N4, NB⟩, by simp [intOf]; omega⟩
      | true =>
       cases Z
       all_goals
        as_aux_lemma =>
        go_wp2_with fail
        go_quiet ((go_at_call 86; exact Calls.quiet_of_same (CI _).out))
        have N4 := Lib.hid (R4.out.kept (bdrewN (Below.refl _ _) nq))
        have NB := Lib.hid (bdrewN RB.out nq)
        clear R4 RB
        go_wp2_with fail
        exact ⟨⟨m + 1, by omega, by go_num, by rw [US.out, HZ.out]; rfl, N4, NB⟩, by simp [intOf]; omega⟩
    ·have hm2 : m = 27 := by omega
     have hml : ¬ ((m : Int) < 27) := by omega
     have HF : Hid (upM T T' A i j m = maS T T' A (n / 27) (n % 27)) := by
      show _ = _
      rw [hm2, ← PI.out, ← PJ.out]
      rfl
     clear hm2
     have c0 := (R4.out.1.cell i).trans (relC_get .i64 (lnR (maS T T' A) n) hi27)
     have cf := R4.out.1.free i
     have HO := Lib.hid (s_bit hj27 (lnR (maS T T' A) n i))
     have RS := R4.out.1.set i (.int .i64 (nb 27 (fun c => lnR (maS T T' A) n i c || c == j)))
     rw [relC_set hi27] at RS
     replace RS := Lib.hid RS
     generalize upM T T' A i j m = U at *
     cases U with
     | false =>
      as_aux_lemma =>
      have N4 : Hid (P4 wr (lnR (maS T T' A) (n + 1)) T L K T' L' K' A b0 b1 b2 b3) := ⟨by rw [← lnR_no HF.out.symm]; exact R4.out.1, R4.out.2⟩
      clear R4 RS HF
      go_wp2_with fail
      exact ⟨⟨n + 1, by omega, by go_num, N4, RB⟩, by simp [intOf]; omega⟩
     | true =>
      as_aux_lemma =>
      have HY := lnR_yes (F := maS T T' A) (n := n) HF.out.symm
      rw [← PI.out, ← PJ.out] at HY
      have RS2 := RS.out
      rw [HY] at RS2
      have N4 := Lib.hid (R4.out.put i _ RS2)
      clear R4 RS RS2 HF HY
      go_wp2_with fail
      rw [HO.out]
      exact ⟨⟨n + 1, by omega, by go_num, N4, Lib.hid (RB.out.setCell (p := ⟨b0, i, none⟩) (Nat.le_refl _) _)⟩, by simp [intOf]; omega⟩
  ·have hk2 : n = 729 := by omega
   have RP := R4.out.1
   rw [hk2, lnR_all, HE.out] at RP
   replace RP := Lib.hid RP
   have hkl : ¬ ((n : Int) < 729) := by omega
   replace hk2 := Lib.hid hk2
   have HRR : (Tryz.prog.info? 83).map (·.size) = some RR.size := by rw [← HE.out]; exact infoM _
   clear R4
   go_wp2_with (refine wpList_load_row rfl 83 _ rfl b0 (by rfl) 83 RR (0, 0) _ RP.out undM rfl HRR ?_)
   refine (R5 _).out.mono ?_
   rintro e w9 ⟨rfl, hb⟩
   have VB := Lib.hid (RB.out.trans (hb.mono (by rw [← hbw.out]; exact (by have h8 := RB.out.size; rw [← hbw.out] at *; exact h8))))
   clear hb RB
   go_wp2_with fail
   go_ret2
   exact ⟨rfl, by rw [hbw.out]; exact VB.out⟩
theorem specMf_no (r s t : ByteArray) (w : World) (c : ∀ w, Calls Tryz.prog 83 #[.string s, .string t, .string r] w fun e w' => e = .returned (.bool false) ∧ Below w.heap.size w w') :
  Calls Tryz.prog 19 #[.string s, .string t, .string r] w fun e w' => e = .returned pfNo ∧ Below w.heap.size w w' := by
 have C := Lib.hid c
 unfold pfNo
 clear c
 obtain ⟨k0, kb, kz⟩ := one_blk w (relC .i64 noR) 83
 have KL := Lib.hid k0
 have KB := Lib.hid (Below.setRow kb (g := w.heap.size) (Nat.le_refl _) (relC .i64 noR))
 clear k0 kb kz
 go_enter Tryz.func19, Tryz.ntmps19
 go_wp2_with (first
  | (refine wpList_buildTo rfl 83 _ rfl _ rfl (relC .i64 noR) (by kernel_rfl) ?_)
  | (refine m_alloc rfl rfl (some 8) rfl w.heap.size rfl ?_)
  | (refine wpList_store_row rfl 83 _ _ rfl w.heap.size (relC .i64 noR) (by rfl) (by rfl) 83 (relC .i64 noR) KL.out (infoM _) (by first | rw [relC_size, relC_size] | rw [relC_size]) (relC_one _ _) ?_))
 refine (C.out _).mono ?_
 rintro e w1 ⟨rfl, hb⟩
 have HB1 := Lib.hid (bnext KB.out hb)
 clear hb KB KL
 go_wp2_with fail
 go_ret2
 exact ⟨rfl, HB1.out⟩
theorem rT_skip {i j : Nat} : rT .skip i j = true ↔ j = i := rT_iff
noncomputable def unR (q : Pg) (A : Nat → Nat → Bool) : Nat → Nat → Bool := fun i j => frR .skip q (fun a c => !A a c) i j && true
theorem unR_eq {q : Pg} {A : Nat → Nat → Bool} {i j : Nat} (hi : i < 27) : unR q A i j = !(upto 27 fun c => rT q j c && A i c) := by
 unfold unR
 rw [Bool.and_true, Bool.eq_iff_iff, frR_iff, Bool.not_eq_true']
 constructor
 ·intro h
  cases hu : upto 27 (fun c => rT q j c && A i c) with
  | false => rfl
  | true =>
   obtain ⟨c, hc, h1⟩ := upto_iff.1 hu
   rw [Bool.and_eq_true] at h1
   have := h i hi c hc (by rw [rT_skip.2 rfl, h1.1]; rfl)
   rw [h1.2] at this
   cases this
 ·intro h a _ c hc h1
  rw [Bool.and_eq_true] at h1
  obtain rfl := rT_skip.1 h1.1
  show (!A _ c) = true
  rw [Bool.not_eq_true']
  cases hA : A a c with
  | false => rfl
  | true =>
   rw [upto_iff.2 ⟨c, hc, by rw [h1.2, hA]; rfl⟩] at h
   cases h
theorem mfR_eq (p q : Pg) (A : Nat → Nat → Bool) {i j : Nat} (hj : j < 27) : (frR p .skip (fun a c => !unR q A a c) i j && true) = maR p q A i j := by
 unfold maR
 rw [Bool.and_true, Bool.eq_iff_iff, frR_iff, Bool.not_eq_true']
 constructor
 ·intro h
  cases hu : upto 27 (fun c => rT p i c && !(upto 27 fun x => rT q j x && A c x)) with
  | false => rfl
  | true =>
   obtain ⟨a, ha, h1⟩ := upto_iff.1 hu
   rw [Bool.and_eq_true] at h1
   have h2 := h a ha j hj (by rw [rT_skip.2 rfl, h1.1]; rfl)
   rw [unR_eq ha, h1.2] at h2
   cases h2
 ·intro h a ha c hc h1
  rw [Bool.and_eq_true] at h1
  obtain rfl := rT_skip.1 h1.2
  rw [unR_eq ha]
  cases hu : upto 27 (fun x => rT q c x && A a x) with
  | true => rfl
  | false =>
   rw [upto_iff.2 ⟨a, ha, by rw [h1.1, hu]; rfl⟩] at h
   cases h
theorem step_alloc {ops : Array Oper} {o : Oper} {a : Act} {w : World} {K : Act → World → Prop} {Q : Exit → Act → World → Prop} {E : Prop} (hg : o.guard = none) (ho : o.op = .alloc 68) (dst : Option Tmp) (hdst : o.dst = dst)
  (h : K (a.put dst (.pointer (some ⟨w.heap.size, 0, none⟩))) (w.alloc (.cells (relC .u32 noR) 68))) : if Region.wanted o (yielded ops a.tmps) = true then Oper.wp Tryz.prog o a w K Q else E := by
 subst hdst
 rw [if_pos (by simp [Region.wanted, hg])]
 unfold Oper.wp
 rw [show (execOp a.eval o).run Tryz.prog w = .ok (.value (.pointer (some ⟨w.heap.size, 0, none⟩))) (w.alloc (.cells (relC .u32 noR) 68)) from by
  simp [execOp, ho, Instr.alloc, Result.andThen, go_sem]
  kernel_rfl]
 rw [Oper.upon_value]
 exact h
set_option maxRecDepth 1000000 in
set_option maxHeartbeats 16000000 in
theorem matching_any (p q : Pg) (B B' : Nat) (v1 v2 : Value) (A : Nat → Nat → Bool) (w : World) (hv1 : StV w B p v1) (hv2 : StV w B' q v2) (hp : p.ok false) (hq : q.ok false) (hl : p.all.length ≤ 1100) (hm : q.all.length ≤ 1100) :
  Calls Tryz.prog 82 #[v1, v2, .agg (relC .u32 A)] w (RelPost (maR p q A) w) := by
 obtain ⟨k0, k1, kb, kz⟩ := two_blk w (relC .u32 A) (relC .u32 noR) 68 68
 have R5 := Lib.hid k0.drew
 have R6 := Lib.hid k1.drew
 have RB := Lib.hid kb.drew
 have V1 := Lib.hid ((hv1.below kb).below (Below.refl _ _).drew)
 have V2 := Lib.hid ((hv2.below kb).below (Below.refl _ _).drew)
 have CE := fun w => Lib.hid (every_any w)
 have CN := fun w => Lib.hid (rel_not A w)
 have CM := fun w => Lib.hid (rel_not (unR q A) w)
 have CF := Lib.hid (fun w (h : StV w B' q v2) => freeAmong_any .skip q 0 B' (.iface 139 (.agg #[])) v2 (fun _ _ => true) (fun i j => !A i j) w rfl h trivial hq (by decide) hm)
 have HR : relC .u32 (fun i j => frR p .skip (fun a c => !unR q A a c) i j && true) = relC .u32 (maR p q A) := relC_congr fun i _ j hj => mfR_eq p q A hj
 have CG : Hid (∀ w, StV w B p v1 → Calls Tryz.prog 77 #[.agg (relC .u32 (fun _ _ => true)), v1, .iface 139 (.agg #[]), .agg (relC .u32 (fun i j => !unR q A i j))] w fun e w' => e = .returned (.agg (relC .u32 (maR p q A))) ∧ Below w.heap.size w w') := fun w h => (freeAmong_any p .skip B 0 v1 (.iface 139 (.agg #[])) (fun _ _ => true) (fun i j => !unR q A i j) w h rfl hp trivial hl (by decide)).mono fun e w' ⟨he, hb⟩ => ⟨he.trans (congrArg (fun c => Ending.returned (.agg c)) HR), hb⟩
 have HU : (fun i j => frR .skip q (fun i j => !A i j) i j && (fun _ _ => true) i j) = unR q A := rfl
 unfold RelPost at CE CN CM CF
 rw [HU] at CF
 clear k0 k1 kb kz hv1 hv2 HU HR hp hq hl hm
 go_enter Tryz.func82, Tryz.ntmps82
 go_wp2_with (first
  | (refine wpList_boxTo rfl 68 _ rfl (some 5) rfl w.heap.size rfl (relC .u32 A) (by rfl) ?_)
  | (refine r_alloc rfl rfl (some 6) rfl (w.heap.size + 1) (by simp) ?_))
 generalize (w.alloc (.cells (relC .u32 A) 68)).alloc (.cells (relC .u32 noR) 68) = w0 at *
 refine wp_region_held_drew (S := fun w' => Blk w' w.heap.size (relC .u32 A) 68 ∧ Blk w' (w.heap.size + 1) (relC .u32 noR) 68) (by kernel_rfl) ⟨R5.out, R6.out⟩ (fun hHeld => ?_)
 generalize w0.drew = wd at *
 refine wpAnyH_take (i := 1) (oi := { dst := some 9, op := _, type := _, pos := _, after := _, guard := _ }) (v := ?_) rfl (by kernel_rfl) (by kernel_rfl) (by kernel_rfl) (fun _ _ _ h => h) (Or.inl ⟨by kernel_rfl, ?_⟩) hHeld ?_
 rotate_left
 ·intro w hSw
  go_simp
  first | done | with_reducible rfl
 simp only [Act.put]
 try simp only [List.setIfInBounds_toArray]
 refine wpAnyH_take (i := 2) (oi := { dst := some 10, op := _, type := _, pos := _, after := _, guard := _ }) (v := ?_) rfl (by kernel_rfl) (by kernel_rfl) (by kernel_rfl) (fun _ _ _ h => h) (Or.inl ⟨by kernel_rfl, ?_⟩) hHeld ?_
 rotate_left
 ·intro w hSw
  go_simp
  first | done | with_reducible rfl
 simp only [Act.put]
 try simp only [List.setIfInBounds_toArray]
 refine wpAnyH_take (i := 3) (oi := { dst := some 11, op := _, type := _, pos := _, after := _, guard := _ }) (v := ?_) rfl (by kernel_rfl) (by kernel_rfl) (by kernel_rfl) (fun _ _ _ h => h) (Or.inl ⟨by kernel_rfl, ?_⟩) hHeld ?_
 rotate_left
 ·intro w hSw
  go_simp
  first | done | with_reducible rfl
 simp only [Act.put]
 try simp only [List.setIfInBounds_toArray]
 refine wpAnyH_take (i := 4) (v := .agg (relC .u32 A)) rfl (by kernel_rfl) (by kernel_rfl) (by kernel_rfl) (fun _ _ _ h => h) (yields_row (by rfl) rfl rfl fun w hSw => r_load hSw.1) hHeld ?_
 simp only [Act.put]
 try simp only [List.setIfInBounds_toArray]
 refine wpAnyH_ready (rs := [0, 7]) (by kernel_rfl) (by simp) ?_
 refine AllReadyH.cons rfl (fun K hK => ?_) (AllReadyH.cons rfl (fun K hK => ?_) AllReadyH.nil)
 ·as_aux_lemma =>
  go_simp
  refine (CE wd).out.mono ?_
  rintro e w2 ⟨rfl, hb⟩
  replace R5 := Lib.hid (R5.out.kept hb)
  replace R6 := Lib.hid (R6.out.kept hb)
  replace RB := Lib.hid (bnext RB.out hb)
  replace V1 := Lib.hid (V1.out.below hb)
  replace V2 := Lib.hid (V2.out.below hb)
  clear hb
  go_wp2_with fail
  refine hK.out _ _ ⟨R5.out, R6.out⟩ (fun hHeld => ?_)
  clear hK K
  try simp only [Act.put]
  try simp only [List.setIfInBounds_toArray]
  refine wpAnyH_ready (rs := [5, 7]) (by kernel_rfl) (by simp) ?_
  refine AllReadyH.cons rfl (fun K hK => ?_) (AllReadyH.cons rfl (fun K hK => ?_) AllReadyH.nil)
  ·as_aux_lemma =>
   go_simp
   refine (CN w2).out.mono ?_
   rintro e w3 ⟨rfl, hb⟩
   replace R5 := Lib.hid (R5.out.kept hb)
   replace R6 := Lib.hid (R6.out.kept hb)
   replace RB := Lib.hid (bnext RB.out hb)
   replace V1 := Lib.hid (V1.out.below hb)
   replace V2 := Lib.hid (V2.out.below hb)
   clear hb
   go_wp2_with fail
   refine hK.out _ _ ⟨R5.out, R6.out⟩ (fun hHeld => ?_)
   clear hK K
   try simp only [Act.put]
   try simp only [List.setIfInBounds_toArray]
   refine wpAnyH_ready (rs := [6, 7]) (by kernel_rfl) (by simp) ?_
   refine AllReadyH.cons rfl (fun K hK => ?_) (AllReadyH.cons rfl (fun K hK => ?_) AllReadyH.nil)
   ·as_aux_lemma =>
    go_simp
    refine (CF.out w3 V2.out).mono ?_
    rintro e w4 ⟨rfl, hb⟩
    replace R5 := Lib.hid (R5.out.kept hb)
    replace R6 := Lib.hid (R6.out.kept hb)
    replace RB := Lib.hid (bnext RB.out hb)
    replace V1 := Lib.hid (V1.out.below hb)
    replace V2 := Lib.hid (V2.out.below hb)
    clear hb
    go_wp2_with fail
    refine hK.out _ _ ⟨R5.out, R6.out⟩ (fun hHeld => ?_)
    clear hK K
    try simp only [Act.put]
    try simp only [List.setIfInBounds_toArray]
    refine wpAnyH_ready (rs := [7]) (by kernel_rfl) (by simp) ?_
    refine AllReadyH.cons rfl (fun K hK => ?_) AllReadyH.nil
    refine step_alloc rfl rfl (some 7) rfl ?_
    have bx := (Below.refl w4.heap.size w4).alloc (Nat.le_refl _) (.cells (relC .u32 noR) 68)
    have R7 := Lib.hid (Blk.new w4 (relC .u32 noR) 68)
    have HN : w.heap.size + 1 < w4.heap.size := R6.out.lt
    replace R5 := Lib.hid (R5.out.kept bx)
    replace R6 := Lib.hid (R6.out.kept bx)
    replace RB := Lib.hid (bnext RB.out bx)
    replace V1 := Lib.hid (V1.out.below bx)
    replace V2 := Lib.hid (V2.out.below bx)
    clear bx
    generalize w4.alloc (.cells (relC .u32 noR) 68) = w5 at *
    generalize w4.heap.size = nb at *
    refine hK.out _ _ ⟨R5.out, R6.out⟩ (fun hHeld => ?_)
    clear hK K
    try simp only [Act.put]
    try simp only [List.setIfInBounds_toArray]
    refine wpAnyH_ready (rs := [8]) (by kernel_rfl) (by simp) ?_
    refine AllReadyH.cons rfl (fun K hK => ?_) AllReadyH.nil
    refine step_store_row rfl 68 _ _ rfl nb (relC .u32 (unR q A)) (by rfl) (by rfl) 68 (relC .u32 noR) R7.out (infoR _) (by rw [relC_size, relC_size]) (relC_one _ _) ?_
    have bx := Below.setRow (Below.refl nb w5) (g := nb) (Nat.le_refl _) (relC .u32 (unR q A))
    replace V1 := Lib.hid (V1.out.rowOther R7.out (relC .u32 (unR q A)))
    replace R7 := Lib.hid (R7.out.row (relC .u32 (unR q A)))
    replace R5 := Lib.hid (R5.out.rowOther (g := nb) (by omega) (relC .u32 (unR q A)))
    replace R6 := Lib.hid (R6.out.rowOther (g := nb) (by omega) (relC .u32 (unR q A)))
    replace RB := Lib.hid (Below.setRow RB.out (g := nb) (by omega) (relC .u32 (unR q A)))
    clear bx V2
    generalize w5.setRow nb (relC .u32 (unR q A)) = w6 at *
    refine hK.out _ _ ⟨R5.out, R6.out⟩ (fun hHeld => ?_)
    clear hK K
    try simp only [Act.put]
    try simp only [List.setIfInBounds_toArray]
    refine wpAnyH_done (by kernel_rfl) ?_ _
    clear hHeld
    replace R6 := Lib.hid R6.out.drew
    replace R7 := Lib.hid R7.out.drew
    replace RB := Lib.hid RB.out.drew
    replace V1 := Lib.hid (V1.out.below (Below.refl _ _).drew)
    clear R5 CF CN
    go_wp2_with fail
    refine wp_region_held_drew (S := fun w' => Blk w' nb (relC .u32 (unR q A)) 68) (by kernel_rfl) R7.out (fun hHeld => ?_)
    generalize w6.drew = we at *
    refine wpAnyH_take (i := 1) (oi := { dst := some 16, op := _, type := _, pos := _, after := _, guard := _ }) (v := ?_) rfl (by kernel_rfl) (by kernel_rfl) (by kernel_rfl) (fun _ _ _ h => h) (Or.inl ⟨by kernel_rfl, ?_⟩) hHeld ?_
    rotate_left
    ·intro w hSw
     go_simp
     first | done | with_reducible rfl
    simp only [Act.put]
    try simp only [List.setIfInBounds_toArray]
    refine wpAnyH_take (i := 2) (oi := { dst := some 17, op := _, type := _, pos := _, after := _, guard := _ }) (v := ?_) rfl (by kernel_rfl) (by kernel_rfl) (by kernel_rfl) (fun _ _ _ h => h) (Or.inl ⟨by kernel_rfl, ?_⟩) hHeld ?_
    rotate_left
    ·intro w hSw
     go_simp
     first | done | with_reducible rfl
    simp only [Act.put]
    try simp only [List.setIfInBounds_toArray]
    refine wpAnyH_take (i := 3) (oi := { dst := some 18, op := _, type := _, pos := _, after := _, guard := _ }) (v := ?_) rfl (by kernel_rfl) (by kernel_rfl) (by kernel_rfl) (fun _ _ _ h => h) (Or.inl ⟨by kernel_rfl, ?_⟩) hHeld ?_
    rotate_left
    ·intro w hSw
     go_simp
     first | done | with_reducible rfl
    simp only [Act.put]
    try simp only [List.setIfInBounds_toArray]
    refine wpAnyH_take (i := 4) (v := .agg (relC .u32 (unR q A))) rfl (by kernel_rfl) (by kernel_rfl) (by kernel_rfl) (fun _ _ _ h => h) (yields_row (by rfl) rfl rfl fun w hSw => r_load hSw) hHeld ?_
    simp only [Act.put]
    try simp only [List.setIfInBounds_toArray]
    refine wpAnyH_ready (rs := [0]) (by kernel_rfl) (by simp) ?_
    refine AllReadyH.cons rfl (fun K hK => ?_) AllReadyH.nil
    go_simp
    refine (CE we).out.mono ?_
    rintro e x0 ⟨rfl, hb⟩
    replace R6 := Lib.hid (R6.out.kept hb)
    replace R7 := Lib.hid (R7.out.kept hb)
    replace RB := Lib.hid (bnext RB.out hb)
    replace V1 := Lib.hid (V1.out.below hb)
    clear hb
    go_wp2_with fail
    refine hK.out _ _ R7.out (fun hHeld => ?_)
    clear hK K
    try simp only [Act.put]
    try simp only [List.setIfInBounds_toArray]
    refine wpAnyH_ready (rs := [5]) (by kernel_rfl) (by simp) ?_
    refine AllReadyH.cons rfl (fun K hK => ?_) AllReadyH.nil
    go_simp
    refine (CM x0).out.mono ?_
    rintro e x1 ⟨rfl, hb⟩
    replace R6 := Lib.hid (R6.out.kept hb)
    replace R7 := Lib.hid (R7.out.kept hb)
    replace RB := Lib.hid (bnext RB.out hb)
    replace V1 := Lib.hid (V1.out.below hb)
    clear hb
    go_wp2_with fail
    refine hK.out _ _ R7.out (fun hHeld => ?_)
    clear hK K
    try simp only [Act.put]
    try simp only [List.setIfInBounds_toArray]
    refine wpAnyH_ready (rs := [6]) (by kernel_rfl) (by simp) ?_
    refine AllReadyH.cons rfl (fun K hK => ?_) AllReadyH.nil
    go_simp
    refine (CG.out x1 V1.out).mono ?_
    rintro e x2 ⟨rfl, hb⟩
    replace R6 := Lib.hid (R6.out.kept hb)
    replace R7 := Lib.hid (R7.out.kept hb)
    replace RB := Lib.hid (bnext RB.out hb)
    replace V1 := Lib.hid (V1.out.below hb)
    clear hb
    go_wp2_with fail
    refine hK.out _ _ R7.out (fun hHeld => ?_)
    clear hK K
    try simp only [Act.put]
    try simp only [List.setIfInBounds_toArray]
    refine wpAnyH_ready (rs := [7]) (by kernel_rfl) (by simp) ?_
    refine AllReadyH.cons rfl (fun K hK => ?_) AllReadyH.nil
    refine step_store_row rfl 68 _ _ rfl (w.heap.size + 1) (relC .u32 (maR p q A)) (by rfl) (by rfl) 68 (relC .u32 noR) R6.out (infoR _) (by rw [relC_size, relC_size]) (relC_one _ _) ?_
    refine hK.out _ _ (R7.out.rowOther (by omega) _) (fun hHeld => ?_)
    clear hK K hHeld
    try simp only [Act.put]
    try simp only [List.setIfInBounds_toArray]
    refine wpAnyH_done (by kernel_rfl) ?_ _
    go_wp2_with fail
    exact bodyPost_ret (v := .agg (relC .u32 (maR p q A))) (results_cell_row rfl _ _ (w.heap.size + 1) 68 _ (0, 0) _ (by rfl) (R6.out.row _) undR rfl (infoR _)) rfl ⟨rfl, Below.setRow RB.out (by omega) _⟩
   ·as_aux_lemma =>
    refine step_alloc rfl rfl (some 7) rfl ?_
    have bx := (Below.refl w3.heap.size w3).alloc (Nat.le_refl _) (.cells (relC .u32 noR) 68)
    have R7 := Lib.hid (Blk.new w3 (relC .u32 noR) 68)
    have HN : w.heap.size + 1 < w3.heap.size := R6.out.lt
    replace R5 := Lib.hid (R5.out.kept bx)
    replace R6 := Lib.hid (R6.out.kept bx)
    replace RB := Lib.hid (bnext RB.out bx)
    replace V1 := Lib.hid (V1.out.below bx)
    replace V2 := Lib.hid (V2.out.below bx)
    clear bx
    generalize w3.alloc (.cells (relC .u32 noR) 68) = w4 at *
    generalize w3.heap.size = nb at *
    refine hK.out _ _ ⟨R5.out, R6.out⟩ (fun hHeld => ?_)
    clear hK K
    try simp only [Act.put]
    try simp only [List.setIfInBounds_toArray]
    refine wpAnyH_ready (rs := [6]) (by kernel_rfl) (by simp) ?_
    refine AllReadyH.cons rfl (fun K hK => ?_) AllReadyH.nil
    go_simp
    refine (CF.out w4 V2.out).mono ?_
    rintro e w5 ⟨rfl, hb⟩
    replace R5 := Lib.hid (R5.out.kept hb)
    replace R6 := Lib.hid (R6.out.kept hb)
    replace RB := Lib.hid (bnext RB.out hb)
    replace V1 := Lib.hid (V1.out.below hb)
    replace V2 := Lib.hid (V2.out.below hb)
    replace R7 := Lib.hid (R7.out.kept hb)
    clear hb
    go_wp2_with fail
    refine hK.out _ _ ⟨R5.out, R6.out⟩ (fun hHeld => ?_)
    clear hK K
    try simp only [Act.put]
    try simp only [List.setIfInBounds_toArray]
    refine wpAnyH_ready (rs := [8]) (by kernel_rfl) (by simp) ?_
    refine AllReadyH.cons rfl (fun K hK => ?_) AllReadyH.nil
    refine step_store_row rfl 68 _ _ rfl nb (relC .u32 (unR q A)) (by rfl) (by rfl) 68 (relC .u32 noR) R7.out (infoR _) (by rw [relC_size, relC_size]) (relC_one _ _) ?_
    have bx := Below.setRow (Below.refl nb w5) (g := nb) (Nat.le_refl _) (relC .u32 (unR q A))
    replace V1 := Lib.hid (V1.out.rowOther R7.out (relC .u32 (unR q A)))
    replace R7 := Lib.hid (R7.out.row (relC .u32 (unR q A)))
    replace R5 := Lib.hid (R5.out.rowOther (g := nb) (by omega) (relC .u32 (unR q A)))
    replace R6 := Lib.hid (R6.out.rowOther (g := nb) (by omega) (relC .u32 (unR q A)))
    replace RB := Lib.hid (Below.setRow RB.out (g := nb) (by omega) (relC .u32 (unR q A)))
    clear bx V2
    generalize w5.setRow nb (relC .u32 (unR q A)) = w6 at *
    refine hK.out _ _ ⟨R5.out, R6.out⟩ (fun hHeld => ?_)
    clear hK K
    try simp only [Act.put]
    try simp only [List.setIfInBounds_toArray]
    refine wpAnyH_done (by kernel_rfl) ?_ _
    clear hHeld
    replace R6 := Lib.hid R6.out.drew
    replace R7 := Lib.hid R7.out.drew
    replace RB := Lib.hid RB.out.drew
    replace V1 := Lib.hid (V1.out.below (Below.refl _ _).drew)
    clear R5 CF CN
    go_wp2_with fail
    refine wp_region_held_drew (S := fun w' => Blk w' nb (relC .u32 (unR q A)) 68) (by kernel_rfl) R7.out (fun hHeld => ?_)
    generalize w6.drew = we at *
    refine wpAnyH_take (i := 1) (oi := { dst := some 16, op := _, type := _, pos := _, after := _, guard := _ }) (v := ?_) rfl (by kernel_rfl) (by kernel_rfl) (by kernel_rfl) (fun _ _ _ h => h) (Or.inl ⟨by kernel_rfl, ?_⟩) hHeld ?_
    rotate_left
    ·intro w hSw
     go_simp
     first | done | with_reducible rfl
    simp only [Act.put]
    try simp only [List.setIfInBounds_toArray]
    refine wpAnyH_take (i := 2) (oi := { dst := some 17, op := _, type := _, pos := _, after := _, guard := _ }) (v := ?_) rfl (by kernel_rfl) (by kernel_rfl) (by kernel_rfl) (fun _ _ _ h => h) (Or.inl ⟨by kernel_rfl, ?_⟩) hHeld ?_
    rotate_left
    ·intro w hSw
     go_simp
     first | done | with_reducible rfl
    simp only [Act.put]
    try simp only [List.setIfInBounds_toArray]
    refine wpAnyH_take (i := 3) (oi := { dst := some 18, op := _, type := _, pos := _, after := _, guard := _ }) (v := ?_) rfl (by kernel_rfl) (by kernel_rfl) (by kernel_rfl) (fun _ _ _ h => h) (Or.inl ⟨by kernel_rfl, ?_⟩) hHeld ?_
    rotate_left
    ·intro w hSw
     go_simp
     first | done | with_reducible rfl
    simp only [Act.put]
    try simp only [List.setIfInBounds_toArray]
    refine wpAnyH_take (i := 4) (v := .agg (relC .u32 (unR q A))) rfl (by kernel_rfl) (by kernel_rfl) (by kernel_rfl) (fun _ _ _ h => h) (yields_row (by rfl) rfl rfl fun w hSw => r_load hSw) hHeld ?_
    simp only [Act.put]
    try simp only [List.setIfInBounds_toArray]
    refine wpAnyH_ready (rs := [0]) (by kernel_rfl) (by simp) ?_
    refine AllReadyH.cons rfl (fun K hK => ?_) AllReadyH.nil
    go_simp
    refine (CE we).out.mono ?_
    rintro e x0 ⟨rfl, hb⟩
    replace R6 := Lib.hid (R6.out.kept hb)
    replace R7 := Lib.hid (R7.out.kept hb)
    replace RB := Lib.hid (bnext RB.out hb)
    replace V1 := Lib.hid (V1.out.below hb)
    clear hb
    go_wp2_with fail
    refine hK.out _ _ R7.out (fun hHeld => ?_)
    clear hK K
    try simp only [Act.put]
    try simp only [List.setIfInBounds_toArray]
    refine wpAnyH_ready (rs := [5]) (by kernel_rfl) (by simp) ?_
    refine AllReadyH.cons rfl (fun K hK => ?_) AllReadyH.nil
    go_simp
    refine (CM x0).out.mono ?_
    rintro e x1 ⟨rfl, hb⟩
    replace R6 := Lib.hid (R6.out.kept hb)
    replace R7 := Lib.hid (R7.out.kept hb)
    replace RB := Lib.hid (bnext RB.out hb)
    replace V1 := Lib.hid (V1.out.below hb)
    clear hb
    go_wp2_with fail
    refine hK.out _ _ R7.out (fun hHeld => ?_)
    clear hK K
    try simp only [Act.put]
    try simp only [List.setIfInBounds_toArray]
    refine wpAnyH_ready (rs := [6]) (by kernel_rfl) (by simp) ?_
    refine AllReadyH.cons rfl (fun K hK => ?_) AllReadyH.nil
    go_simp
    refine (CG.out x1 V1.out).mono ?_
    rintro e x2 ⟨rfl, hb⟩
    replace R6 := Lib.hid (R6.out.kept hb)
    replace R7 := Lib.hid (R7.out.kept hb)
    replace RB := Lib.hid (bnext RB.out hb)
    replace V1 := Lib.hid (V1.out.below hb)
    clear hb
    go_wp2_with fail
    refine hK.out _ _ R7.out (fun hHeld => ?_)
    clear hK K
    try simp only [Act.put]
    try simp only [List.setIfInBounds_toArray]
    refine wpAnyH_ready (rs := [7]) (by kernel_rfl) (by simp) ?_
    refine AllReadyH.cons rfl (fun K hK => ?_) AllReadyH.nil
    refine step_store_row rfl 68 _ _ rfl (w.heap.size + 1) (relC .u32 (maR p q A)) (by rfl) (by rfl) 68 (relC .u32 noR) R6.out (infoR _) (by rw [relC_size, relC_size]) (relC_one _ _) ?_
    refine hK.out _ _ (R7.out.rowOther (by omega) _) (fun hHeld => ?_)
    clear hK K hHeld
    try simp only [Act.put]
    try simp only [List.setIfInBounds_toArray]
    refine wpAnyH_done (by kernel_rfl) ?_ _
    go_wp2_with fail
    exact bodyPost_ret (v := .agg (relC .u32 (maR p q A))) (results_cell_row rfl _ _ (w.heap.size + 1) 68 _ (0, 0) _ (by rfl) (R6.out.row _) undR rfl (infoR _)) rfl ⟨rfl, Below.setRow RB.out (by omega) _⟩
  ·as_aux_lemma =>
   refine step_alloc rfl rfl (some 7) rfl ?_
   have bx := (Below.refl w2.heap.size w2).alloc (Nat.le_refl _) (.cells (relC .u32 noR) 68)
   have R7 := Lib.hid (Blk.new w2 (relC .u32 noR) 68)
   have HN : w.heap.size + 1 < w2.heap.size := R6.out.lt
   replace R5 := Lib.hid (R5.out.kept bx)
   replace R6 := Lib.hid (R6.out.kept bx)
   replace RB := Lib.hid (bnext RB.out bx)
   replace V1 := Lib.hid (V1.out.below bx)
   replace V2 := Lib.hid (V2.out.below bx)
   clear bx
   generalize w2.alloc (.cells (relC .u32 noR) 68) = w3 at *
   generalize w2.heap.size = nb at *
   refine hK.out _ _ ⟨R5.out, R6.out⟩ (fun hHeld => ?_)
   clear hK K
   try simp only [Act.put]
   try simp only [List.setIfInBounds_toArray]
   refine wpAnyH_ready (rs := [5]) (by kernel_rfl) (by simp) ?_
   refine AllReadyH.cons rfl (fun K hK => ?_) AllReadyH.nil
   go_simp
   refine (CN w3).out.mono ?_
   rintro e w4 ⟨rfl, hb⟩
   replace R5 := Lib.hid (R5.out.kept hb)
   replace R6 := Lib.hid (R6.out.kept hb)
   replace RB := Lib.hid (bnext RB.out hb)
   replace V1 := Lib.hid (V1.out.below hb)
   replace V2 := Lib.hid (V2.out.below hb)
   replace R7 := Lib.hid (R7.out.kept hb)
   clear hb
   go_wp2_with fail
   refine hK.out _ _ ⟨R5.out, R6.out⟩ (fun hHeld => ?_)
   clear hK K
   try simp only [Act.put]
   try simp only [List.setIfInBounds_toArray]
   refine wpAnyH_ready (rs := [6]) (by kernel_rfl) (by simp) ?_
   refine AllReadyH.cons rfl (fun K hK => ?_) AllReadyH.nil
   go_simp
   refine (CF.out w4 V2.out).mono ?_
   rintro e w5 ⟨rfl, hb⟩
   replace R5 := Lib.hid (R5.out.kept hb)
   replace R6 := Lib.hid (R6.out.kept hb)
   replace RB := Lib.hid (bnext RB.out hb)
   replace V1 := Lib.hid (V1.out.below hb)
   replace V2 := Lib.hid (V2.out.below hb)
   replace R7 := Lib.hid (R7.out.kept hb)
   clear hb
   go_wp2_with fail
   refine hK.out _ _ ⟨R5.out, R6.out⟩ (fun hHeld => ?_)
   clear hK K
   try simp only [Act.put]
   try simp only [List.setIfInBounds_toArray]
   refine wpAnyH_ready (rs := [8]) (by kernel_rfl) (by simp) ?_
   refine AllReadyH.cons rfl (fun K hK => ?_) AllReadyH.nil
   refine step_store_row rfl 68 _ _ rfl nb (relC .u32 (unR q A)) (by rfl) (by rfl) 68 (relC .u32 noR) R7.out (infoR _) (by rw [relC_size, relC_size]) (relC_one _ _) ?_
   have bx := Below.setRow (Below.refl nb w5) (g := nb) (Nat.le_refl _) (relC .u32 (unR q A))
   replace V1 := Lib.hid (V1.out.rowOther R7.out (relC .u32 (unR q A)))
   replace R7 := Lib.hid (R7.out.row (relC .u32 (unR q A)))
   replace R5 := Lib.hid (R5.out.rowOther (g := nb) (by omega) (relC .u32 (unR q A)))
   replace R6 := Lib.hid (R6.out.rowOther (g := nb) (by omega) (relC .u32 (unR q A)))
   replace RB := Lib.hid (Below.setRow RB.out (g := nb) (by omega) (relC .u32 (unR q A)))
   clear bx V2
   generalize w5.setRow nb (relC .u32 (unR q A)) = w6 at *
   refine hK.out _ _ ⟨R5.out, R6.out⟩ (fun hHeld => ?_)
   clear hK K
   try simp only [Act.put]
   try simp only [List.setIfInBounds_toArray]
   refine wpAnyH_done (by kernel_rfl) ?_ _
   clear hHeld
   replace R6 := Lib.hid R6.out.drew
   replace R7 := Lib.hid R7.out.drew
   replace RB := Lib.hid RB.out.drew
   replace V1 := Lib.hid (V1.out.below (Below.refl _ _).drew)
   clear R5 CF CN
   go_wp2_with fail
   refine wp_region_held_drew (S := fun w' => Blk w' nb (relC .u32 (unR q A)) 68) (by kernel_rfl) R7.out (fun hHeld => ?_)
   generalize w6.drew = we at *
   refine wpAnyH_take (i := 1) (oi := { dst := some 16, op := _, type := _, pos := _, after := _, guard := _ }) (v := ?_) rfl (by kernel_rfl) (by kernel_rfl) (by kernel_rfl) (fun _ _ _ h => h) (Or.inl ⟨by kernel_rfl, ?_⟩) hHeld ?_
   rotate_left
   ·intro w hSw
    go_simp
    first | done | with_reducible rfl
   simp only [Act.put]
   try simp only [List.setIfInBounds_toArray]
   refine wpAnyH_take (i := 2) (oi := { dst := some 17, op := _, type := _, pos := _, after := _, guard := _ }) (v := ?_) rfl (by kernel_rfl) (by kernel_rfl) (by kernel_rfl) (fun _ _ _ h => h) (Or.inl ⟨by kernel_rfl, ?_⟩) hHeld ?_
   rotate_left
   ·intro w hSw
    go_simp
    first | done | with_reducible rfl
   simp only [Act.put]
   try simp only [List.setIfInBounds_toArray]
   refine wpAnyH_take (i := 3) (oi := { dst := some 18, op := _, type := _, pos := _, after := _, guard := _ }) (v := ?_) rfl (by kernel_rfl) (by kernel_rfl) (by kernel_rfl) (fun _ _ _ h => h) (Or.inl ⟨by kernel_rfl, ?_⟩) hHeld ?_
   rotate_left
   ·intro w hSw
    go_simp
    first | done | with_reducible rfl
   simp only [Act.put]
   try simp only [List.setIfInBounds_toArray]
   refine wpAnyH_take (i := 4) (v := .agg (relC .u32 (unR q A))) rfl (by kernel_rfl) (by kernel_rfl) (by kernel_rfl) (fun _ _ _ h => h) (yields_row (by rfl) rfl rfl fun w hSw => r_load hSw) hHeld ?_
   simp only [Act.put]
   try simp only [List.setIfInBounds_toArray]
   refine wpAnyH_ready (rs := [0]) (by kernel_rfl) (by simp) ?_
   refine AllReadyH.cons rfl (fun K hK => ?_) AllReadyH.nil
   go_simp
   refine (CE we).out.mono ?_
   rintro e x0 ⟨rfl, hb⟩
   replace R6 := Lib.hid (R6.out.kept hb)
   replace R7 := Lib.hid (R7.out.kept hb)
   replace RB := Lib.hid (bnext RB.out hb)
   replace V1 := Lib.hid (V1.out.below hb)
   clear hb
   go_wp2_with fail
   refine hK.out _ _ R7.out (fun hHeld => ?_)
   clear hK K
   try simp only [Act.put]
   try simp only [List.setIfInBounds_toArray]
   refine wpAnyH_ready (rs := [5]) (by kernel_rfl) (by simp) ?_
   refine AllReadyH.cons rfl (fun K hK => ?_) AllReadyH.nil
   go_simp
   refine (CM x0).out.mono ?_
   rintro e x1 ⟨rfl, hb⟩
   replace R6 := Lib.hid (R6.out.kept hb)
   replace R7 := Lib.hid (R7.out.kept hb)
   replace RB := Lib.hid (bnext RB.out hb)
   replace V1 := Lib.hid (V1.out.below hb)
   clear hb
   go_wp2_with fail
   refine hK.out _ _ R7.out (fun hHeld => ?_)
   clear hK K
   try simp only [Act.put]
   try simp only [List.setIfInBounds_toArray]
   refine wpAnyH_ready (rs := [6]) (by kernel_rfl) (by simp) ?_
   refine AllReadyH.cons rfl (fun K hK => ?_) AllReadyH.nil
   go_simp
   refine (CG.out x1 V1.out).mono ?_
   rintro e x2 ⟨rfl, hb⟩
   replace R6 := Lib.hid (R6.out.kept hb)
   replace R7 := Lib.hid (R7.out.kept hb)
   replace RB := Lib.hid (bnext RB.out hb)
   replace V1 := Lib.hid (V1.out.below hb)
   clear hb
   go_wp2_with fail
   refine hK.out _ _ R7.out (fun hHeld => ?_)
   clear hK K
   try simp only [Act.put]
   try simp only [List.setIfInBounds_toArray]
   refine wpAnyH_ready (rs := [7]) (by kernel_rfl) (by simp) ?_
   refine AllReadyH.cons rfl (fun K hK => ?_) AllReadyH.nil
   refine step_store_row rfl 68 _ _ rfl (w.heap.size + 1) (relC .u32 (maR p q A)) (by rfl) (by rfl) 68 (relC .u32 noR) R6.out (infoR _) (by rw [relC_size, relC_size]) (relC_one _ _) ?_
   refine hK.out _ _ (R7.out.rowOther (by omega) _) (fun hHeld => ?_)
   clear hK K hHeld
   try simp only [Act.put]
   try simp only [List.setIfInBounds_toArray]
   refine wpAnyH_done (by kernel_rfl) ?_ _
   go_wp2_with fail
   exact bodyPost_ret (v := .agg (relC .u32 (maR p q A))) (results_cell_row rfl _ _ (w.heap.size + 1) 68 _ (0, 0) _ (by rfl) (R6.out.row _) undR rfl (infoR _)) rfl ⟨rfl, Below.setRow RB.out (by omega) _⟩
 ·as_aux_lemma =>
  refine step_alloc rfl rfl (some 7) rfl ?_
  have bx := (Below.refl wd.heap.size wd).alloc (Nat.le_refl _) (.cells (relC .u32 noR) 68)
  have R7 := Lib.hid (Blk.new wd (relC .u32 noR) 68)
  have HN : w.heap.size + 1 < wd.heap.size := R6.out.lt
  replace R5 := Lib.hid (R5.out.kept bx)
  replace R6 := Lib.hid (R6.out.kept bx)
  replace RB := Lib.hid (bnext RB.out bx)
  replace V1 := Lib.hid (V1.out.below bx)
  replace V2 := Lib.hid (V2.out.below bx)
  clear bx
  generalize wd.alloc (.cells (relC .u32 noR) 68) = w2 at *
  generalize wd.heap.size = nb at *
  refine hK.out _ _ ⟨R5.out, R6.out⟩ (fun hHeld => ?_)
  clear hK K
  try simp only [Act.put]
  try simp only [List.setIfInBounds_toArray]
  refine wpAnyH_ready (rs := [0]) (by kernel_rfl) (by simp) ?_
  refine AllReadyH.cons rfl (fun K hK => ?_) AllReadyH.nil
  go_simp
  refine (CE w2).out.mono ?_
  rintro e w3 ⟨rfl, hb⟩
  replace R5 := Lib.hid (R5.out.kept hb)
  replace R6 := Lib.hid (R6.out.kept hb)
  replace RB := Lib.hid (bnext RB.out hb)
  replace V1 := Lib.hid (V1.out.below hb)
  replace V2 := Lib.hid (V2.out.below hb)
  replace R7 := Lib.hid (R7.out.kept hb)
  clear hb
  go_wp2_with fail
  refine hK.out _ _ ⟨R5.out, R6.out⟩ (fun hHeld => ?_)
  clear hK K
  try simp only [Act.put]
  try simp only [List.setIfInBounds_toArray]
  refine wpAnyH_ready (rs := [5]) (by kernel_rfl) (by simp) ?_
  refine AllReadyH.cons rfl (fun K hK => ?_) AllReadyH.nil
  go_simp
  refine (CN w3).out.mono ?_
  rintro e w4 ⟨rfl, hb⟩
  replace R5 := Lib.hid (R5.out.kept hb)
  replace R6 := Lib.hid (R6.out.kept hb)
  replace RB := Lib.hid (bnext RB.out hb)
  replace V1 := Lib.hid (V1.out.below hb)
  replace V2 := Lib.hid (V2.out.below hb)
  replace R7 := Lib.hid (R7.out.kept hb)
  clear hb
  go_wp2_with fail
  refine hK.out _ _ ⟨R5.out, R6.out⟩ (fun hHeld => ?_)
  clear hK K
  try simp only [Act.put]
  try simp only [List.setIfInBounds_toArray]
  refine wpAnyH_ready (rs := [6]) (by kernel_rfl) (by simp) ?_
  refine AllReadyH.cons rfl (fun K hK => ?_) AllReadyH.nil
  go_simp
  refine (CF.out w4 V2.out).mono ?_
  rintro e w5 ⟨rfl, hb⟩
  replace R5 := Lib.hid (R5.out.kept hb)
  replace R6 := Lib.hid (R6.out.kept hb)
  replace RB := Lib.hid (bnext RB.out hb)
  replace V1 := Lib.hid (V1.out.below hb)
  replace V2 := Lib.hid (V2.out.below hb)
  replace R7 := Lib.hid (R7.out.kept hb)
  clear hb
  go_wp2_with fail
  refine hK.out _ _ ⟨R5.out, R6.out⟩ (fun hHeld => ?_)
  clear hK K
  try simp only [Act.put]
  try simp only [List.setIfInBounds_toArray]
  refine wpAnyH_ready (rs := [8]) (by kernel_rfl) (by simp) ?_
  refine AllReadyH.cons rfl (fun K hK => ?_) AllReadyH.nil
  refine step_store_row rfl 68 _ _ rfl nb (relC .u32 (unR q A)) (by rfl) (by rfl) 68 (relC .u32 noR) R7.out (infoR _) (by rw [relC_size, relC_size]) (relC_one _ _) ?_
  have bx := Below.setRow (Below.refl nb w5) (g := nb) (Nat.le_refl _) (relC .u32 (unR q A))
  replace V1 := Lib.hid (V1.out.rowOther R7.out (relC .u32 (unR q A)))
  replace R7 := Lib.hid (R7.out.row (relC .u32 (unR q A)))
  replace R5 := Lib.hid (R5.out.rowOther (g := nb) (by omega) (relC .u32 (unR q A)))
  replace R6 := Lib.hid (R6.out.rowOther (g := nb) (by omega) (relC .u32 (unR q A)))
  replace RB := Lib.hid (Below.setRow RB.out (g := nb) (by omega) (relC .u32 (unR q A)))
  clear bx V2
  generalize w5.setRow nb (relC .u32 (unR q A)) = w6 at *
  refine hK.out _ _ ⟨R5.out, R6.out⟩ (fun hHeld => ?_)
  clear hK K
  try simp only [Act.put]
  try simp only [List.setIfInBounds_toArray]
  refine wpAnyH_done (by kernel_rfl) ?_ _
  clear hHeld
  replace R6 := Lib.hid R6.out.drew
  replace R7 := Lib.hid R7.out.drew
  replace RB := Lib.hid RB.out.drew
  replace V1 := Lib.hid (V1.out.below (Below.refl _ _).drew)
  clear R5 CF CN
  go_wp2_with fail
  refine wp_region_held_drew (S := fun w' => Blk w' nb (relC .u32 (unR q A)) 68) (by kernel_rfl) R7.out (fun hHeld => ?_)
  generalize w6.drew = we at *
  refine wpAnyH_take (i := 1) (oi := { dst := some 16, op := _, type := _, pos := _, after := _, guard := _ }) (v := ?_) rfl (by kernel_rfl) (by kernel_rfl) (by kernel_rfl) (fun _ _ _ h => h) (Or.inl ⟨by kernel_rfl, ?_⟩) hHeld ?_
  rotate_left
  ·intro w hSw
   go_simp
   first | done | with_reducible rfl
  simp only [Act.put]
  try simp only [List.setIfInBounds_toArray]
  refine wpAnyH_take (i := 2) (oi := { dst := some 17, op := _, type := _, pos := _, after := _, guard := _ }) (v := ?_) rfl (by kernel_rfl) (by kernel_rfl) (by kernel_rfl) (fun _ _ _ h => h) (Or.inl ⟨by kernel_rfl, ?_⟩) hHeld ?_
  rotate_left
  ·intro w hSw
   go_simp
   first | done | with_reducible rfl
  simp only [Act.put]
  try simp only [List.setIfInBounds_toArray]
  refine wpAnyH_take (i := 3) (oi := { dst := some 18, op := _, type := _, pos := _, after := _, guard := _ }) (v := ?_) rfl (by kernel_rfl) (by kernel_rfl) (by kernel_rfl) (fun _ _ _ h => h) (Or.inl ⟨by kernel_rfl, ?_⟩) hHeld ?_
  rotate_left
  ·intro w hSw
   go_simp
   first | done | with_reducible rfl
  simp only [Act.put]
  try simp only [List.setIfInBounds_toArray]
  refine wpAnyH_take (i := 4) (v := .agg (relC .u32 (unR q A))) rfl (by kernel_rfl) (by kernel_rfl) (by kernel_rfl) (fun _ _ _ h => h) (yields_row (by rfl) rfl rfl fun w hSw => r_load hSw) hHeld ?_
  simp only [Act.put]
  try simp only [List.setIfInBounds_toArray]
  refine wpAnyH_ready (rs := [0]) (by kernel_rfl) (by simp) ?_
  refine AllReadyH.cons rfl (fun K hK => ?_) AllReadyH.nil
  go_simp
  refine (CE we).out.mono ?_
  rintro e x0 ⟨rfl, hb⟩
  replace R6 := Lib.hid (R6.out.kept hb)
  replace R7 := Lib.hid (R7.out.kept hb)
  replace RB := Lib.hid (bnext RB.out hb)
  replace V1 := Lib.hid (V1.out.below hb)
  clear hb
  go_wp2_with fail
  refine hK.out _ _ R7.out (fun hHeld => ?_)
  clear hK K
  try simp only [Act.put]
  try simp only [List.setIfInBounds_toArray]
  refine wpAnyH_ready (rs := [5]) (by kernel_rfl) (by simp) ?_
  refine AllReadyH.cons rfl (fun K hK => ?_) AllReadyH.nil
  go_simp
  refine (CM x0).out.mono ?_
  rintro e x1 ⟨rfl, hb⟩
  replace R6 := Lib.hid (R6.out.kept hb)
  replace R7 := Lib.hid (R7.out.kept hb)
  replace RB := Lib.hid (bnext RB.out hb)
  replace V1 := Lib.hid (V1.out.below hb)
  clear hb
  go_wp2_with fail
  refine hK.out _ _ R7.out (fun hHeld => ?_)
  clear hK K
  try simp only [Act.put]
  try simp only [List.setIfInBounds_toArray]
  refine wpAnyH_ready (rs := [6]) (by kernel_rfl) (by simp) ?_
  refine AllReadyH.cons rfl (fun K hK => ?_) AllReadyH.nil
  go_simp
  refine (CG.out x1 V1.out).mono ?_
  rintro e x2 ⟨rfl, hb⟩
  replace R6 := Lib.hid (R6.out.kept hb)
  replace R7 := Lib.hid (R7.out.kept hb)
  replace RB := Lib.hid (bnext RB.out hb)
  replace V1 := Lib.hid (V1.out.below hb)
  clear hb
  go_wp2_with fail
  refine hK.out _ _ R7.out (fun hHeld => ?_)
  clear hK K
  try simp only [Act.put]
  try simp only [List.setIfInBounds_toArray]
  refine wpAnyH_ready (rs := [7]) (by kernel_rfl) (by simp) ?_
  refine AllReadyH.cons rfl (fun K hK => ?_) AllReadyH.nil
  refine step_store_row rfl 68 _ _ rfl (w.heap.size + 1) (relC .u32 (maR p q A)) (by rfl) (by rfl) 68 (relC .u32 noR) R6.out (infoR _) (by rw [relC_size, relC_size]) (relC_one _ _) ?_
  refine hK.out _ _ (R7.out.rowOther (by omega) _) (fun hHeld => ?_)
  clear hK K hHeld
  try simp only [Act.put]
  try simp only [List.setIfInBounds_toArray]
  refine wpAnyH_done (by kernel_rfl) ?_ _
  go_wp2_with fail
  exact bodyPost_ret (v := .agg (relC .u32 (maR p q A))) (results_cell_row rfl _ _ (w.heap.size + 1) 68 _ (0, 0) _ (by rfl) (R6.out.row _) undR rfl (infoR _)) rfl ⟨rfl, Below.setRow RB.out (by omega) _⟩
set_option maxRecDepth 1000000 in
set_option maxHeartbeats 8000000 in
theorem implMf_yes (s t r : ByteArray) (w : World) {p q : Pg} (hp : p.ok false) (hs : s.data.toList = p.ser) (hl : s.size ≤ 200) (hq : q.ok false) (ht : t.data.toList = q.ser) (hm : t.size ≤ 200) (hr : Rel729 r) :
  Calls Tryz.prog 18 #[.string s, .string t, .string r] w fun e w' => e = .returned (mfOut p q (relS r.data.toList)) ∧ Below w.heap.size w w' := by
 have C1 := fun w => Lib.hid (three_yes s t r w hp hs hl hq ht hm hr)
 have HL := all_len hs hl
 have HM := all_len ht hm
 have HF := fun A B B' v1 v2 w h1 h2 => Lib.hid (matching_any p q B B' v1 v2 A w h1 h2 hp hq HL HM)
 have HT := fun w => Lib.hid (rel_text (maR p q (relS r.data.toList)) w)
 unfold mfOut
 clear hs ht hr HL HM
 generalize relS r.data.toList = A at *
 replace HF := Lib.hid (HF A)
 generalize bs (relT (maR p q A)) = txt at *
 go_enter Tryz.func18, Tryz.ntmps18
 go_wp2_with fail
 refine (C1 _).out.mono ?_
 rintro e w2 ⟨T, u, T', u', B, B', rfl, h1, h2, hb⟩
 obtain ⟨p0, pb⟩ := push_blk w2 (relC .u32 noR) (relC .u32 A) 68
 have P0 := Lib.hid p0
 have L0 := Lib.hid (one_blk w2 (relC .u32 noR) 68).1
 have S1 := Lib.hid (h1.below pb)
 have S2 := Lib.hid (h2.below pb)
 have NB := Lib.hid (bnext hb pb)
 clear p0 pb h1 h2 hb C1
 go_wp2_with (first
  | (refine r_alloc rfl rfl (some 10) rfl w2.heap.size rfl ?_)
  | (refine wpList_store_row rfl 68 _ _ rfl w2.heap.size (relC .u32 A) (by rfl) (by rfl) 68 (relC .u32 noR) L0.out (infoR _) (by rw [relC_size, relC_size]) (relC_one _ _) ?_)
  | (refine wpList_load_row rfl 68 _ rfl w2.heap.size (by rfl) 68 (relC .u32 A) (0, 0) _ P0.out undR rfl (infoR _) ?_))
 clear L0
 refine (HF.out _ _ _ _ _ S1.out S2.out).out.mono ?_
 rintro e w6 ⟨rfl, hb⟩
 have RB := Lib.hid (bnext NB.out hb)
 clear hb P0 S1 S2 NB HF
 go_wp2_with fail
 refine (HT w6).out.mono ?_
 rintro e w7 ⟨rfl, hb⟩
 have UB := Lib.hid (bnext RB.out hb)
 clear hb RB HT
 go_wp2_with fail
 go_ret2
 exact ⟨rfl, UB.out⟩
set_option maxRecDepth 1000000 in
set_option maxHeartbeats 8000000 in
theorem implMf_no (s t r : ByteArray) (w : World) (h : ¬ (PV s ∧ PV t ∧ Rel729 r)) :
  Calls Tryz.prog 18 #[.string s, .string t, .string r] w fun e w' => e = .returned pfNo ∧ Below w.heap.size w w' := by
 have C1 := fun w => Lib.hid (three_bad s t r h w)
 unfold pfNo
 clear h
 go_enter Tryz.func18, Tryz.ntmps18
 go_wp2_with fail
 refine (C1 _).out.mono ?_
 rintro e w2 ⟨rfl, hb⟩
 obtain ⟨p0, pb⟩ := push_blk w2 (relC .u32 noR) (relC .u32 noR) 68
 have L0 := Lib.hid (one_blk w2 (relC .u32 noR) 68).1
 have NB := Lib.hid (bnext hb pb)
 clear p0 pb hb C1
 go_wp2_with (first
  | (refine r_alloc rfl rfl (some 10) rfl w2.heap.size rfl ?_)
  | (refine wpList_store_row rfl 68 _ _ rfl w2.heap.size (relC .u32 noR) (by rfl) (by rfl) 68 (relC .u32 noR) L0.out (infoR _) (by first | rw [relC_size, relC_size] | rw [relC_size]) (relC_one _ _) ?_))
 go_ret2
 exact ⟨rfl, NB.out⟩
theorem mf_any2 (s t r : ByteArray) (hm : r.size ≤ maxLen) : ∃ x : ByteArray, ∃ b : Bool, x.size ≤ maxLen ∧ ((b = true → Rel729 x) ∧ (b = true → Rel729 r) ∧ (b = false → x = ⟨#[]⟩)) ∧ (∀ w, Calls Tryz.prog 19 #[.string s, .string t, .string r] w fun e w' => e = .returned (.tuple #[.string x, .bool b]) ∧ Below w.heap.size w w') ∧ ∀ w, Calls Tryz.prog 18 #[.string s, .string t, .string r] w fun e w' => e = .returned (.tuple #[.string x, .bool b]) ∧ Below w.heap.size w w' := by
 obtain ⟨b, hb, hc⟩ := ready_any s t r hm
 cases b with
 | true =>
  obtain ⟨⟨⟨p, hp, hs⟩, hl⟩, ⟨⟨q, hq, ht⟩, hn⟩, hr⟩ := hb.1 rfl
  obtain rfl := bs_ofP hs
  obtain rfl := bs_ofP ht
  have lp : p.ser.length ≤ 200 := by rwa [bs_size] at hl
  have lq : q.ser.length ≤ 200 := by rwa [bs_size] at hn
  exact ⟨_, true, by rw [(rel729_bs _).size]; decide, ⟨fun _ => rel729_bs _, fun _ => hr, fun h => (by cases h)⟩, fun w => specMf_yes p q r w hp lp hq lq hr hc, fun w => implMf_yes _ _ r w hp hs hl hq ht hn hr⟩
 | false =>
  have hno : ¬ (PV s ∧ PV t ∧ Rel729 r) := fun k => by have := hb.2 k; cases this
  exact ⟨⟨#[]⟩, false, by decide, ⟨fun h => (by cases h), fun h => (by cases h), fun _ => rfl⟩, fun w => specMf_no r s t w hc, fun w => implMf_no s t r w hno⟩
end Go.Proofs.YtgkoljphndgoeaaGreatDoor
