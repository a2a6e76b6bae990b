import Derived.Test.YtlhmdpkenkibiaaGreatDoorEt0
import Derived.BigQuiet
namespace Go.Proofs.YtlhmdpkenkibiaaGreatDoor
open Go.RowKit Tm Go.Great
def LK (L K : Nat → Bool) (i : Nat) : Bool := L i || K i
def emB (L K L' K' : Nat → Bool) (G : Nat → Bool) (n : Nat) : Bool := G n && (LK L K (n / 27) != LK L' K' (n % 27))
def E2 (w : World) (T : Nat → Nat → Bool) (L K : Nat → Bool) (T' : Nat → Nat → Bool) (L' K' : Nat → Bool) (b1 b2 : Nat) : Prop :=
 Blk w b1 (allC T L K) 57 ∧ Blk w b2 (allC T' L' K') 57
theorem E2.kept {w w' : World} {T : Nat → Nat → Bool} {L K : Nat → Bool} {T' : Nat → Nat → Bool} {L' K' : Nat → Bool} {b1 b2 : Nat} (h : E2 w T L K T' L' K' b1 b2) (hb : Below w.heap.size w w') : E2 w' T L K T' L' K' b1 b2 :=
 ⟨h.1.kept hb, h.2.kept hb⟩
theorem et_some (p q : Pg) (l : List UInt8) {n : Nat} (hn : n < 729) (h : emB (rL p) (rK p) (rL q) (rK q) (hs l) n = true) : etB p q (relS l) = false := by
 cases he : etB p q (relS l) with
 | false => rfl
 | true =>
  unfold etB at he
  have h1 := relEq_iff.1 he (n / 27) (by omega) (n % 27) (Nat.mod_lt _ (by omega))
  unfold emB at h
  rw [Bool.and_eq_true] at h
  have h2 : relS l (n / 27) (n % 27) = true := by
   unfold relS
   rw [Nat.div_add_mod]
   exact h.1
  rw [h2, Bool.true_and] at h1
  have h3 := h.2
  unfold etR seS at h1
  unfold LK at h3
  cases a : rL p (n / 27) <;> cases b : rK p (n / 27) <;> cases c : rL q (n % 27) <;> cases d : rK q (n % 27) <;> rw [a, b, c, d] at h3 <;> simp [a, b, c, d] at h1 h3
theorem et_none (p q : Pg) (l : List UInt8) (h : ∀ n, n < 729 → emB (rL p) (rK p) (rL q) (rK q) (hs l) n = false) : etB p q (relS l) = true := by
 unfold etB
 refine relEq_iff.2 fun i hi j hj => ?_
 have h1 := h (27 * i + j) (by omega)
 unfold emB at h1
 rw [show (27 * i + j) / 27 = i by omega, show (27 * i + j) % 27 = j by omega] at h1
 have e : relS l i j = hs l (27 * i + j) := rfl
 rw [e]
 cases hG : hs l (27 * i + j) with
 | false => rfl
 | true =>
  rw [hG, Bool.true_and] at h1
  rw [Bool.true_and]
  unfold LK at h1
  unfold etR seS
  cases a : rL p i <;> cases b : rK p i <;> cases c : rL q j <;> cases d : rK q j <;> rw [a, b, c, d] at h1 <;> simp at h1 ⊢
set_option maxRecDepth 1000000 in
set_option maxHeartbeats 8000000 in
theorem specEt_yes (p q : Pg) (r : ByteArray) (w : World) (hp : p.ok false) (hl : p.ser.length ≤ 200) (hq : q.ok false) (hm : q.ser.length ≤ 200) (hr : Rel729 r) (c : ∀ w, Calls Tryz.prog 67 #[.string (bs p.ser), .string (bs q.ser), .string r] w fun e w' => e = .returned (.bool true) ∧ Below w.heap.size w w') :
  Calls Tryz.prog 45 #[.string r, .string (bs p.ser), .string (bs q.ser)] w fun e w' => e = .returned (.bool (etB p q (relS r.data.toList))) ∧ Below w.heap.size w w' := by
 have C := Lib.hid c
 have R1 := fun w => Lib.hid (run_any p hp hl w)
 have R2 := fun w => Lib.hid (run_any q hq hm w)
 have ES := Lib.hid (fun n hn h => et_some p q r.data.toList (n := n) hn h)
 have EN := Lib.hid (et_none p q r.data.toList)
 have HR := Lib.hid hr
 have hz : r.size = 729 := hr.size
 unfold AllPost at R1 R2
 clear hr c
 generalize etB p q (relS r.data.toList) = res at *
 generalize rT p = T at *
 generalize rL p = L at *
 generalize rK p = K at *
 generalize rT q = T' at *
 generalize rL q = L' at *
 generalize rK q = K' at *
 generalize bs p.ser = s at *
 generalize bs q.ser = t at *
 have z1 := Lib.hid (infoAll' T L K)
 have z2 : Hid ((allC noT noS noS).size = (allC T L K).size) := by show _ = _; rw [allC_size, allC_size]
 have z3 := Lib.hid (allC_one T L K)
 have y1 := Lib.hid (infoAll' T' L' K')
 have y2 : Hid ((allC noT noS noS).size = (allC T' L' K').size) := by show _ = _; rw [allC_size, allC_size]
 have y3 := Lib.hid (allC_one T' L' K')
 go_enter Tryz.func45, Tryz.ntmps45
 go_wp2_with fail
 refine (C.out _).mono ?_
 rintro e w1 ⟨rfl, hb⟩
 have AB := Lib.hid hb
 clear hb
 go_wp2_with fail
 refine (R1 _).out.mono ?_
 rintro e w2 ⟨rfl, hb⟩
 have m1 := (Blk.new w2 (allC noT noS noS) 57)
 have M1 := Lib.hid (m1.row (allC T L K))
 have X1 := Lib.hid m1
 have bb := Below.setRow ((Below.refl w2.heap.size w2).alloc (Nat.le_refl _) (.cells (allC noT noS noS) 57)) (g := w2.heap.size) (Nat.le_refl _) (allC T L K)
 have BB := Lib.hid (bnext (bnext AB.out hb) bb)
 clear hb AB m1 bb
 go_wp2_with (first
  | (refine ar_alloc rfl rfl (some 7) rfl w2.heap.size rfl ?_)
  | (refine wpList_store_row rfl 57 _ _ rfl w2.heap.size (allC T L K) (by rfl) (by rfl) 57 (allC noT noS noS) X1.out z1.out z2.out z3.out ?_))
 clear X1
 generalize (w2.alloc (.cells (allC noT noS noS) 57)).setRow w2.heap.size (allC T L K) = w3 at *
 generalize w2.heap.size = b1 at *
 refine (R2 _).out.mono ?_
 rintro e w4 ⟨rfl, hb⟩
 have m2 := (Blk.new w4 (allC noT noS noS) 57)
 have M2 := m2.row (allC T' L' K')
 have X2 := Lib.hid m2
 have bb := Below.setRow ((Below.refl w4.heap.size w4).alloc (Nat.le_refl _) (.cells (allC noT noS noS) 57)) (g := w4.heap.size) (Nat.le_refl _) (allC T' L' K')
 have D2 : Hid (E2 ((w4.alloc (.cells (allC noT noS noS) 57)).setRow w4.heap.size (allC T' L' K')) T L K T' L' K' b1 w4.heap.size) := ⟨(M1.out.kept hb).kept bb, M2⟩
 have DB := Lib.hid (bnext (bnext BB.out hb) bb)
 clear hb BB M1 M2 m2 bb R1 R2 C z1 z2 z3
 go_wp2_with (first
  | (refine ar_alloc rfl rfl (some 8) rfl w4.heap.size rfl ?_)
  | (refine wpList_store_row rfl 57 _ _ rfl w4.heap.size (allC T' L' K') (by rfl) (by rfl) 57 (allC noT noS noS) X2.out y1.out y2.out y3.out ?_))
 clear X2 y1 y2 y3
 generalize (w4.alloc (.cells (allC noT noS noS) 57)).setRow w4.heap.size (allC T' L' K') = w5 at *
 generalize w4.heap.size = b2 at *
 go_loopw [9] (fun i wr => ∃ n : Nat, n ≤ 729 ∧ i = .int .i64 n ∧ Hid (∀ m, m < n → emB L K L' K' (hs r.data.toList) m = false) ∧ Hid (E2 wr T L K T' L' K' b1 b2) ∧ Hid (Below w.heap.size w wr)) (fun i _ => 729 - (intOf i).toNat)
 case atStart => exact ⟨0, by omega, rfl, Lib.hid (fun m hm => by omega), D2, DB⟩
 case round =>
  clear D2 DB
  obtain ⟨n, hn, rfl, PN, R2, RB⟩ := hrel
  by_cases hlt : n < 729
  ·have h0 : (0 : Int) ≤ (n : Int) := by omega
   have h1 : (n : Int) < (r.size : Int) := by omega
   have hlr : n < r.size := by omega
   have HG := hs_byte HR.out n hlr
   cases hT : hs r.data.toList n
   ·as_aux_lemma =>
    rw [hT] at HG
    have hc : r[n] = 48 := HG
    have PM : Hid (∀ m, m < n + 1 → emB L K L' K' (hs r.data.toList) m = false) := fun m hm => by
     by_cases e : m = n
     ·subst e; unfold emB; rw [hT]; rfl
     ·exact PN.out m (by omega)
    clear HG hT PN ES EN HR
    go_wp2_with fail
    go_quiet (fail)
    have N2 := Lib.hid (R2.out.kept (bdrewN (Below.refl _ _) nq))
    have NB := Lib.hid (bdrewN RB.out nq)
    clear R2 RB
    go_wp2_with fail
    exact ⟨⟨n + 1, by omega, by go_num, PM, N2, NB⟩, by simp [intOf]; omega⟩
   ·rw [hT] at HG
    have hc : r[n] = 49 := HG
    obtain ⟨i, hi⟩ : ∃ i, i = n / 27 := ⟨_, rfl⟩
    obtain ⟨j, hj⟩ : ∃ j, j = n % 27 := ⟨_, rfl⟩
    have hi27 : i < 27 := by omega
    have hj27 : j < 27 := by omega
    have hqq : ((n : Int)).tdiv 27 = (i : Int) := by rw [Int.tdiv_eq_ediv_of_nonneg (by omega)]; omega
    have hrr : ((n : Int)).tmod 27 = (j : Int) := by rw [Int.tmod_eq_emod_of_nonneg (by omega)]; omega
    have h48 : r[n] ≠ 48 := by rw [hc]; decide
    have c1 := (R2.out.1.cell 27).trans (allC_L _ _ _)
    have c2 := (R2.out.1.cell 28).trans (allC_K _ _ _)
    have c3 := (R2.out.2.cell 27).trans (allC_L _ _ _)
    have c4 := (R2.out.2.cell 28).trans (allC_K _ _ _)
    have o1 := s_or L K
    have o2 := s_or L' K'
    have EM : emB L K L' K' (hs r.data.toList) n = (LK L K i != LK L' K' j) := by unfold emB; rw [hT, hi, hj]; rfl
    have CA := fun w => Lib.hid ((specInS (fun c => L c || K c) i hi27 w).mono fun _ _ h => (⟨h.1, h.2.symm⟩ : _ ∧ _))
    have CB := fun w => Lib.hid ((specInS (fun c => L' c || K' c) j hj27 w).mono fun _ _ h => (⟨h.1, h.2.symm⟩ : _ ∧ _))
    have e1 : (L i || K i) = LK L K i := rfl
    have e2 : (L' j || K' j) = LK L' K' j := rfl
    rw [e1] at CA
    rw [e2] at CB
    clear e1 e2
    have PX := Lib.hid hi
    have PY := Lib.hid hj
    have EM2 := Lib.hid EM
    clear hi hj HG hT EM
    replace EM2 := EM2.out
    cases hA : LK L K i <;> cases hB : LK L' K' j
    ·rw [hA, hB] at EM2
     rw [hA] at CA
     rw [hB] at CB
     clear hA hB PX PY
     have PM : Hid (∀ m, m < n + 1 → emB L K L' K' (hs r.data.toList) m = false) := fun m hm => by
      by_cases e : m = n
      ·subst e; exact EM2
      ·exact PN.out m (by omega)
     clear EM2 PN
     clear ES EN HR
     go_wp2_with fail
     go_quiet ((go_at_call 71; first | with_reducible exact Calls.quiet_of_same (CA _).out | with_reducible exact Calls.quiet_of_same (CB _).out))
     have N2 := Lib.hid (R2.out.kept (bdrewN (Below.refl _ _) nq))
     have NB := Lib.hid (bdrewN RB.out nq)
     clear R2 RB
     go_wp2_with fail
     exact ⟨⟨n + 1, by omega, by go_num, PM, N2, NB⟩, by simp [intOf]; omega⟩
    ·rw [hA, hB] at EM2
     rw [hA] at CA
     rw [hB] at CB
     clear hA hB PX PY
     have PE : res = false := ES.out n hlt EM2
     clear EM2 PN
     subst PE
     clear ES EN HR
     go_wp2_with fail
     go_quiet ((go_at_call 71; first | with_reducible exact Calls.quiet_of_same (CA _).out | with_reducible exact Calls.quiet_of_same (CB _).out))
     have N2 := Lib.hid (R2.out.kept (bdrewN (Below.refl _ _) nq))
     have NB := Lib.hid (bdrewN RB.out nq)
     clear R2 RB
     go_wp2_with fail
     go_ret
     exact ⟨rfl, NB.out⟩
    ·rw [hA, hB] at EM2
     rw [hA] at CA
     rw [hB] at CB
     clear hA hB PX PY
     have PE : res = false := ES.out n hlt EM2
     clear EM2 PN
     subst PE
     clear ES EN HR
     go_wp2_with fail
     go_quiet ((go_at_call 71; first | with_reducible exact Calls.quiet_of_same (CA _).out | with_reducible exact Calls.quiet_of_same (CB _).out))
     have N2 := Lib.hid (R2.out.kept (bdrewN (Below.refl _ _) nq))
     have NB := Lib.hid (bdrewN RB.out nq)
     clear R2 RB
     go_wp2_with fail
     go_ret
     exact ⟨rfl, NB.out⟩
    ·rw [hA, hB] at EM2
     rw [hA] at CA
     rw [hB] at CB
     clear hA hB PX PY
     have PM : Hid (∀ m, m < n + 1 → emB L K L' K' (hs r.data.toList) m = false) := fun m hm => by
      by_cases e : m = n
      ·subst e; exact EM2
      ·exact PN.out m (by omega)
     clear EM2 PN
     clear ES EN HR
     go_wp2_with fail
     go_quiet ((go_at_call 71; first | with_reducible exact Calls.quiet_of_same (CA _).out | with_reducible exact Calls.quiet_of_same (CB _).out))
     have N2 := Lib.hid (R2.out.kept (bdrewN (Below.refl _ _) nq))
     have NB := Lib.hid (bdrewN RB.out nq)
     clear R2 RB
     go_wp2_with fail
     exact ⟨⟨n + 1, by omega, by go_num, PM, N2, NB⟩, by simp [intOf]; omega⟩
  ·have hn2 : n = 729 := by omega
   have PE : res = true := EN.out (fun m hm => PN.out m (by omega))
   have hnl : ¬ ((n : Int) < 729) := by omega
   clear PN R2 hn2
   subst PE
   go_wp2_with fail
   go_ret
   exact ⟨rfl, RB.out⟩
theorem specEt_no (r s t : ByteArray) (w : World) (c : ∀ w, Calls Tryz.prog 67 #[.string s, .string t, .string r] w fun e w' => e = .returned (.bool false) ∧ Below w.heap.size w w') :
  Calls Tryz.prog 45 #[.string r, .string s, .string t] w fun e w' => e = .returned (.bool false) ∧ Below w.heap.size w w' := by
 have C := Lib.hid c
 clear c
 go_enter Tryz.func45, Tryz.ntmps45
 go_wp2_with fail
 refine (C.out _).mono ?_
 rintro e w1 ⟨rfl, hb⟩
 have HB1 := Lib.hid hb
 clear hb
 go_wp2_with fail
 go_ret
 exact ⟨rfl, HB1.out⟩
end Go.Proofs.YtlhmdpkenkibiaaGreatDoor
