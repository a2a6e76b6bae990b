import Derived.Test.YtgkoljphndgoeaaGreatDoorFd0
import Derived.BigQuiet
namespace Go.Proofs.YtgkoljphndgoeaaGreatDoor
open Go.RowKit Tm Go.Great Go.ChangeMaps
set_option maxRecDepth 100000 in
set_option maxHeartbeats 8000000 in
theorem specFd_yes (p q : Pg) (w : World) (hp : p.ok false) (hl : p.ser.length ≤ 200) (hq : q.ok false) (hm : q.ser.length ≤ 200) :
  Calls Tryz.prog 43 #[.string (bs p.ser), .string (bs q.ser)] w fun e w' => e = .returned (fdV (oc p) (oc q)) ∧ Below w.heap.size w w' := by
 have V1 := fun w => Lib.hid ((PV.of hp hl).t w)
 have V2 := fun w => Lib.hid ((PV.of hq hm).t w)
 have R1 := fun w => Lib.hid (run_any p hp hl w)
 have R2 := fun w => Lib.hid (run_any q hq hm w)
 have HV : Hid (∀ k, Fd (oc p) (oc q) k → fdV (oc p) (oc q) = .tuple #[.agg #[.int .i64 (ax k), .int .i64 (ay k), .int .i64 (az k)], .string (whatD (rT p k, rL p k, rK p k) (rT q k, rL q k, rK q k))]) := fun k hk => by
  unfold fdV; rw [fdK_is hk]; rfl
 generalize hres : fdV (oc p) (oc q) = res at *
 have HFD : Hid (∀ k, Fd (fun i => (rT p i, rL p i, rK p i)) (fun i => (rT q i, rL q i, rK q i)) k → Fd (oc p) (oc q) k) := fun k h => h
 generalize Fd (oc p) (oc q) = FD at *
 clear hres
 unfold AllPost at R1 R2
 generalize rT p = T at *
 generalize rL p = L at *
 generalize rK p = K at *
 generalize rT q = T' at *
 generalize rL q = L' at *
 generalize rK q = K' at *
 generalize bs p.ser = s at *
 generalize bs q.ser = t at *
 have G0 := Lib.hid (Blk.new w #[.int .i64 0, .int .i64 0, .int .i64 0] 43)
 have HB0 := Lib.hid ((Below.refl w.heap.size w).alloc (Nat.le_refl _) (.cells #[.int .i64 0, .int .i64 0, .int .i64 0] 43))
 go_enter Tryz.func43, Tryz.ntmps43
 go_wp2_with fail
 generalize w.alloc (.cells #[.int .i64 0, .int .i64 0, .int .i64 0] 43) = w0 at *
 refine (V1 _).out.mono ?_
 rintro e w1 ⟨rfl, hb1⟩
 go_wp2_with fail
 refine (V2 _).out.mono ?_
 rintro e w2 ⟨rfl, hb2⟩
 replace G0 := Lib.hid ((G0.out.kept hb1).kept hb2)
 replace HB0 := Lib.hid (bmore HB0.out HB0.out.size (bnext hb1 hb2))
 clear hb1 hb2
 go_wp2_with fail
 refine (R1 _).out.mono ?_
 rintro e w3 ⟨rfl, hb3⟩
 replace G0 := Lib.hid (G0.out.kept hb3)
 replace HB0 := Lib.hid (bmore HB0.out HB0.out.size hb3)
 have gl3 := G0.out.lt
 have K0 := Lib.hid (Blk.new w3 (allC noT noS noS) 85)
 have K1 := Lib.hid (K0.out.row (allC T L K))
 replace G0 := Lib.hid ((G0.out.alloc (.cells (allC noT noS noS) 85)).rowOther (g := w3.heap.size) (by omega) (allC T L K))
 replace HB0 := Lib.hid (Below.setRow (HB0.out.alloc HB0.out.size (.cells (allC noT noS noS) 85)) (g := w3.heap.size) HB0.out.size (allC T L K))
 clear hb3
 go_wp2_with (first
  | (refine ar_alloc rfl rfl (some 6) rfl w3.heap.size rfl ?_)
  | (refine wpList_store_row rfl 85 _ _ rfl w3.heap.size (allC T L K) (by rfl) (by rfl) 85 (allC noT noS noS) K0.out (infoAll' _ _ _) (by rw [allC_size, allC_size]) (allC_one _ _ _) ?_))
 generalize (w3.alloc (.cells (allC noT noS noS) 85)).setRow w3.heap.size (allC T L K) = w4 at *
 refine (R2 _).out.mono ?_
 rintro e w5 ⟨rfl, hb5⟩
 replace G0 := Lib.hid (G0.out.kept hb5)
 replace HB0 := Lib.hid (bmore HB0.out HB0.out.size hb5)
 have gl5 := G0.out.lt
 have J0 := Lib.hid (Blk.new w5 (allC noT noS noS) 85)
 have J1 := Lib.hid (J0.out.row (allC T' L' K'))
 have hlt5 := (K1.out.kept hb5).lt
 have K5 := Lib.hid ((((K1.out.kept hb5).alloc (.cells (allC noT noS noS) 85))).rowOther (g := w5.heap.size) (by omega) (allC T' L' K'))
 replace G0 := Lib.hid ((G0.out.alloc (.cells (allC noT noS noS) 85)).rowOther (g := w5.heap.size) (by omega) (allC T' L' K'))
 replace HB0 := Lib.hid (Below.setRow (HB0.out.alloc HB0.out.size (.cells (allC noT noS noS) 85)) (g := w5.heap.size) HB0.out.size (allC T' L' K'))
 clear hb5
 go_wp2_with (first
  | (refine ar_alloc rfl rfl (some 7) rfl w5.heap.size rfl ?_)
  | (refine wpList_store_row rfl 85 _ _ rfl w5.heap.size (allC T' L' K') (by rfl) (by rfl) 85 (allC noT noS noS) J0.out (infoAll' _ _ _) (by rw [allC_size, allC_size]) (allC_one _ _ _) ?_))
 generalize (w5.alloc (.cells (allC noT noS noS) 85)).setRow w5.heap.size (allC T' L' K') = w6 at *
 have HNE1 : Hid (w.heap.size ≠ w3.heap.size) := by show w.heap.size ≠ w3.heap.size; omega
 have HNE2 : Hid (w.heap.size ≠ w5.heap.size) := by show w.heap.size ≠ w5.heap.size; omega
 clear K0 K1 J0 R1 R2 V1 V2
 generalize w3.heap.size = ga at *
 generalize w5.heap.size = gb at *
 go_loopw [8] (fun ix wr => ∃ k : Nat, k ≤ 27 ∧ ix = .int .i64 k ∧ Hid (Below w.heap.size w wr) ∧ Hid (Blk wr w.heap.size #[.int .i64 0, .int .i64 0, .int .i64 0] 43) ∧ Hid (Blk wr ga (allC T L K) 85) ∧ Hid (Blk wr gb (allC T' L' K') 85) ∧ Hid (∀ j, j < k → eqO (T j, L j, K j) (T' j, L' j, K' j) = true)) (fun ix _ => 27 - (intOf ix).toNat)
 case atStart => exact ⟨0, by omega, rfl, HB0, G0, K5, J1, fun j hj => by omega⟩
 case round =>
  clear HB0 G0 K5 J1
  obtain ⟨k, hk, rfl, Q1, Q0, Q2, Q3, Q4⟩ := hrel
  obtain ⟨z0, z1, z2, u0, u1, u2⟩ := Q0.out.a3
  by_cases hlt : k < 27
  ·have hlt2 : (k : Int) < 27 := by omega
   have hk0 : (0 : Int) ≤ k := by omega
   have x0 : wr.cell? ⟨ga, k, none⟩ = some (.int .i64 (nb 27 (T k))) := (Q2.out.cell k).trans (allC_get _ _ _ hlt)
   have y0 : wr.cell? ⟨gb, k, none⟩ = some (.int .i64 (nb 27 (T' k))) := (Q3.out.cell k).trans (allC_get _ _ _ hlt)
   have x1 : wr.cell? ⟨ga, 27, none⟩ = some (.int .i64 (nb 27 L)) := (Q2.out.cell 27).trans (allC_L _ _ _)
   have x2 : wr.cell? ⟨ga, 28, none⟩ = some (.int .i64 (nb 27 K)) := (Q2.out.cell 28).trans (allC_K _ _ _)
   have y1 : wr.cell? ⟨gb, 27, none⟩ = some (.int .i64 (nb 27 L')) := (Q3.out.cell 27).trans (allC_L _ _ _)
   have y2 : wr.cell? ⟨gb, 28, none⟩ = some (.int .i64 (nb 27 K')) := (Q3.out.cell 28).trans (allC_K _ _ _)
   have I1 := fun w => Lib.hid ((specInS L k hlt w).mono fun _ _ ⟨h, h2⟩ => (⟨h, h2.symm⟩ : _ ∧ _))
   have I2 := fun w => Lib.hid ((specInS L' k hlt w).mono fun _ _ ⟨h, h2⟩ => (⟨h, h2.symm⟩ : _ ∧ _))
   have I3 := fun w => Lib.hid ((specInS K k hlt w).mono fun _ _ ⟨h, h2⟩ => (⟨h, h2.symm⟩ : _ ∧ _))
   have I4 := fun w => Lib.hid ((specInS K' k hlt w).mono fun _ _ ⟨h, h2⟩ => (⟨h, h2.symm⟩ : _ ∧ _))
   have D := fun w => Lib.hid (specAt0 k w hk0 hlt2)
   have HT := Lib.hid (HV.out k)
   have HE := Lib.hid (HFD.out k)
   have hl1 := Q2.out.lt
   have hl2 := Q3.out.lt
   generalize hL : L k = lk at *
   generalize hL' : L' k = lk' at *
   generalize hK : K k = kk at *
   generalize hK' : K' k = kk' at *
   by_cases h0 : nb 27 (T' k) = nb 27 (T k)
   ·rw [h0] at y0
    have N1 := Q1
    have P0 := Q0
    have P2 := Q2
    have P3 := Q3
    clear Q1 Q0 Q2 Q3 z0 z1 z2 u0 u1 u2
    go_wp2_with fail
    go_quiet (fail)
    have N1a := Lib.hid (bdrewN N1.out nq)
    have P0a := Lib.hid (P0.out.kept (bdrewN (Below.refl _ _) nq))
    have P2a := Lib.hid (P2.out.kept (bdrewN (Below.refl _ _) nq))
    have P3a := Lib.hid (P3.out.kept (bdrewN (Below.refl _ _) nq))
    clear N1 P0 P2 P3
    clear x0 y0 x1 x2 y1 y2 hl1 hl2
    go_wp2_with fail
    generalize wr.drewN nq = wx at *
    have x1 : wx.cell? ⟨ga, 27, none⟩ = some (.int .i64 (nb 27 L)) := (P2a.out.cell 27).trans (allC_L _ _ _)
    have x2 : wx.cell? ⟨ga, 28, none⟩ = some (.int .i64 (nb 27 K)) := (P2a.out.cell 28).trans (allC_K _ _ _)
    have y1 : wx.cell? ⟨gb, 27, none⟩ = some (.int .i64 (nb 27 L')) := (P3a.out.cell 27).trans (allC_L _ _ _)
    have y2 : wx.cell? ⟨gb, 28, none⟩ = some (.int .i64 (nb 27 K')) := (P3a.out.cell 28).trans (allC_K _ _ _)
    have hl1 := P2a.out.lt
    have hl2 := P3a.out.lt
    by_cases h1 : lk' = lk
    ·subst h1
     go_wp2_with fail
     go_quiet ((go_at_call 86; first | (with_reducible exact Calls.quiet_of_same (I1 _).out) | (with_reducible exact Calls.quiet_of_same (I2 _).out)))
     have N1b := Lib.hid (bdrewN N1a.out nq)
     have P0b := Lib.hid (P0a.out.kept (bdrewN (Below.refl _ _) nq))
     have P2b := Lib.hid (P2a.out.kept (bdrewN (Below.refl _ _) nq))
     have P3b := Lib.hid (P3a.out.kept (bdrewN (Below.refl _ _) nq))
     clear N1a P0a P2a P3a
     clear x1 x2 y1 y2 hl1 hl2
     go_wp2_with fail
     generalize wx.drewN nq = wy at *
     have x1 : wy.cell? ⟨ga, 27, none⟩ = some (.int .i64 (nb 27 L)) := (P2b.out.cell 27).trans (allC_L _ _ _)
     have x2 : wy.cell? ⟨ga, 28, none⟩ = some (.int .i64 (nb 27 K)) := (P2b.out.cell 28).trans (allC_K _ _ _)
     have y1 : wy.cell? ⟨gb, 27, none⟩ = some (.int .i64 (nb 27 L')) := (P3b.out.cell 27).trans (allC_L _ _ _)
     have y2 : wy.cell? ⟨gb, 28, none⟩ = some (.int .i64 (nb 27 K')) := (P3b.out.cell 28).trans (allC_K _ _ _)
     have hl1 := P2b.out.lt
     have hl2 := P3b.out.lt
     by_cases h2 : kk' = kk
     ·subst h2
      have heq : eqO (T k, lk', kk') (T' k, lk', kk') = true := by
       unfold eqO; simp [h0]
      go_wp2_with fail
      go_quiet ((go_at_call 86; first | (with_reducible exact Calls.quiet_of_same (I3 _).out) | (with_reducible exact Calls.quiet_of_same (I4 _).out)))
      have N1c := Lib.hid (bdrewN N1b.out nq)
      have P0c := Lib.hid (P0b.out.kept (bdrewN (Below.refl _ _) nq))
      have P2c := Lib.hid (P2b.out.kept (bdrewN (Below.refl _ _) nq))
      have P3c := Lib.hid (P3b.out.kept (bdrewN (Below.refl _ _) nq))
      clear N1b P0b P2b P3b
      go_wp2_with fail
      exact ⟨⟨k + 1, by omega, by go_num, N1c, P0c, P2c, P3c, fun j hj => by
       by_cases e : j = k
       ·subst e; simp only [hL, hL', hK, hK']; exact heq
       ·exact Q4.out j (by omega)⟩, by simp [intOf]; omega⟩
     ·have n2 : ¬ kk = kk' := fun h => h2 h.symm
      have e2 : (kk == kk') = false := beq_false_of_ne n2
      have hne : eqO (T k, lk', kk) (T' k, lk', kk') = false := by
       unfold eqO; simp [e2]
      have e0 := HT.out (HE.out (.inl ⟨hlt, by simp only [hL, hL', hK, hK']; exact hne, Q4.out⟩))
      have ew : whatD (T k, lk', kk) (T' k, lk', kk') = tBlocks := by
       unfold whatD; rw [if_pos h0.symm, if_pos rfl, if_neg n2]
      rw [ew] at e0
      have E0 := Lib.hid e0
      clear e0 ew hne
      go_wp2_with fail
      go_quiet ((go_at_call 86; first | (with_reducible exact Calls.quiet_of_same (I3 _).out) | (with_reducible exact Calls.quiet_of_same (I4 _).out)))
      have N1c := Lib.hid (bdrewN N1b.out nq)
      have P0c := Lib.hid (P0b.out.kept (bdrewN (Below.refl _ _) nq))
      have P2c := Lib.hid (P2b.out.kept (bdrewN (Below.refl _ _) nq))
      have P3c := Lib.hid (P3b.out.kept (bdrewN (Below.refl _ _) nq))
      clear N1b P0b P2b P3b
      go_wp2_with fail
      refine (D _).out.mono ?_
      rintro e w9 ⟨rfl, hb⟩
      have N2 := Lib.hid (bmore N1c.out N1c.out.size hb)
      have Z := P0c.out.kept hb
      obtain ⟨v0, v1, v2, r0, r1, r2⟩ := Z.a3
      clear hb
      go_wp2_with fail
      exact bodyPost_ret (v := .tuple #[.agg #[.int .i64 (ax k), .int .i64 (ay k), .int .i64 (az k)], .string tBlocks]) (by simp [results, Tryz.results43, go_sem, v0, v1, v2, tBlocks]) rfl ⟨by rw [E0.out], by (repeat refine Below.setCell ?_ (by simp) _); exact N2.out⟩
    ·have n1 : ¬ lk = lk' := fun h => h1 h.symm
     have e1 : (lk == lk') = false := beq_false_of_ne n1
     have hne : eqO (T k, lk, kk) (T' k, lk', kk') = false := by
      unfold eqO; simp [e1]
     have e0 := HT.out (HE.out (.inl ⟨hlt, by simp only [hL, hL', hK, hK']; exact hne, Q4.out⟩))
     have ew : whatD (T k, lk, kk) (T' k, lk', kk') = tLoops := by
      unfold whatD; rw [if_pos h0.symm, if_neg n1]
     rw [ew] at e0
     have E0 := Lib.hid e0
     clear e0 ew hne
     go_wp2_with fail
     go_quiet ((go_at_call 86; first | (with_reducible exact Calls.quiet_of_same (I1 _).out) | (with_reducible exact Calls.quiet_of_same (I2 _).out)))
     have N1b := Lib.hid (bdrewN N1a.out nq)
     have P0b := Lib.hid (P0a.out.kept (bdrewN (Below.refl _ _) nq))
     have P2b := Lib.hid (P2a.out.kept (bdrewN (Below.refl _ _) nq))
     have P3b := Lib.hid (P3a.out.kept (bdrewN (Below.refl _ _) nq))
     clear N1a P0a P2a P3a
     go_wp2_with fail
     refine (D _).out.mono ?_
     rintro e w9 ⟨rfl, hb⟩
     have N2 := Lib.hid (bmore N1b.out N1b.out.size hb)
     have Z := P0b.out.kept hb
     obtain ⟨v0, v1, v2, r0, r1, r2⟩ := Z.a3
     clear hb
     go_wp2_with fail
     exact bodyPost_ret (v := .tuple #[.agg #[.int .i64 (ax k), .int .i64 (ay k), .int .i64 (az k)], .string tLoops]) (by simp [results, Tryz.results43, go_sem, v0, v1, v2, tLoops]) rfl ⟨by rw [E0.out], by (repeat refine Below.setCell ?_ (by simp) _); exact N2.out⟩
   ·have n0 : ¬ ((nb 27 (T k) : Nat) : Int) = (nb 27 (T' k) : Nat) := by omega
    have hne : eqO (T k, lk, kk) (T' k, lk', kk') = false := by
     unfold eqO
     rw [show (nb 27 (T k) == nb 27 (T' k)) = false from beq_false_of_ne fun h => h0 h.symm]; rfl
    have e0 := HT.out (HE.out (.inl ⟨hlt, by simp only [hL, hL', hK, hK']; exact hne, Q4.out⟩))
    have ew : whatD (T k, lk, kk) (T' k, lk', kk') = tFinals := by
     unfold whatD; rw [if_neg fun h => h0 h.symm]
    rw [ew] at e0
    have E0 := Lib.hid e0
    clear e0 ew hne
    go_wp2_with fail
    go_quiet (fail)
    have N1 := Lib.hid (bdrewN Q1.out nq)
    go_wp2_with fail
    refine (D _).out.mono ?_
    rintro e w9 ⟨rfl, hb⟩
    have N2 := Lib.hid (bmore N1.out N1.out.size hb)
    have Z := (Q0.out.kept (bdrewN (Below.refl _ _) nq)).kept hb
    obtain ⟨v0, v1, v2, r0, r1, r2⟩ := Z.a3
    clear hb
    go_wp2_with fail
    exact bodyPost_ret (v := .tuple #[.agg #[.int .i64 (ax k), .int .i64 (ay k), .int .i64 (az k)], .string tFinals]) (by simp [results, Tryz.results43, go_sem, v0, v1, v2, tFinals]) rfl ⟨by rw [E0.out], by (repeat refine Below.setCell ?_ (by simp) _); exact N2.out⟩
  ·have hk2 : k = 27 := by omega
   subst hk2
   have e0 := HV.out 0 (HFD.out 0 (.inr ⟨rfl, Q4.out⟩))
   have ew : whatD (T 0, L 0, K 0) (T' 0, L' 0, K' 0) = tNone := what_eq (Q4.out 0 (by omega))
   rw [ew] at e0
   have E0 := Lib.hid e0
   clear e0 ew
   go_wp2_with fail
   exact bodyPost_ret (v := .tuple #[.agg #[.int .i64 0, .int .i64 0, .int .i64 0], .string tNone]) (by simp [results, Tryz.results43, go_sem, z0, z1, z2, tNone]) rfl ⟨by rw [E0.out]; rfl, by (repeat refine Below.setCell ?_ (by simp) _); exact Q1.out⟩
set_option maxHeartbeats 4000000 in
theorem specFd_no (s t : ByteArray) (w : World) (h : ¬ (PV s ∧ PV t)) : Calls Tryz.prog 43 #[.string s, .string t] w fun e w' => e = .returned fdNo ∧ Below w.heap.size w w' := by
 have G0 := Lib.hid (Blk.new w #[.int .i64 0, .int .i64 0, .int .i64 0] 43)
 have HB0 := Lib.hid ((Below.refl w.heap.size w).alloc (Nat.le_refl _) (.cells #[.int .i64 0, .int .i64 0, .int .i64 0] 43))
 by_cases h1 : PV s
 ·have h2 : ¬ PV t := fun h2 => h ⟨h1, h2⟩
  have V1 := fun w => Lib.hid (h1.t w)
  have V2 := fun w => Lib.hid (PV.f h2 w)
  clear h h1 h2
  go_enter Tryz.func43, Tryz.ntmps43
  go_wp2_with fail
  generalize w.alloc (.cells #[.int .i64 0, .int .i64 0, .int .i64 0] 43) = w0 at *
  refine (V1 _).out.mono ?_
  rintro e w1 ⟨rfl, hb1⟩
  go_wp2_with fail
  refine (V2 _).out.mono ?_
  rintro e w2 ⟨rfl, hb2⟩
  replace G0 := Lib.hid ((G0.out.kept hb1).kept hb2)
  replace HB0 := Lib.hid (bmore HB0.out HB0.out.size (bnext hb1 hb2))
  clear hb1 hb2
  obtain ⟨z0, z1, z2, u0, u1, u2⟩ := G0.out.a3
  go_wp2_with fail
  exact bodyPost_ret (v := .tuple #[.agg #[.int .i64 0, .int .i64 0, .int .i64 0], .string ⟨#[]⟩]) (by simp [results, Tryz.results43, go_sem, z0, z1, z2]) rfl ⟨rfl, by (repeat refine Below.setCell ?_ (by simp) _); exact HB0.out⟩
 ·have V1 := fun w => Lib.hid (PV.f h1 w)
  clear h h1
  go_enter Tryz.func43, Tryz.ntmps43
  go_wp2_with fail
  generalize w.alloc (.cells #[.int .i64 0, .int .i64 0, .int .i64 0] 43) = w0 at *
  refine (V1 _).out.mono ?_
  rintro e w1 ⟨rfl, hb1⟩
  replace G0 := Lib.hid (G0.out.kept hb1)
  replace HB0 := Lib.hid (bmore HB0.out HB0.out.size hb1)
  clear hb1
  obtain ⟨z0, z1, z2, u0, u1, u2⟩ := G0.out.a3
  go_wp2_with fail
  exact bodyPost_ret (v := .tuple #[.agg #[.int .i64 0, .int .i64 0, .int .i64 0], .string ⟨#[]⟩]) (by simp [results, Tryz.results43, go_sem, z0, z1, z2]) rfl ⟨rfl, by (repeat refine Below.setCell ?_ (by simp) _); exact HB0.out⟩
end Go.Proofs.YtgkoljphndgoeaaGreatDoor
