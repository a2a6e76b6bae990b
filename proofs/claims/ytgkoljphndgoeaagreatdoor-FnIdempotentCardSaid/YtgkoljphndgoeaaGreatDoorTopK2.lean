import Derived.Test.YtgkoljphndgoeaaGreatDoorPk4
import Derived.Test.YtgkoljphndgoeaaGreatDoorTopM1
import Derived.Test.YtgkoljphndgoeaaGreatDoorTopQ1
namespace Go.Proofs.YtgkoljphndgoeaaGreatDoor
open Go.RowKit Tm Go.ChangeMaps Go.Great
theorem StopR.kept {w w' : World} {B : Nat} {s : Stp} {x y : Value} (h : StopR w B s x y) (hb : Below w.heap.size w w') : StopR w' B s x y := by
 unfold StopR at h ⊢
 split at h
 ·exact h
 ·obtain ⟨h4, b, h5, h6⟩ := h
  exact ⟨h4.below hb, b, h5, fun j m hj => ckeep hb (h6 j m hj)⟩
theorem FlowR.kept {w w' : World} {B : Nat} {sp : Value} {G : List Stp} (h : FlowR w B sp G) (hb : Below w.heap.size w w') : FlowR w' B sp G := by
 obtain ⟨rb, cap, hs, hcap, hk⟩ := h
 refine ⟨rb, cap, hs, hcap, fun k s hks => ?_⟩
 obtain ⟨x, y, h1, h2, h3⟩ := hk k s hks
 exact ⟨x, y, ckeep hb h1, ckeep hb h2, h3.kept hb⟩
theorem FlowOk.kept {w w' : World} {B : Nat} {sp : Value} {st : Nat} {G : List Stp} (h : FlowOk false w B sp st G) (hb : Below w.heap.size w w') : FlowOk false w' B sp st G := ⟨h.fl.kept hb, h.ok, h.top, h.sm, h.lt, h.bd⟩
theorem BefW.setOld {w : World} {BB bm : Nat} {m : Mq} {f : Mv} (h : BefW w BB bm m f) {a : Addr} (ha : a.block < BB) (v : Value) : BefW (w.setCell a v) BB bm m f :=
 h.of (Below.heap_setCell _ _ _ _ (by have := h.lm; omega)) fun n u k hu hk => Below.heap_setCell _ _ _ _ (by have := (h.lt hu hk).1; omega)
theorem BefW.mono {w : World} {BB B' bm : Nat} {m : Mq} {f : Mv} (h : BefW w BB bm m f) (hb : B' ≤ BB) : BefW w B' bm m f :=
 ⟨h.mp, fun n l hn => by obtain ⟨v, h1, h2⟩ := h.rw n l hn; exact ⟨v, h1, World.ownsRow.mono h2 hb⟩, h.no, h.dj, Nat.le_trans hb h.lm⟩
def WpPost (p q : Pg) (A : Nat → Nat → Bool) (w : World) (e : Ending) (w' : World) : Prop :=
 ∃ spL spR bm m f, e = .returned (.agg (pwC spL (flS p) spR (flS q) bm)) ∧ BefW w' w.heap.size bm m f ∧ Gn p q A 729 m ∧ (∃ rb n cap, spL = .slice (some ⟨rb, 0, none⟩) n cap) ∧ (∃ rb n cap, spR = .slice (some ⟨rb, 0, none⟩) n cap) ∧ Below w.heap.size w w' ∧ (Top (flG p) ∧ Top (flG q) ∧ (flG p).length ≤ 1200 ∧ (flG q).length ≤ 1200)
set_option maxRecDepth 1000000 in
set_option maxHeartbeats 8000000 in
theorem walkPairs_any (p q : Pg) (B B' : Nat) (v1 v2 : Value) (A : Nat → Nat → Bool) (w : World) (hv1 : StV w B p v1) (hv2 : StV w B' q v2) (hp : p.ok false) (hq : q.ok false) (hl : p.all.length ≤ 1100) (hm : q.all.length ≤ 1100) :
  Calls Tryz.prog 145 #[v1, v2, .agg (relC .u32 A)] w (WpPost p q A w) := by
 have hmm := @run_makeMap Tryz.prog
 obtain ⟨k0, k1, kb⟩ := two_new w (relC .u32 A) #[.slice none 0 0, .int .i64 0, .slice none 0 0, .int .i64 0, .map none] 68 171
 have F1 := Lib.hid (flowOf_any p B v1 _ (hv1.below kb) hp hl)
 have F2 := fun w' (h : Below w.heap.size w w') => Lib.hid (flowOf_any q B' v2 w' (hv2.below h) hq hm)
 have K0 := Lib.hid k0
 have K1 := Lib.hid k1
 have KB := Lib.hid kb
 have hz : ((w.alloc (.cells (relC .u32 A) 68)).alloc (.cells #[.slice none 0 0, .int .i64 0, .slice none 0 0, .int .i64 0, .map none] 171)).heap.size = w.heap.size + 2 := by simp
 clear k0 k1 kb hv1 hv2
 go_enter Tryz.func145, Tryz.ntmps145
 go_wp2_with (refine wpList_boxTo rfl 68 _ rfl (some 5) rfl w.heap.size rfl (relC .u32 A) (by rfl) ?_)
 generalize (w.alloc (.cells (relC .u32 A) 68)).alloc (.cells _ 171) = w0 at *
 go_wp2_with fail
 refine F1.out.mono ?_
 rintro e w2 ⟨rb, cap, rfl, hf1, hb1⟩
 have B2 := Lib.hid (bnext KB.out hb1)
 have E1 := Lib.hid hf1
 have Q0 := Lib.hid (K0.out.kept hb1)
 have Q1 := Lib.hid (K1.out.kept hb1)
 have HZ := Lib.hid hb1.size
 clear hf1 hb1 F1 KB K0 K1
 go_wp2_with fail
 refine (F2 _ B2.out).out.mono ?_
 rintro e w3 ⟨rb2, cap2, rfl, hf2, hb2⟩
 have HF := Lib.hid (E1.out.kept hb2).flown1
 have HH := Lib.hid hf2.flown1
 have B3 := Lib.hid (bnext B2.out hb2)
 have R0 := Q0.out.kept hb2
 have R1 := Q1.out.kept hb2
 have HZ3 : Hid (w.heap.size + 2 ≤ w3.heap.size) := by show _ ≤ _; rw [← hz]; exact Nat.le_trans HZ.out hb2.size
 clear hf2 hb2 E1 Q0 Q1 HZ B2 hz F2
 have m2 : (w3.alloc (.map #[] 0)).heap[w3.heap.size]? = some (.map #[] 0) := by show (w3.heap.push _)[w3.heap.size]? = _; simp
 have b2 := (Below.refl w3.heap.size w3).alloc (Nat.le_refl _) (.map #[] 0)
 have z2 : (w3.alloc (.map #[] 0)).heap.size = w3.heap.size + 1 := by simp
 have hmp : MapV (w3.alloc (.map #[] 0)) w3.heap.size (fun _ => none) := ⟨#[], 0, [], m2, rfl, by simp, fun _ => rfl⟩
 have kb := Blk.new (w3.alloc (.map #[] 0)) (pwC (.slice (some ⟨rb, 0, none⟩) (flG p).length cap) (flS p) (.slice (some ⟨rb2, 0, none⟩) (flG q).length cap2) (flS q) w3.heap.size) 171
 have bb := (Below.refl (w3.alloc (.map #[] 0)).heap.size (w3.alloc (.map #[] 0))).alloc (Nat.le_refl _) (.cells (pwC (.slice (some ⟨rb, 0, none⟩) (flG p).length cap) (flS p) (.slice (some ⟨rb2, 0, none⟩) (flG q).length cap2) (flS q) w3.heap.size) 171)
 rw [z2] at kb
 have T1 : Hid (BefW ((w3.alloc (.map #[] 0)).alloc (.cells (pwC (.slice (some ⟨rb, 0, none⟩) (flG p).length cap) (flS p) (.slice (some ⟨rb2, 0, none⟩) (flG q).length cap2) (flS q) w3.heap.size) 171)) w3.heap.size w3.heap.size (fun _ => none) (fun _ => none)) :=
  ⟨hmp.kept bb, fun n l h => (by cases h), fun n _ => rfl, fun n n' v v' _ h => (by cases h), Nat.le_refl _⟩
 have T2 := Lib.hid ((R0.kept b2).kept bb)
 have T3 := Lib.hid ((R1.kept b2).kept bb)
 have T4 := Lib.hid kb
 have T5 := Lib.hid (bnext b2 bb)
 have T6 := Lib.hid (bnext (bnext B3.out b2) bb)
 have HB3 := B3.out.size
 clear m2 b2 z2 hmp kb bb R0 R1
 unfold pwC at T1 T2 T3 T4 T5 T6
 go_wp2_with fail
 generalize (w3.alloc (.map #[] 0)).alloc (.cells _ 171) = w4 at *
 generalize hbm : w3.heap.size = bm at *
 replace T4 : Hid (Blk w4 (bm + 1) (pwC (.slice (some ⟨rb, 0, none⟩) (flG p).length cap) (flS p) (.slice (some ⟨rb2, 0, none⟩) (flG q).length cap2) (flS q) bm) 171) := T4
 go_loopw [8, 15] (fun _ i wr => ∃ k : Nat, k ≤ 729 ∧ i = .int .i64 k ∧ ∃ m f, Hid (BefW wr bm bm m f) ∧ Hid (Gn p q A k m) ∧ Hid (Blk wr w.heap.size (relC .u32 A) 68) ∧ Hid (Blk wr (w.heap.size + 1) #[.slice none 0 0, .int .i64 0, .slice none 0 0, .int .i64 0, .map none] 171) ∧ Hid (Blk wr (bm + 1) (pwC (.slice (some ⟨rb, 0, none⟩) (flG p).length cap) (flS p) (.slice (some ⟨rb2, 0, none⟩) (flG q).length cap2) (flS q) bm) 171) ∧ Hid (Below bm w3 wr) ∧ Hid (Below w.heap.size w wr)) (fun _ i _ => 729 - (intOf i).toNat)
 case atStart => exact ⟨0, by omega, rfl, _, _, T1, Gn.zero p q A, T2, T3, T4, T5, T6⟩
 case round =>
  clear T1 T2 T3 T4 T5 T6
  obtain ⟨n, hn, rfl, m, f, R1, RG, R2, R3, R4, R5, R6⟩ := hrel
  by_cases hlt : n < 729
  ·obtain ⟨i, j, hi, hj, hne⟩ : ∃ i j, i < 27 ∧ j < 27 ∧ n = i + 27 * j := ⟨n % 27, n / 27, by omega, by omega, by omega⟩
   have P1 := fun w => Lib.hid (rel_hasn A i j hi hj w)
   rw [← hne] at P1
   cases hA : A i j with
   | false =>
    as_aux_lemma =>
    rw [hA] at P1
    have HG := RG.out
    rw [hne] at HG
    replace HG := HG.skip hi hA
    rw [← hne] at HG
    replace HG := Lib.hid HG
    clear hA RG hne
    go_wp2_with (refine wpList_load_row rfl 68 _ rfl w.heap.size (by rfl) 68 (relC .u32 A) (0, 0) _ R2.out undR rfl (infoR _) ?_)
    refine (P1 _).out.mono ?_
    rintro e w5 ⟨rfl, hb⟩
    have N1 := Lib.hid (R1.out.kept hb)
    have N2 := Lib.hid (R2.out.kept hb)
    have N3 := Lib.hid (R3.out.kept hb)
    have N4 := Lib.hid (R4.out.kept hb)
    have N5 := Lib.hid (R5.out.trans (hb.mono (by have := R1.out.mp.lt; omega)))
    have N6 := Lib.hid (bnext R6.out hb)
    clear R1 R2 R3 R4 R5 R6 hb P1
    go_wp2_with fail
    exact ⟨⟨n + 1, by omega, by go_num, m, f, N1, HG, N2, N3, N4, N5, N6⟩, by simp [intOf]; omega⟩
   | true =>
    as_aux_lemma =>
    rw [hA] at P1
    have HT : stT p q A (n + 1) (stN p q i j) := ⟨i, j, hi, hj, by omega, hA, rfl⟩
    have HU : stN p q i j ∈ uni2 (flG p).length (flG q).length 27 := mem_uni2.2 ⟨⟨HF.out.lt, hi⟩, HH.out.lt, hj⟩
    have HS := fun w => Lib.hid (startOf_any (.slice (some ⟨rb, 0, none⟩) (flG p).length cap) (.slice (some ⟨rb2, 0, none⟩) (flG q).length cap2) (flS p) (flS q) bm ⟨_, _, _, rfl⟩ ⟨_, _, _, rfl⟩ i j hi hj w)
    rw [← hne] at HS
    have HW : Wlk mdl (flG p) (flG q) 27 (stT p q A (n + 1)) m [] none [] := RG.out.wk.mono stT_mono
    have HGs : ∀ m' : Mq, Wlk mdl (flG p) (flG q) 27 (stT p q A (n + 1)) m' [] none [] → m' (stN p q i j) ≠ none → (∀ n, m n ≠ none → m' n ≠ none) → Gn p q A (n + 1) m' := fun m' h1 h2 h3 => by
     have := RG.out
     rw [hne] at this h1 ⊢
     exact this.step hi h1 h2 h3
    have HD := fun w' (h1 : BefW w' bm bm m f) (h2 : Below bm w3 w') => Lib.hid (pf_any HF.out HH.out (stT p q A (n + 1)) w' bm bm m f (stN p q i j) HT HU h1 (Nat.le_of_lt h1.mp.lt) (by rw [hbm]; exact h2) (by rw [hbm]; exact Nat.le_refl _) HW)
    replace HGs := Lib.hid HGs
    clear hA RG hne HT HU HW
    go_wp2_with (refine wpList_load_row rfl 68 _ rfl w.heap.size (by rfl) 68 (relC .u32 A) (0, 0) _ R2.out undR rfl (infoR _) ?_)
    refine (P1 _).out.mono ?_
    rintro e w5 ⟨rfl, hb⟩
    have hb' := hb.drew
    have N1 := Lib.hid (R1.out.kept hb')
    have N2 := Lib.hid (R2.out.kept hb')
    have N3 := Lib.hid (R3.out.kept hb')
    have N4 := Lib.hid (R4.out.kept hb')
    have N5 := Lib.hid (R5.out.trans (hb'.mono (by have := R1.out.mp.lt; omega)))
    have N6 := Lib.hid (bnext R6.out hb')
    clear R1 R2 R3 R4 R5 R6 hb hb' P1
    go_wp2_with fail
    refine wp_region_held_drew (S := fun w' => Blk w' (bm + 1) (pwC (.slice (some ⟨rb, 0, none⟩) (flG p).length cap) (flS p) (.slice (some ⟨rb2, 0, none⟩) (flG q).length cap2) (flS q) bm) 171) (by kernel_rfl) N4.out (fun hHeld => ?_)
    generalize w5.drew = wd at *
    refine wpAnyH_take (i := 0) (oi := { dst := some 21, op := _, type := _, pos := _, after := _, guard := _ }) (v := ?_) rfl (by kernel_rfl) (by kernel_rfl) (by kernel_rfl) (fun _ _ _ h => h) (Or.inl ⟨by kernel_rfl, ?_⟩) hHeld ?_
    rotate_left
    ·intro w hSw
     have d0 := hSw.cell 0
     have d1 := hSw.cell 1
     have d2 := hSw.cell 2
     have d3 := hSw.cell 3
     have d4 := hSw.cell 4
     unfold pwC at d0 d1 d2 d3 d4
     simp only [List.getElem?_toArray, List.getElem?_cons_zero, List.getElem?_cons_succ] at d0 d1 d2 d3 d4
     go_simp
     first | done | with_reducible rfl
    simp only [Act.put]
    refine wpAnyH_take (i := 1) (oi := { dst := some 22, op := _, type := _, pos := _, after := _, guard := _ }) (v := ?_) rfl (by kernel_rfl) (by kernel_rfl) (by kernel_rfl) (fun _ _ _ h => h) (Or.inl ⟨by kernel_rfl, ?_⟩) hHeld ?_
    rotate_left
    ·intro w hSw
     have d0 := hSw.cell 0
     have d1 := hSw.cell 1
     have d2 := hSw.cell 2
     have d3 := hSw.cell 3
     have d4 := hSw.cell 4
     unfold pwC at d0 d1 d2 d3 d4
     simp only [List.getElem?_toArray, List.getElem?_cons_zero, List.getElem?_cons_succ] at d0 d1 d2 d3 d4
     go_simp
     first | done | with_reducible rfl
    simp only [Act.put]
    refine wpAnyH_take (i := 2) (oi := { dst := some 23, op := _, type := _, pos := _, after := _, guard := _ }) (v := ?_) rfl (by kernel_rfl) (by kernel_rfl) (by kernel_rfl) (fun _ _ _ h => h) (Or.inl ⟨by kernel_rfl, ?_⟩) hHeld ?_
    rotate_left
    ·intro w hSw
     go_simp
     first | done | with_reducible rfl
    simp only [Act.put]
    refine wpAnyH_ready (rs := [3]) (by kernel_rfl) (by simp) ?_
    refine AllReadyH.cons rfl (fun K hK => ?_) AllReadyH.nil
    go_simp
    refine (HS wd).out.mono ?_
    rintro e w6 ⟨rfl, hb⟩
    have M1 := Lib.hid (N1.out.kept hb)
    have M2 := Lib.hid (N2.out.kept hb)
    have M3 := Lib.hid (N3.out.kept hb)
    have M4 := Lib.hid (N4.out.kept hb)
    have M5 := Lib.hid (N5.out.trans (hb.mono (by have := N1.out.mp.lt; omega)))
    have M6 := Lib.hid (bnext N6.out hb)
    clear hb N1 N2 N3 N4 N5 N6 HS
    go_wp2_with fail
    refine hK.out _ _ M4.out (fun hHeld => ?_)
    clear hK K
    try simp only [Act.put]
    refine wpAnyH_ready (rs := [4]) (by kernel_rfl) (by simp) ?_
    refine AllReadyH.cons rfl (fun K hK => ?_) AllReadyH.nil
    go_simp
    refine (HD w6 M1.out M5.out).out.mono ?_
    rintro e w7 ⟨rfl, m', f', j1, j2, j3, j4, j5⟩
    have HG := Lib.hid (HGs.out m' j3 j4.1 j4.2)
    have L1 := Lib.hid j1
    have L4 := Lib.hid (j5 _ _ M4.out)
    have L5 := Lib.hid (M5.out.trans j2)
    have hbl : w.heap.size + 1 < bm := by have := HZ3.out; omega
    have L2 := Lib.hid ((j2.block w.heap.size (by omega)).trans M2.out : Blk w7 w.heap.size (relC .u32 A) 68)
    have L3 := Lib.hid ((j2.block (w.heap.size + 1) hbl).trans M3.out : Blk w7 (w.heap.size + 1) #[.slice none 0 0, .int .i64 0, .slice none 0 0, .int .i64 0, .map none] 171)
    have L6 := Lib.hid (M6.out.trans (j2.mono (by omega)))
    clear j1 j2 j3 j4 j5 M1 M2 M3 M4 M5 M6 HD HGs hbl
    go_wp2_with fail
    refine hK.out _ _ L4.out (fun hHeld => ?_)
    clear hK K
    try simp only [Act.put]
    refine wpAnyH_done (by kernel_rfl) ?_ _
    clear hHeld
    go_wp2_with fail
    exact ⟨⟨n + 1, by omega, by go_num, m', f', L1, HG, L2, L3, L4, L5, L6⟩, by simp [intOf]; omega⟩
  ·as_aux_lemma =>
   have hk2 : n = 729 := by omega
   subst hk2
   have d0 := R4.out.cell 0; have d1 := R4.out.cell 1; have d2 := R4.out.cell 2; have d3 := R4.out.cell 3; have d4 := R4.out.cell 4
   unfold pwC at d0 d1 d2 d3 d4
   simp only [List.getElem?_toArray, List.getElem?_cons_zero, List.getElem?_cons_succ] at d0 d1 d2 d3 d4
   have Z := R3.out
   have i0 := Z.cell 0; have i1 := Z.cell 1; have i2 := Z.cell 2; have i3 := Z.cell 3; have i4 := Z.cell 4
   have f0 := Z.free 0; have f1 := Z.free 1; have f2 := Z.free 2; have f3 := Z.free 3; have f4 := Z.free 4
   simp only [List.getElem?_toArray, List.getElem?_cons_zero, List.getElem?_cons_succ] at i0 i1 i2 i3 i4
   have hbl : w.heap.size + 1 < bm := by have := HZ3.out; omega
   have hZ5 := ((((Z.set 0 (.slice (some ⟨rb, 0, none⟩) (flG p).length cap)).set 1 (.int .i64 (flS p : Nat))).set 2 (.slice (some ⟨rb2, 0, none⟩) (flG q).length cap2)).set 3 (.int .i64 (flS q : Nat))).set 4 (.map (some bm))
   have HZ5 := Lib.hid hZ5
   have HF1 := Lib.hid (((((R1.out.setOld (a := ⟨w.heap.size + 1, 0, none⟩) hbl (.slice (some ⟨rb, 0, none⟩) (flG p).length cap)).setOld (a := ⟨w.heap.size + 1, 1, none⟩) hbl (.int .i64 (flS p : Nat))).setOld (a := ⟨w.heap.size + 1, 2, none⟩) hbl (.slice (some ⟨rb2, 0, none⟩) (flG q).length cap2)).setOld (a := ⟨w.heap.size + 1, 3, none⟩) hbl (.int .i64 (flS q : Nat))).setOld (a := ⟨w.heap.size + 1, 4, none⟩) hbl (.map (some bm)))
   have hge : w.heap.size ≤ w.heap.size + 1 := by omega
   have HB1 := Lib.hid (((((R6.out.setCell (p := ⟨w.heap.size + 1, 0, none⟩) hge (.slice (some ⟨rb, 0, none⟩) (flG p).length cap)).setCell (p := ⟨w.heap.size + 1, 1, none⟩) hge (.int .i64 (flS p : Nat))).setCell (p := ⟨w.heap.size + 1, 2, none⟩) hge (.slice (some ⟨rb2, 0, none⟩) (flG q).length cap2)).setCell (p := ⟨w.heap.size + 1, 3, none⟩) hge (.int .i64 (flS q : Nat))).setCell (p := ⟨w.heap.size + 1, 4, none⟩) hge (.map (some bm)))
   clear hZ5 Z R1 R2 R3 R4 R5 R6 hge
   go_wp2_with fail
   exact bodyPost_ret (v := .agg (pwC (.slice (some ⟨rb, 0, none⟩) (flG p).length cap) (flS p) (.slice (some ⟨rb2, 0, none⟩) (flG q).length cap2) (flS q) bm)) (results_cell_row rfl _ _ (w.heap.size + 1) 171 _ (0, 0) _ (by rfl) HZ5.out Tryz.underlying171 rfl (by kernel_rfl)) rfl
    ⟨_, _, _, m, f, rfl, HF1.out.mono (by omega), RG.out, ⟨_, _, _, rfl⟩, ⟨_, _, _, rfl⟩, HB1.out, HF.out.top, HH.out.top, HF.out.sm, HH.out.sm⟩
theorem append_nilr {t ty e : TypeId} (ht : Tryz.prog.underlying t = some (.slice e)) {sz : Nat} (hs : ∀ w, (sizeOf e).run Tryz.prog w = .ok sz w) (b : Option Addr) (n cap : Nat) (hc : n ≤ cap) (w : World) : (Builtin.append_ #[t, t] ty #[.slice b n cap, .slice none 0 0]).run Tryz.prog w = .ok (.slice b n cap) w := by
 have h0 : (n + 0) = n := rfl
 cases b with
 | none => simp [Builtin.append_, run_underlying ht, hs, Builtin.lenOf, Builtin.firstCells, hc, Result.andThen]
 | some a => simp [Builtin.append_, run_underlying ht, hs, Builtin.lenOf, Builtin.firstCells, hc, Result.andThen, storeCells]
theorem sizePP (w : World) : (sizeOf 223).run Tryz.prog w = .ok 4 w := by kernel_rfl
theorem append_rows (w : World) (ty : TypeId) {BB : Nat} {v r : Value} {l l' : List Nd} (hv : NRow w BB v l) (hr : NRow w BB r l') (hlen : l.length + l'.length ≤ 4000000000) (hB : BB ≤ w.heap.size) :
  ∃ v' w', (Builtin.append_ #[225, 225] ty #[v, r]).run Tryz.prog w = .ok v' w' ∧ NRow w' BB v' (l ++ l') ∧ w.grownBy w' v.ownBlock ∧ (v'.ownBlock = v.ownBlock ∨ v'.ownBlock = some w.heap.size) := by
 obtain ⟨i0, hi0, hz0, hz1, hz2⟩ := info_parts infoPP
 have hr' := hr
 obtain ⟨h1, h2⟩ := hr'
 rcases h2 with ⟨rfl, h3⟩ | ⟨g, cap, cur, rfl, _⟩
 ·obtain ⟨a, cap, rfl, hc, _⟩ := own_forms hv
  have : l' = [] := List.length_eq_zero_iff.1 h3
  subst this
  refine ⟨_, w, append_nilr Tryz.underlying225 sizePP a l.length cap hc w, ?_, World.grownBy.refl _ _, .inl rfl⟩
  rw [List.append_nil]; exact hv
 ·have hcl := World.ownsRow.cells hr (g := g) rfl
  have h8 : ∀ u ∈ ndC l', u.oneCell' = true := fun u hu => by
   unfold ndC at hu
   obtain ⟨n, _, hn⟩ := List.mem_flatMap.1 hu
   simp only [List.mem_cons, List.not_mem_nil, or_false] at hn
   rcases hn with rfl | rfl | rfl | rfl <;> rfl
  obtain ⟨v', w', k1, k2, k3, _, k5⟩ := run_append_own_at (P := Tryz.prog) w BB 225 ty 223 i0 _ 4 32 Tryz.underlying225 hi0 hz0 hz1 hz2 rfl (by omega) v l.length (ndC l) hv ⟨g, 0, none⟩ l'.length cap (ndC l') (ndC_len l') hcl h8 (by unfold maxLen; omega) (by omega) hB
  refine ⟨v', w', k1, ?_, k3, k5⟩
  show w'.ownsRow _ _ _ _ _ _
  rw [List.length_append, ndC_app]
  exact k2
theorem step_append_run {ops : Array Oper} {o : Oper} {a : Act} {w w' : World} {K : Act → World → Prop} {Q : Exit → Act → World → Prop} {E : Prop} (hgd : o.guard = none) (s x : Operand) (t : TypeId)
  (ho : o.op = .call { callee := .builtin .append, args := #[s, x], argTypes := #[t, t] }) (v r v' : Value) (hs : a.eval s = v) (hx : a.eval x = r) (hr : (Builtin.append_ #[t, t] o.type #[v, r]).run Tryz.prog w = .ok v' w') (h : K (a.put o.dst v') w') :
  if Region.wanted o (yielded ops a.tmps) = true then Oper.wp Tryz.prog o a w K Q else E := by
 have hw : Region.wanted o (yielded ops a.tmps) = true := by simp [Region.wanted, hgd]
 rw [if_pos hw]
 unfold Oper.wp execOp
 simp only [ho, resolve, invoke, builtin, Sem.run_bind, Sem.run_pure, Result.andThen_ok, List.map_toArray, List.map_cons, List.map_nil, hs, hx, hr]
 exact h
def lowE (C : Nat → Nat → Bool) (n : Nat) : List Nd := ((List.range n).filter fun k => C (k % 27) (k / 27)).map fun k => enN (k % 27) (k / 27)
theorem lowE_len (C : Nat → Nat → Bool) (n : Nat) : (lowE C n).length ≤ n := by
 unfold lowE
 rw [List.length_map]
 have := List.length_filter_le (fun k => C (k % 27) (k / 27)) (List.range n)
 rwa [List.length_range] at this
theorem lowE_no {C : Nat → Nat → Bool} {i j : Nat} (hi : i < 27) (h : C i j = false) : lowE C (i + 27 * j + 1) = lowE C (i + 27 * j) := by
 unfold lowE
 have h1 : (i + 27 * j) % 27 = i := by omega
 have h2 : (i + 27 * j) / 27 = j := by omega
 rw [List.range_succ, List.filter_append]
 simp [h1, h2, h]
theorem lowE_yes {C : Nat → Nat → Bool} {i j : Nat} (hi : i < 27) (h : C i j = true) : lowE C (i + 27 * j + 1) = lowE C (i + 27 * j) ++ [enN i j] := by
 unfold lowE
 have h1 : (i + 27 * j) % 27 = i := by omega
 have h2 : (i + 27 * j) / 27 = j := by omega
 rw [List.range_succ, List.filter_append, List.map_append]
 simp [h1, h2, h]
theorem mem_lowE {C : Nat → Nat → Bool} {n : Nd} : n ∈ lowE C 729 ↔ badN C n := by
 unfold lowE badN
 simp only [List.mem_map, List.mem_filter, List.mem_range]
 constructor
 ·rintro ⟨k, ⟨hk, hC⟩, rfl⟩
  exact ⟨k % 27, k / 27, by omega, by omega, hC, rfl⟩
 ·rintro ⟨a, c, ha, hc, hC, rfl⟩
  refine ⟨a + 27 * c, ⟨by omega, ?_⟩, ?_⟩
  ·rw [show (a + 27 * c) % 27 = a by omega, show (a + 27 * c) / 27 = c by omega]; exact hC
  ·rw [show (a + 27 * c) % 27 = a by omega, show (a + 27 * c) / 27 = c by omega]
theorem Avd.start {G H : List Stp} {T : Nd → Prop} {m : Mq} (C : Nat → Nat → Bool) (h : Wlk mdl G H 27 T m [] none []) : Avd mdl G H 27 (badN C) m m (lowE C 729).reverse where
 sub := fun n => .inr rfl
 dl := fun n h1 h2 => absurd h2 h1
 oo := fun n hn => ⟨n, mem_lowE.1 (List.mem_reverse.1 hn), .refl _⟩
 cl := fun z l h1 h2 => by rw [h1] at h2; cases h2
 bd := fun b hb => .inl (List.mem_reverse.2 (mem_lowE.2 hb))
 sz := by
  have h1 := h.sz
  have h2 := lowE_len C 729
  simp only [List.length_nil, List.length_reverse] at *
  omega
def sumV (U : List Nd) (f : Mv) : Nat := (U.map fun n => lenOf (valOf (f n))).sum
theorem BefW.sum {w : World} {BB bm : Nat} {m : Mq} {f : Mv} (h : BefW w BB bm m f) (U : List Nd) : sumV U (mvIn w bm) = sumq U m := by
 rw [h.mp.inn]
 unfold sumV sumq
 exact sum_congr fun x _ => (NRow.len (h.row x))
theorem typ_ne8 : 68 ≠ 223 := by decide
def AvPost (G H : List Stp) (C : Nat → Nat → Bool) (BB bm : Nat) (m : Mq) (w0 : World) (e : Ending) (w' : World) : Prop :=
 e = .returned (.tuple #[]) ∧ ∃ m' f', BefW w' BB bm m' f' ∧ Avd mdl G H 27 (badN C) m m' [] ∧ Below BB w0 w' ∧ ∀ b cs, Blk w0 b cs 171 → Blk w' b cs 171
set_option maxRecDepth 1000000 in
set_option maxHeartbeats 8000000 in
theorem avoid_any {G H : List Stp} {T : Nd → Prop} (hG : G.length ≤ 1200) (hH : H.length ≤ 1200) (C : Nat → Nat → Bool) (rb n1 cap1 rb2 n2 cap2 : Nat) (sl sr bm BB : Nat) (m : Mq) (f : Mv) (w0 : World) (hB : BefW w0 BB bm m f) (hBB : BB ≤ w0.heap.size) (hW : Wlk mdl G H 27 T m [] none []) :
  Calls Tryz.prog 146 #[.agg (pwC (.slice (some ⟨rb, 0, none⟩) n1 cap1) sl (.slice (some ⟨rb2, 0, none⟩) n2 cap2) sr bm), .agg (relC .u32 C)] w0 (AvPost G H C BB bm m w0) := by
 obtain ⟨i0, hi0, hz0, hz1, hz2⟩ := info_parts infoPP
 obtain ⟨k0, k1, kb⟩ := two_new w0 (pwC (.slice (some ⟨rb, 0, none⟩) n1 cap1) sl (.slice (some ⟨rb2, 0, none⟩) n2 cap2) sr bm) (relC .u32 C) 171 68
 have hz : ((w0.alloc (.cells (pwC (.slice (some ⟨rb, 0, none⟩) n1 cap1) sl (.slice (some ⟨rb2, 0, none⟩) n2 cap2) sr bm) 171)).alloc (.cells (relC .u32 C) 68)).heap.size = w0.heap.size + 2 := by simp
 have K0 := Lib.hid k0
 have K1 := Lib.hid k1
 have KB := Lib.hid kb
 have HZ : Hid (w0.heap.size + 2 ≤ ((w0.alloc (.cells (pwC (.slice (some ⟨rb, 0, none⟩) n1 cap1) sl (.slice (some ⟨rb2, 0, none⟩) n2 cap2) sr bm) 171)).alloc (.cells (relC .u32 C) 68)).heap.size) := Nat.le_of_eq hz.symm
 have HB := Lib.hid hB
 have HW := Lib.hid hW
 have HS := Lib.hid (Avd.start C hW)
 have HGH : Hid (G.length * 27 * (H.length * 27) ≤ (1200 * 27) * (1200 * 27)) := Nat.mul_le_mul (Nat.mul_le_mul_right _ hG) (Nat.mul_le_mul_right _ hH)
 clear k0 k1 kb hz hB hW
 unfold pwC at K0 K1 KB HZ ⊢
 go_enter Tryz.func146, Tryz.ntmps146
 go_wp2_with (refine wpList_boxTo rfl 68 _ rfl (some 3) rfl (w0.heap.size + 1) (by simp) (relC .u32 C) (by rfl) ?_)
 generalize (w0.alloc (.cells _ 171)).alloc (.cells (relC .u32 C) 68) = wa at *
 replace K0 : Hid (Blk wa w0.heap.size (pwC (.slice (some ⟨rb, 0, none⟩) n1 cap1) sl (.slice (some ⟨rb2, 0, none⟩) n2 cap2) sr bm) 171) := K0
 go_wp2_with fail
 go_loopw [4, 5, 7] (fun ov _ i wr => ∃ k : Nat, k ≤ 729 ∧ i = .int .i64 k ∧ Hid (NRow wr (w0.heap.size + 2) ov (lowE C k)) ∧ Hid (Blk wr w0.heap.size (pwC (.slice (some ⟨rb, 0, none⟩) n1 cap1) sl (.slice (some ⟨rb2, 0, none⟩) n2 cap2) sr bm) 171) ∧ Hid (Blk wr (w0.heap.size + 1) (relC .u32 C) 68) ∧ Hid (Below w0.heap.size w0 wr) ∧ Hid (w0.heap.size + 2 ≤ wr.heap.size)) (fun _ _ i _ => 729 - (intOf i).toNat)
 case atStart => exact ⟨0, by omega, rfl, NRow.nil _ _, K0, K1, KB, HZ⟩
 case round =>
  clear K0 K1 KB HZ
  obtain ⟨n, hn, rfl, RO, R0, R1, RB, RZ⟩ := hrel
  by_cases hlt : n < 729
  ·obtain ⟨i, j, hi, hj, hne⟩ : ∃ i j, i < 27 ∧ j < 27 ∧ n = i + 27 * j := ⟨n % 27, n / 27, by omega, by omega, by omega⟩
   have P1 := fun w => Lib.hid (rel_hasn C i j hi hj w)
   rw [← hne] at P1
   cases hA : C i j with
   | false =>
    as_aux_lemma =>
    rw [hA] at P1
    have HL := lowE_no hi hA
    rw [← hne] at HL
    replace HL := Lib.hid HL
    clear hA hne
    go_wp2_with (refine wpList_load_row rfl 68 _ rfl (w0.heap.size + 1) (by rfl) 68 (relC .u32 C) (0, 0) _ R1.out undR rfl (infoR _) ?_)
    refine (P1 _).out.mono ?_
    rintro e w5 ⟨rfl, hb⟩
    have NO : Hid (NRow w5 (w0.heap.size + 2) u4 (lowE C (n + 1))) := by
     show NRow _ _ _ _
     rw [HL.out]
     exact own_below RO.out hb
    have N0 := Lib.hid (R0.out.kept hb)
    have N1 := Lib.hid (R1.out.kept hb)
    have NB := Lib.hid (bnext RB.out hb)
    have NZ := Lib.hid (Nat.le_trans RZ.out hb.size)
    clear RO R0 R1 RB RZ hb P1
    go_wp2_with fail
    exact ⟨⟨n + 1, by omega, by go_num, NO, N0, N1, NB, NZ⟩, by simp [intOf]; omega⟩
   | true =>
    as_aux_lemma =>
    rw [hA] at P1
    have HL := lowE_yes hi hA
    have P2 := fun w => Lib.hid (endOf_any i j hi hj w)
    rw [← hne] at HL P2
    replace HL := Lib.hid HL
    have HLE := Lib.hid (lowE_len C n)
    have hE : ((0, i), (0, j)) = enN i j := rfl
    rw [hE] at P2
    clear hA hne hE
    generalize enN i j = z at *
    unfold NdIs ndV at P2
    go_wp2_with (refine wpList_load_row rfl 68 _ rfl (w0.heap.size + 1) (by rfl) 68 (relC .u32 C) (0, 0) _ R1.out undR rfl (infoR _) ?_)
    refine (P1 _).out.mono ?_
    rintro e w5 ⟨rfl, hb⟩
    have NO := Lib.hid (own_below RO.out hb)
    have N0 := Lib.hid (R0.out.kept hb)
    have N1 := Lib.hid (R1.out.kept hb)
    have NB := Lib.hid (bnext RB.out hb)
    have NZ := Lib.hid (Nat.le_trans RZ.out hb.size)
    clear RO R0 R1 RB RZ hb P1
    go_wp2_with fail
    refine (P2 _).out.mono ?_
    rintro e w6 ⟨rfl, hb⟩
    have BY := Lib.hid ((Below.refl w6.heap.size w6).alloc (Nat.le_refl _) (.cells #[.int .i64 (z.1.1 : Int), .int .i64 (z.1.2 : Int), .int .i64 (z.2.1 : Int), .int .i64 (z.2.2 : Int)] 223))
    have MO := Lib.hid (own_below (own_below NO.out hb) BY.out)
    have M0 := Lib.hid ((N0.out.kept hb).kept BY.out)
    have M1 := Lib.hid ((N1.out.kept hb).kept BY.out)
    have MB := Lib.hid (bnext (bnext NB.out hb) BY.out)
    have MZ := Lib.hid (Nat.le_trans (Nat.le_trans NZ.out hb.size) BY.out.size)
    clear NO N0 N1 NB NZ hb BY P2
    go_wp2_with (at_builtin; refine wpList_append_lies _ (by rfl) _ _ _ (by rfl) (w0.heap.size + 2) 223 i0 _ 4 32 Tryz.underlying225 hi0 hz0 hz1 hz2 rfl (by omega) _ _ _ (by rfl) MO.out ⟨w6.heap.size, 0, none⟩ 1 1 [.int .i64 (z.1.1 : Int), .int .i64 (z.1.2 : Int), .int .i64 (z.2.1 : Int), .int .i64 (z.2.2 : Int)] (by rfl) (by rfl) (World.news_of_block (cs := #[.int .i64 (z.1.1 : Int), .int .i64 (z.1.2 : Int), .int .i64 (z.2.1 : Int), .int .i64 (z.2.2 : Int)]) (t := 223) (fr := (0, 0)) (heap_alloc_new w6 _)) (by simp [Value.oneCell']) (by omega) (by have := HLE.out; unfold maxLen; omega) (by have := HLE.out; omega) MZ.out (w6.heap.size + 1) (by simp) ?_; intro g4 cap4 w7 hown hgrow hat hlt7)
    have LO : Hid (NRow w7 (w0.heap.size + 2) (.slice (some ⟨g4, 0, none⟩) ((lowE C n).length + 1) cap4) (lowE C (n + 1))) := by
     show w7.ownsRow _ _ _ _ _ _
     rw [HL.out, ndC_app, List.length_append]
     exact hown
    have L0 := Lib.hid (Blk.grown M0.out hgrow (own_blk MO.out M0.out typ_ne7))
    have L1 := Lib.hid (Blk.grown M1.out hgrow (own_blk MO.out M1.out typ_ne8))
    have LB := Lib.hid (MB.out.grown hgrow MB.out.size (fun k hk => by have := (World.ownsRow.lt MO.out k hk).1; omega))
    have LZ := Lib.hid (Nat.le_trans MZ.out hgrow.size)
    clear hown hgrow hat MO M0 M1 MB MZ
    go_wp2_with fail
    exact ⟨⟨n + 1, by omega, by go_num, LO, L0, L1, LB, LZ⟩, by simp [intOf]; omega⟩
  ·have hk2 : n = 729 := by omega
   rw [hk2] at RO
   have hnl : ¬ ((n : Int) < 729) := by omega
   clear hk2 hn hlt
   have T1 : Hid (NStk wr BB u4 (lowE C 729).reverse) := by
    show NRow _ _ _ _
    rw [List.reverse_reverse]
    exact World.ownsRow.mono RO.out (by omega)
   have T2 := Lib.hid (HB.out.kept RB.out)
   have T5 : Hid (Apart f u4.ownBlock) := by
    show Apart _ _
    cases hn : u4.ownBlock with
    | none => exact Apart.none_ f
    | some b => exact HB.out.apart_new (by have := (World.ownsRow.lt RO.out b hn).1; omega)
   have T3 := Lib.hid (RB.out.mono hBB)
   have T7 : Hid (∀ b cs, Blk w0 b cs 171 → Blk wr b cs 171) := fun b cs h => h.kept RB.out
   clear RO R1 RB RZ HB
   go_wp2_with fail
   go_loopw [4] (fun ov wr => ∃ O m' f', Hid (NStk wr BB ov O) ∧ Hid (BefW wr BB bm m' f') ∧ Hid (Avd mdl G H 27 (badN C) m m' O) ∧ Hid (Below BB w0 wr) ∧ Hid (Apart f' ov.ownBlock) ∧ Hid (Blk wr w0.heap.size (pwC (.slice (some ⟨rb, 0, none⟩) n1 cap1) sl (.slice (some ⟨rb2, 0, none⟩) n2 cap2) sr bm) 171) ∧ Hid (∀ b cs, Blk w0 b cs 171 → Blk wr b cs 171)) (fun ov wr => sumV (uni2 G.length H.length 27) (mvIn wr bm) + lenOf ov)
   case atStart => exact ⟨_, m, f, T1, T2, HS, T3, T5, R0, T7⟩
   case round =>
    clear T1 T2 HS T3 T5 R0 T7
    obtain ⟨O, m', f', R1, R2, R3, R4, R5, R6, R7⟩ := hrel
    cases O with
    | nil =>
     as_aux_lemma =>
     obtain ⟨a, cap, rfl, hcap, _⟩ := own_forms R1.out
     simp only [List.reverse_nil, List.length_nil] at *
     go_wp2_with fail
     go_end0
     exact ⟨rfl, m', f', R2.out, R3.out, R4.out, R7.out⟩
    | cons y s =>
     as_aux_lemma =>
     obtain ⟨g, cap, rfl, hcap, hg, hgl, q0, q1, q2, q3, htop⟩ := R1.out.top
     have HT := Lib.hid htop
     have HLB : Hid (((m' y).getD []).length + s.length ≤ 3000000000) := by
      show _ ≤ _
      have h1 := R3.out.sz
      have h2 := HGH.out
      have h3 : ((m' y).getD []).length ≤ sumq (uni2 G.length H.length 27) m' := by
       by_cases hn : m' y = none
       ·rw [hn]; simp
       ·have hu : y ∈ uni2 G.length H.length 27 := HW.out.un y (by
         rcases R3.out.sub y with k | k
         ·exact absurd k hn
         ·rw [← k]; exact hn)
        unfold sumq
        have : rlen m' y ∈ (uni2 G.length H.length 27).map (rlen m') := List.mem_map.2 ⟨y, hu, rfl⟩
        exact mem_sum this
      simp only [List.length_cons] at h1
      omega
     have hmx : s.length + 1 ≤ 9223372036854775807 := by have := HLB.out; omega
     have hw : IntKind.i64.wrap (s.length : Int) = (s.length : Int) := IntWalk.i64_in _ (by omega)
     obtain ⟨hp1, hp2⟩ := R3.out.pop HW.out.sd HW.out.un
     have HP1 := Lib.hid hp1
     have HP2 := Lib.hid hp2
     have HU := Lib.hid (R2.out.sum (uni2 G.length H.length 27))
     have BX := Lib.hid (((Below.refl wr.heap.size wr).alloc (Nat.le_refl _) (.cells #[.int .i64 y.1.1, .int .i64 y.1.2, .int .i64 y.2.1, .int .i64 y.2.2] 223)).drew)
     have ZB := Lib.hid (Blk.new wr #[.int .i64 y.1.1, .int .i64 y.1.2, .int .i64 y.2.1, .int .i64 y.2.2] 223).drew
     have E1 := Lib.hid (R2.out.kept BX.out)
     have E2 : Hid (NStk (wr.alloc (.cells #[.int .i64 y.1.1, .int .i64 y.1.2, .int .i64 y.2.1, .int .i64 y.2.2] 223)).drew BB (.slice (some ⟨g, 0, none⟩) s.length cap) s) := own_below HT.out BX.out
     have E4 := Lib.hid (R4.out.trans (BX.out.mono (Nat.le_trans hBB R4.out.size)))
     have E6 := Lib.hid (R6.out.kept BX.out)
     have E7 : Hid (∀ b cs, Blk w0 b cs 171 → Blk (wr.alloc (.cells #[.int .i64 y.1.1, .int .i64 y.1.2, .int .i64 y.2.1, .int .i64 y.2.2] 223)).drew b cs 171) := fun b cs h => (R7.out b cs h).kept BX.out
     have A2 : Hid (Apart f' (some wr.heap.size)) := R2.out.apart_new (Nat.le_refl _)
     have HGL := Lib.hid hgl
     clear htop hp1 hp2 R1 R2 R3 R4 R6 R7 BX HT
     go_wp2_with fail
     clear q0 q1 q2 q3
     generalize wr.heap.size = nb at *
     refine wp_region_held_drew (S := fun w' => Blk w' w0.heap.size (pwC (.slice (some ⟨rb, 0, none⟩) n1 cap1) sl (.slice (some ⟨rb2, 0, none⟩) n2 cap2) sr bm) 171 ∧ Blk w' nb #[.int .i64 y.1.1, .int .i64 y.1.2, .int .i64 y.2.1, .int .i64 y.2.2] 223 ∧ MapV w' bm f') (by kernel_rfl) ⟨E6.out, ZB.out, E1.out.mp⟩ (fun hHeld => ?_)
     generalize World.drew (World.alloc _ (.cells #[.int .i64 y.1.1, .int .i64 y.1.2, .int .i64 y.2.1, .int .i64 y.2.2] 223)) = wd at *
     refine wpAnyH_take (i := 0) (oi := { dst := some 28, op := _, type := _, pos := _, after := _, guard := _ }) (v := ?_) rfl (by kernel_rfl) (by kernel_rfl) (by kernel_rfl) (fun _ _ _ h => h) (Or.inl ⟨by kernel_rfl, ?_⟩) hHeld ?_
     rotate_left
     ·intro w hSw
      go_simp
      first | done | with_reducible rfl
     simp only [Act.put]
     try simp only [List.setIfInBounds_toArray]
     refine wpAnyH_take (i := 1) (oi := { dst := some 29, op := _, type := _, pos := _, after := _, guard := _ }) (v := ?_) rfl (by kernel_rfl) (by kernel_rfl) (by kernel_rfl) (fun _ _ _ h => h) (Or.inl ⟨by kernel_rfl, ?_⟩) hHeld ?_
     rotate_left
     ·intro w hSw
      go_simp
      first | done | with_reducible rfl
     simp only [Act.put]
     try simp only [List.setIfInBounds_toArray]
     refine wpAnyH_take (i := 2) (oi := { dst := some 30, op := _, type := _, pos := _, after := _, guard := _ }) (v := ?_) rfl (by kernel_rfl) (by kernel_rfl) (by kernel_rfl) (fun _ _ _ h => h) (Or.inl ⟨by kernel_rfl, ?_⟩) hHeld ?_
     rotate_left
     ·intro w hSw
      go_simp
      first | done | with_reducible rfl
     simp only [Act.put]
     try simp only [List.setIfInBounds_toArray]
     refine wpAnyH_take (i := 3) (oi := { dst := some 31, op := _, type := _, pos := _, after := _, guard := _ }) (v := ?_) rfl (by kernel_rfl) (by kernel_rfl) (by kernel_rfl) (fun _ _ _ h => h) (Or.inl ⟨by kernel_rfl, ?_⟩) hHeld ?_
     rotate_left
     ·intro w hSw
      go_simp
      first | done | with_reducible rfl
     simp only [Act.put]
     try simp only [List.setIfInBounds_toArray]
     refine wpAnyH_take (i := 5) (oi := { dst := some 33, op := _, type := _, pos := _, after := _, guard := _ }) (v := ?_) rfl (by kernel_rfl) (by kernel_rfl) (by kernel_rfl) (fun _ _ _ h => h) (Or.inl ⟨by kernel_rfl, ?_⟩) hHeld ?_
     rotate_left
     ·intro w hSw
      go_simp
      first | done | with_reducible rfl
     simp only [Act.put]
     try simp only [List.setIfInBounds_toArray]
     refine wpAnyH_take (i := 6) (oi := { dst := some 34, op := _, type := _, pos := _, after := _, guard := _ }) (v := ?_) rfl (by kernel_rfl) (by kernel_rfl) (by kernel_rfl) (fun _ _ _ h => h) (Or.inl ⟨by kernel_rfl, ?_⟩) hHeld ?_
     rotate_left
     ·intro w hSw
      have d4 := hSw.1.cell 4
      unfold pwC at d4
      simp only [List.getElem?_toArray, List.getElem?_cons_zero, List.getElem?_cons_succ] at d4
      go_simp
      first | done | with_reducible rfl
     simp only [Act.put]
     try simp only [List.setIfInBounds_toArray]
     refine wpAnyH_take (i := 7) (oi := { dst := some 35, op := _, type := _, pos := _, after := _, guard := _ }) (v := ?_) rfl (by kernel_rfl) (by kernel_rfl) (by kernel_rfl) (fun _ _ _ h => h) (Or.inl ⟨by kernel_rfl, ?_⟩) hHeld ?_
     rotate_left
     ·intro w hSw
      have x0 := hSw.2.1.cell 0
      have x1 := hSw.2.1.cell 1
      have x2 := hSw.2.1.cell 2
      have x3 := hSw.2.1.cell 3
      simp only [List.getElem?_toArray, List.getElem?_cons_zero, List.getElem?_cons_succ] at x0 x1 x2 x3
      go_simp
      first | done | with_reducible rfl
     simp only [Act.put]
     try simp only [List.setIfInBounds_toArray]
     refine wpAnyH_ready (rs := [4, 8]) (by decide +kernel) (by simp) ?_
     refine AllReadyH.cons rfl (fun K hK => ?_) (AllReadyH.cons rfl (fun K hK => ?_) AllReadyH.nil)
     ·as_aux_lemma =>
      go_simp
      go_wp2_with fail
      refine hK.out _ _ hHeld (fun hHeld => ?_)
      clear hK K
      try simp only [Act.put]
      refine wpAnyH_take (i := 8) (oi := { dst := some 36, op := _, type := _, pos := _, after := _, guard := _ }) (v := ?_) rfl (by kernel_rfl) (by kernel_rfl) (by kernel_rfl) (fun _ _ _ h => h) (Or.inl ⟨by kernel_rfl, ?_⟩) hHeld ?_
      rotate_left
      ·intro w hSw
       have hl := lookV_run1 hSw.2.2 y
       unfold ndV at hl
       go_simp
       first | done | with_reducible rfl
      simp only [Act.put]
      try simp only [List.setIfInBounds_toArray]
      have HRW := Lib.hid (E1.out.row y)
      generalize hl0 : (m' y).getD [] = l at *
      replace hl0 := Lib.hid hl0
      have HL2 : s.reverse.length + l.length ≤ 4000000000 := by
       have h9 := HLB.out
       rw [List.length_reverse]
       omega
      obtain ⟨v', w7, hr7, hv7, hg7, hat7⟩ := append_rows wd 225 E2.out HRW.out HL2 (Nat.le_trans hBB E4.out.size)
      clear HL2
      have P6 := Lib.hid (Blk.grown E6.out hg7 (own_blk E2.out E6.out typ_ne7))
      have PZ := Lib.hid (Blk.grown ZB.out hg7 (fun e => by have e : some g = some nb := e; injection e with e; have := HGL.out; omega))
      have P1 := Lib.hid (E1.out.grown hg7 R5.out (E1.out.own_ne E2.out))
      have P2 : Hid (NStk w7 BB v' (l.reverse ++ s)) := by
       show NRow _ _ _ _
       rw [List.reverse_append, List.reverse_reverse]
       exact hv7
      have P4 := Lib.hid (E4.out.grown hg7 (Nat.le_trans hBB E4.out.size) (fun k hk => (World.ownsRow.lt E2.out k hk).1))
      have P7 : Hid (∀ b cs, Blk w0 b cs 171 → Blk w7 b cs 171) := fun b cs h => Blk.grown (E7.out b cs h) hg7 (own_blk E2.out (E7.out b cs h) typ_ne7)
      have P5 : Hid (Apart f' v'.ownBlock) := by
       show Apart _ _
       rcases hat7 with e | e
       ·rw [e]; exact R5.out
       ·rw [e]; exact E1.out.apart_new (Nat.le_refl _)
      have HR7 := Lib.hid hr7
      clear hr7 hv7 hg7 hat7 E1 E2 E4 E6 E7 R5 ZB A2 HGL HRW
      refine wpAnyH_ready (rs := [9]) (by kernel_rfl) (by simp) ?_
      refine AllReadyH.cons rfl (fun K hK => ?_) AllReadyH.nil
      refine step_append_run rfl _ _ _ rfl _ _ v' (by simp [Act.eval]) (by simp [Act.eval]) HR7.out ?_
      refine hK.out _ _ ⟨P6.out, PZ.out, P1.out.mp⟩ (fun hHeld => ?_)
      clear hK K HR7
      try simp only [Act.put]
      refine wpAnyH_take (i := 10) (oi := { dst := some 4, op := .assign (.tmp 37), type := _, pos := _, after := _, guard := _ }) (v := ?_) rfl (by kernel_rfl) (by kernel_rfl) (by kernel_rfl) (fun _ _ _ h => h) (Or.inl ⟨by kernel_rfl, ?_⟩) hHeld ?_
      rotate_left
      ·intro w hSw
       go_simp
       first | done | with_reducible rfl
      simp only [Act.put]
      try simp only [List.setIfInBounds_toArray]
      refine wpAnyH_done (by kernel_rfl) ?_ _
      clear hHeld
      have d4 := P6.out.cell 4
      have x0 := PZ.out.cell 0; have x1 := PZ.out.cell 1; have x2 := PZ.out.cell 2; have x3 := PZ.out.cell 3
      unfold pwC at d4
      simp only [List.getElem?_toArray, List.getElem?_cons_zero, List.getElem?_cons_succ] at d4 x0 x1 x2 x3
      obtain ⟨o, ho, hmv⟩ := deleteV_run P1.out.mp y
      have hs1 := fun k ty => ho k ty w7 rfl
      unfold ndV at hs1
      obtain ⟨es, c, hobj⟩ := P1.out.mp.obj
      have hnb : ∀ {b : Nat} {cs : Array Value} {t : TypeId}, Blk w7 b cs t → b ≠ bm := fun {b cs t} hb e => by
       subst e
       unfold Blk at hb
       rw [hobj] at hb
       cases hb
      have Q1 := Lib.hid (P1.out.del y (hmv w7 P1.out.mp.lt))
      have Q2 : Hid (NStk (setBlock w7 bm o) BB v' (l.reverse ++ s)) := own_setB P2.out (P1.out.own_ne P2.out) o
      have Q4 := Lib.hid (below_setB P4.out P1.out.lm o)
      have Q6 := Lib.hid (Blk.setB' P6.out (hnb P6.out) o)
      have Q7 : Hid (∀ b cs, Blk w0 b cs 171 → Blk (setBlock w7 bm o) b cs 171) := fun b cs h => Blk.setB' (P7.out b cs h) (hnb (P7.out b cs h)) o
      have Q5 : Hid (Apart (fun q => if y = q then none else f' q) v'.ownBlock) := Apart.sub P5.out (fun q u hq => by
       split at hq
       ·cases hq
       ·exact .inr hq)
      clear ho hmv hobj hnb P1 P2 P4 P5 P6 P7 PZ
      go_wp2_with fail
      have HM : sumV (uni2 G.length H.length 27) (mvIn (setBlock w7 bm o) bm) + lenOf v' < sumV (uni2 G.length H.length 27) (mvIn wr bm) + lenOf (.slice (some ⟨g, 0, none⟩) (s.length + 1) cap) := by
       rw [Q1.out.sum, HU.out, Q2.out.len]
       exact HP2.out
      exact ⟨⟨_, _, _, Q2, Q1, HP1, Q4, Q5, Q6, Q7⟩, HM⟩
     ·as_aux_lemma =>
      have hl := lookV_run1 hHeld.2.2 y
      unfold ndV at hl
      go_simp
      refine hK.out _ _ hHeld (fun hHeld => ?_)
      clear hl hK K
      try simp only [Act.put]
      refine wpAnyH_ready (rs := [4]) (by kernel_rfl) (by simp) ?_
      refine AllReadyH.cons rfl (fun K hK => ?_) AllReadyH.nil
      go_simp
      go_wp2_with fail
      refine hK.out _ _ hHeld (fun hHeld => ?_)
      clear hK K
      try simp only [Act.put]
      have HRW := Lib.hid (E1.out.row y)
      generalize hl0 : (m' y).getD [] = l at *
      replace hl0 := Lib.hid hl0
      have HL2 : s.reverse.length + l.length ≤ 4000000000 := by
       have h9 := HLB.out
       rw [List.length_reverse]
       omega
      obtain ⟨v', w7, hr7, hv7, hg7, hat7⟩ := append_rows wd 225 E2.out HRW.out HL2 (Nat.le_trans hBB E4.out.size)
      clear HL2
      have P6 := Lib.hid (Blk.grown E6.out hg7 (own_blk E2.out E6.out typ_ne7))
      have PZ := Lib.hid (Blk.grown ZB.out hg7 (fun e => by have e : some g = some nb := e; injection e with e; have := HGL.out; omega))
      have P1 := Lib.hid (E1.out.grown hg7 R5.out (E1.out.own_ne E2.out))
      have P2 : Hid (NStk w7 BB v' (l.reverse ++ s)) := by
       show NRow _ _ _ _
       rw [List.reverse_append, List.reverse_reverse]
       exact hv7
      have P4 := Lib.hid (E4.out.grown hg7 (Nat.le_trans hBB E4.out.size) (fun k hk => (World.ownsRow.lt E2.out k hk).1))
      have P7 : Hid (∀ b cs, Blk w0 b cs 171 → Blk w7 b cs 171) := fun b cs h => Blk.grown (E7.out b cs h) hg7 (own_blk E2.out (E7.out b cs h) typ_ne7)
      have P5 : Hid (Apart f' v'.ownBlock) := by
       show Apart _ _
       rcases hat7 with e | e
       ·rw [e]; exact R5.out
       ·rw [e]; exact E1.out.apart_new (Nat.le_refl _)
      have HR7 := Lib.hid hr7
      clear hr7 hv7 hg7 hat7 E1 E2 E4 E6 E7 R5 ZB A2 HGL HRW
      refine wpAnyH_ready (rs := [9]) (by kernel_rfl) (by simp) ?_
      refine AllReadyH.cons rfl (fun K hK => ?_) AllReadyH.nil
      refine step_append_run rfl _ _ _ rfl _ _ v' (by simp [Act.eval]) (by simp [Act.eval]) HR7.out ?_
      refine hK.out _ _ ⟨P6.out, PZ.out, P1.out.mp⟩ (fun hHeld => ?_)
      clear hK K HR7
      try simp only [Act.put]
      refine wpAnyH_take (i := 10) (oi := { dst := some 4, op := .assign (.tmp 37), type := _, pos := _, after := _, guard := _ }) (v := ?_) rfl (by kernel_rfl) (by kernel_rfl) (by kernel_rfl) (fun _ _ _ h => h) (Or.inl ⟨by kernel_rfl, ?_⟩) hHeld ?_
      rotate_left
      ·intro w hSw
       go_simp
       first | done | with_reducible rfl
      simp only [Act.put]
      try simp only [List.setIfInBounds_toArray]
      refine wpAnyH_done (by kernel_rfl) ?_ _
      clear hHeld
      have d4 := P6.out.cell 4
      have x0 := PZ.out.cell 0; have x1 := PZ.out.cell 1; have x2 := PZ.out.cell 2; have x3 := PZ.out.cell 3
      unfold pwC at d4
      simp only [List.getElem?_toArray, List.getElem?_cons_zero, List.getElem?_cons_succ] at d4 x0 x1 x2 x3
      obtain ⟨o, ho, hmv⟩ := deleteV_run P1.out.mp y
      have hs1 := fun k ty => ho k ty w7 rfl
      unfold ndV at hs1
      obtain ⟨es, c, hobj⟩ := P1.out.mp.obj
      have hnb : ∀ {b : Nat} {cs : Array Value} {t : TypeId}, Blk w7 b cs t → b ≠ bm := fun {b cs t} hb e => by
       subst e
       unfold Blk at hb
       rw [hobj] at hb
       cases hb
      have Q1 := Lib.hid (P1.out.del y (hmv w7 P1.out.mp.lt))
      have Q2 : Hid (NStk (setBlock w7 bm o) BB v' (l.reverse ++ s)) := own_setB P2.out (P1.out.own_ne P2.out) o
      have Q4 := Lib.hid (below_setB P4.out P1.out.lm o)
      have Q6 := Lib.hid (Blk.setB' P6.out (hnb P6.out) o)
      have Q7 : Hid (∀ b cs, Blk w0 b cs 171 → Blk (setBlock w7 bm o) b cs 171) := fun b cs h => Blk.setB' (P7.out b cs h) (hnb (P7.out b cs h)) o
      have Q5 : Hid (Apart (fun q => if y = q then none else f' q) v'.ownBlock) := Apart.sub P5.out (fun q u hq => by
       split at hq
       ·cases hq
       ·exact .inr hq)
      clear ho hmv hobj hnb P1 P2 P4 P5 P6 P7 PZ
      go_wp2_with fail
      have HM : sumV (uni2 G.length H.length 27) (mvIn (setBlock w7 bm o) bm) + lenOf v' < sumV (uni2 G.length H.length 27) (mvIn wr bm) + lenOf (.slice (some ⟨g, 0, none⟩) (s.length + 1) cap) := by
       rw [Q1.out.sum, HU.out, Q2.out.len]
       exact HP2.out
      exact ⟨⟨_, _, _, Q2, Q1, HP1, Q4, Q5, Q6, Q7⟩, HM⟩
theorem three_new (w : World) (A B C : Array Value) (t u v : TypeId) : Blk (((w.alloc (.cells A t)).alloc (.cells B u)).alloc (.cells C v)) w.heap.size A t ∧ Blk (((w.alloc (.cells A t)).alloc (.cells B u)).alloc (.cells C v)) (w.heap.size + 1) B u ∧ Blk (((w.alloc (.cells A t)).alloc (.cells B u)).alloc (.cells C v)) (w.heap.size + 2) C v ∧ Below w.heap.size w (((w.alloc (.cells A t)).alloc (.cells B u)).alloc (.cells C v)) := by
 obtain ⟨h1, h2, h3⟩ := two_new w A B t u
 have hz : ((w.alloc (.cells A t)).alloc (.cells B u)).heap.size = w.heap.size + 2 := by simp
 have h4 := Blk.new ((w.alloc (.cells A t)).alloc (.cells B u)) C v
 rw [hz] at h4
 exact ⟨h1.alloc _, h2.alloc _, h4, h3.alloc h3.size _⟩
set_option maxRecDepth 1000000 in
set_option maxHeartbeats 8000000 in
theorem sw_starts (rb n1 cap1 rb2 n2 cap2 sl sr bm : Nat) (f : Mv) (w : World) (h : MapV w bm f) :
  Calls Tryz.prog 204 #[.agg (pwC (.slice (some ⟨rb, 0, none⟩) n1 cap1) sl (.slice (some ⟨rb2, 0, none⟩) n2 cap2) sr bm), .func (.func 202) #[.agg (pwC (.slice (some ⟨rb, 0, none⟩) n1 cap1) sl (.slice (some ⟨rb2, 0, none⟩) n2 cap2) sr bm)] #[]] w (RelPost (fun i j => (f ((sl, i), (sr, j))).isSome) w) := by
 obtain ⟨k0, k1, k2, kb⟩ := three_new w (pwC (.slice (some ⟨rb, 0, none⟩) n1 cap1) sl (.slice (some ⟨rb2, 0, none⟩) n2 cap2) sr bm) (relC .u32 noR) (relC .u32 noR) 171 68 68
 have K0 := Lib.hid k0
 have K1 := Lib.hid k1
 have K2 := Lib.hid k2
 have KB := Lib.hid kb
 have HM := Lib.hid h
 clear k0 k1 k2 kb h
 have HEN : ∀ (args : Array Value) (w : World), (callFunc 202 args).run Tryz.prog w = .ok (.enter 202 args) w := fun args w => by kernel_rfl
 unfold pwC at K0 K1 K2 KB ⊢
 go_enter Tryz.func204, Tryz.ntmps204
 go_wp2_with (first
  | (refine r_alloc rfl rfl (some 4) rfl (w.heap.size + 1) (by simp) ?_)
  | (refine r_alloc rfl rfl (some 5) rfl (w.heap.size + 2) (by simp) ?_))
 generalize ((w.alloc (.cells _ 171)).alloc (.cells (relC .u32 noR) 68)).alloc (.cells (relC .u32 noR) 68) = w0 at *
 replace K0 : Hid (Blk w0 w.heap.size (pwC (.slice (some ⟨rb, 0, none⟩) n1 cap1) sl (.slice (some ⟨rb2, 0, none⟩) n2 cap2) sr bm) 171) := K0
 rw [← lowN_zero (fun i j => (f ((sl, i), (sr, j))).isSome)] at K2
 go_loopw [6, 7] (fun _ i wr => ∃ k : Nat, k ≤ 729 ∧ i = .int .i64 k ∧ Hid (Blk wr w.heap.size (pwC (.slice (some ⟨rb, 0, none⟩) n1 cap1) sl (.slice (some ⟨rb2, 0, none⟩) n2 cap2) sr bm) 171) ∧ Hid (Blk wr (w.heap.size + 1) (relC .u32 noR) 68) ∧ Hid (Blk wr (w.heap.size + 2) (relC .u32 (lowN (fun i j => (f ((sl, i), (sr, j))).isSome) k)) 68) ∧ Hid (Below w.heap.size w wr)) (fun _ i _ => 729 - (intOf i).toNat)
 case atStart => exact ⟨0, by omega, rfl, K0, K1, K2, KB⟩
 case round =>
  clear K0 K1 K2 KB
  obtain ⟨n, hn, rfl, R0, R1, R2, RB⟩ := hrel
  by_cases hlt : n < 729
  ·as_aux_lemma =>
   obtain ⟨i, j, hi, hj, hne⟩ : ∃ i j, i < 27 ∧ j < 27 ∧ n = i + 27 * j := ⟨n % 27, n / 27, by omega, by omega, by omega⟩
   have P1 := fun w => Lib.hid (startOf_any (.slice (some ⟨rb, 0, none⟩) n1 cap1) (.slice (some ⟨rb2, 0, none⟩) n2 cap2) sl sr bm ⟨_, _, _, rfl⟩ ⟨_, _, _, rfl⟩ i j hi hj w)
   have P2 := fun w' (hb : Below w.heap.size w w') => Lib.hid (keeps_pt (.slice (some ⟨rb, 0, none⟩) n1 cap1) (.slice (some ⟨rb2, 0, none⟩) n2 cap2) sl sr bm (f := f) ((sl, i), (sr, j)) w' (HM.out.kept hb))
   have P3 := fun w => Lib.hid (rel_with (lowN (fun i j => (f ((sl, i), (sr, j))).isSome) (i + 27 * j)) i j hi hj w)
   have LN := fun h => Lib.hid (lowN_no (T := fun i j => (f ((sl, i), (sr, j))).isSome) hi (j := j) h)
   have LY := fun h => Lib.hid (lowN_yes (T := fun i j => (f ((sl, i), (sr, j))).isSome) hi (j := j) h)
   rw [← hne] at P1 P3 LN LY
   have hl : (n : Int) < 729 := by omega
   clear hne
   generalize hz : (((sl, i), (sr, j)) : Nd) = z at *
   unfold NdIs at P1
   unfold ndV at P1 P2
   try unfold pwC at P1
   unfold pwC at P2
   generalize hbb : (f z).isSome = bb at *
   have N0 := Lib.hid R0.out.drew
   have N1 := Lib.hid R1.out.drew
   have N2 := Lib.hid R2.out.drew
   have NB := Lib.hid RB.out.drew
   clear R0 R1 R2 RB
   go_wp2_with fail
   refine wp_region_held_drew (S := fun w' => Blk w' w.heap.size (pwC (.slice (some ⟨rb, 0, none⟩) n1 cap1) sl (.slice (some ⟨rb2, 0, none⟩) n2 cap2) sr bm) 171) (by kernel_rfl) N0.out (fun hHeld => ?_)
   generalize wr.drew = wd at *
   refine wpAnyH_take (i := 0) (oi := { dst := some 10, op := _, type := _, pos := _, after := _, guard := _ }) (v := ?_) rfl (by kernel_rfl) (by kernel_rfl) (by kernel_rfl) (fun _ _ _ h => h) (Or.inl ⟨by kernel_rfl, ?_⟩) hHeld ?_
   rotate_left
   ·intro w hSw
    have d0 := hSw.cell 0
    have d1 := hSw.cell 1
    have d2 := hSw.cell 2
    have d3 := hSw.cell 3
    have d4 := hSw.cell 4
    unfold pwC at d0 d1 d2 d3 d4
    simp only [List.getElem?_toArray, List.getElem?_cons_zero, List.getElem?_cons_succ] at d0 d1 d2 d3 d4
    go_simp
    first | done | with_reducible rfl
   simp only [Act.put]
   refine wpAnyH_take (i := 1) (oi := { dst := some 11, op := _, type := _, pos := _, after := _, guard := _ }) (v := ?_) rfl (by kernel_rfl) (by kernel_rfl) (by kernel_rfl) (fun _ _ _ h => h) (Or.inl ⟨by kernel_rfl, ?_⟩) hHeld ?_
   rotate_left
   ·intro w hSw
    go_simp
    first | done | with_reducible rfl
   simp only [Act.put]
   refine wpAnyH_take (i := 2) (oi := { dst := some 12, op := _, type := _, pos := _, after := _, guard := _ }) (v := ?_) rfl (by kernel_rfl) (by kernel_rfl) (by kernel_rfl) (fun _ _ _ h => h) (Or.inl ⟨by kernel_rfl, ?_⟩) hHeld ?_
   rotate_left
   ·intro w hSw
    go_simp
    first | done | with_reducible rfl
   simp only [Act.put]
   refine wpAnyH_ready (rs := [3]) (by kernel_rfl) (by simp) ?_
   refine AllReadyH.cons rfl (fun K hK => ?_) AllReadyH.nil
   go_simp
   refine (P1 wd).out.mono ?_
   rintro e w6 ⟨rfl, hb⟩
   have M0 := Lib.hid (N0.out.kept hb)
   have M1 := Lib.hid (N1.out.kept hb)
   have M2 := Lib.hid (N2.out.kept hb)
   have MB := Lib.hid (bnext NB.out hb)
   clear hb N0 N1 N2 NB P1
   go_wp2_with fail
   refine hK.out _ _ M0.out (fun hHeld => ?_)
   clear hK K
   try simp only [Act.put]
   refine wpAnyH_ready (rs := [4]) (by kernel_rfl) (by simp) ?_
   refine AllReadyH.cons rfl (fun K hK => ?_) AllReadyH.nil
   go_simp
   refine (P2 w6 MB.out).out.mono ?_
   rintro e w7 ⟨rfl, hb⟩
   have L0 := Lib.hid (M0.out.kept hb)
   have L1 := Lib.hid (M1.out.kept hb)
   have L2 := Lib.hid (M2.out.kept hb)
   have LB := Lib.hid (bnext MB.out hb)
   clear hb M0 M1 M2 MB P2
   go_wp2_with fail
   refine hK.out _ _ L0.out (fun hHeld => ?_)
   clear hK K
   try simp only [Act.put]
   refine wpAnyH_done (by kernel_rfl) ?_ _
   clear hHeld
   cases bb with
   | false =>
    have HN := LN rfl
    clear LN LY P3 hbb hz
    go_wp2_with fail
    exact ⟨⟨n + 1, by omega, by go_num, L0, L1, by rw [← HN.out]; exact L2, LB⟩, by simp [intOf]; omega⟩
   | true =>
    have HN := LY rfl
    clear LN LY hbb hz
    go_wp2_with (refine wpList_load_row rfl 68 _ rfl (w.heap.size + 2) (by rfl) 68 (relC .u32 (lowN (fun i j => (f ((sl, i), (sr, j))).isSome) n)) (0, 0) _ L2.out undR rfl (infoR _) ?_)
    refine (P3 _).out.mono ?_
    rintro e w8 ⟨rfl, hb⟩
    replace L0 := Lib.hid (L0.out.kept hb)
    replace L1 := Lib.hid (L1.out.kept hb)
    replace L2 := Lib.hid (L2.out.kept hb)
    replace LB := Lib.hid (bnext LB.out hb)
    clear hb P3
    rw [HN.out]
    go_wp2_with (refine wpList_store_row rfl 68 _ _ rfl (w.heap.size + 2) (relC .u32 (lowN (fun i j => (f ((sl, i), (sr, j))).isSome) (n + 1))) (by rfl) (by rfl) 68 (relC .u32 (lowN (fun i j => (f ((sl, i), (sr, j))).isSome) n)) L2.out (infoR _) (by rw [relC_size, relC_size]) (relC_one _ _) ?_)
    exact ⟨⟨n + 1, by omega, by go_num, Lib.hid (L0.out.rowOther (by omega) _), Lib.hid (L1.out.rowOther (by omega) _), Lib.hid (L2.out.row _), Lib.hid (Below.setRow LB.out (by omega) _)⟩, by simp [intOf]; omega⟩
  ·as_aux_lemma =>
   have hk2 : n = 729 := by omega
   subst hk2
   have R := R2.out
   rw [lowN_all] at R
   replace R2 := Lib.hid R
   clear R
   go_wp2_with (first
    | (refine wpList_load_row rfl 68 _ rfl (w.heap.size + 2) (by rfl) 68 (relC .u32 (fun i j => (f ((sl, i), (sr, j))).isSome)) (0, 0) _ R2.out undR rfl (infoR _) ?_)
    | (refine wpList_store_row rfl 68 _ _ rfl (w.heap.size + 1) (relC .u32 (fun i j => (f ((sl, i), (sr, j))).isSome)) (by rfl) (by rfl) 68 (relC .u32 noR) R1.out (infoR _) (by rw [relC_size, relC_size]) (relC_one _ _) ?_))
   exact bodyPost_ret (v := .agg (relC .u32 (fun i j => (f ((sl, i), (sr, j))).isSome))) (results_cell_row rfl _ _ (w.heap.size + 1) 68 _ (0, 0) _ (by rfl) (R1.out.row _) undR rfl (infoR _)) rfl ⟨rfl, Below.setRow RB.out (by omega) _⟩
set_option maxRecDepth 1000000 in
set_option maxHeartbeats 4000000 in
theorem starts_any (rb n1 cap1 rb2 n2 cap2 sl sr bm : Nat) (f : Mv) (w : World) (h : MapV w bm f) :
  Calls Tryz.prog 148 #[.agg (pwC (.slice (some ⟨rb, 0, none⟩) n1 cap1) sl (.slice (some ⟨rb2, 0, none⟩) n2 cap2) sr bm)] w (RelPost (fun i j => (f ((sl, i), (sr, j))).isSome) w) := by
 obtain ⟨k0, k1, kb⟩ := two_new w (pwC (.slice (some ⟨rb, 0, none⟩) n1 cap1) sl (.slice (some ⟨rb2, 0, none⟩) n2 cap2) sr bm) (relC .u32 noR) 171 68
 have HS := Lib.hid (sw_starts rb n1 cap1 rb2 n2 cap2 sl sr bm f _ (h.kept kb))
 have K0 := Lib.hid k0
 have K1 := Lib.hid k1
 have KB := Lib.hid kb
 clear k0 k1 kb h
 generalize (fun i j => (f ((sl, i), (sr, j))).isSome) = R at *
 unfold pwC at K0 K1 KB HS ⊢
 go_enter Tryz.func148, Tryz.ntmps148
 go_wp2_with (refine r_alloc rfl rfl (some 2) rfl (w.heap.size + 1) (by simp) ?_)
 have d0 := K0.out.cell 0; have d1 := K0.out.cell 1; have d2 := K0.out.cell 2; have d3 := K0.out.cell 3; have d4 := K0.out.cell 4
 simp only [List.getElem?_toArray, List.getElem?_cons_zero, List.getElem?_cons_succ] at d0 d1 d2 d3 d4
 generalize (w.alloc (.cells _ 171)).alloc (.cells (relC .u32 noR) 68) = w0 at *
 go_wp2_with fail
 refine HS.out.mono ?_
 rintro e w2 ⟨rfl, hb⟩
 have L1 := Lib.hid (K1.out.kept hb)
 have LB := Lib.hid (bnext KB.out hb)
 clear hb K0 K1 KB d0 d1 d2 d3 d4 HS
 go_wp2_with (refine wpList_store_row rfl 68 _ _ rfl (w.heap.size + 1) (relC .u32 R) (by rfl) (by rfl) 68 (relC .u32 noR) L1.out (infoR _) (by rw [relC_size, relC_size]) (relC_one _ _) ?_)
 exact bodyPost_ret (v := .agg (relC .u32 R)) (results_cell_row rfl _ _ (w.heap.size + 1) 68 _ (0, 0) _ (by rfl) (L1.out.row _) undR rfl (infoR _)) rfl ⟨rfl, Below.setRow LB.out (by omega) _⟩
theorem yields_row {ops : Array Oper} {S : World → Prop} {op : Oper} {a : Act} {x : Operand} {t : TypeId} {p : Addr} {v : Value} (hw : Region.wanted op (yielded ops a.tmps) = true) (ho : op.op = .load t x) (hx : a.eval x = .pointer (some p)) (hS : ∀ w, S w → (loadVar t p).run Tryz.prog w = .ok v w) : YieldsIf Tryz.prog ops S op v a :=
 .inl ⟨hw, fun w hw' => by
  unfold execOp
  simp only [ho, hx, Instr.loadAt, Instr.sureAddr, Sem.run_bind, Sem.run_pure, Result.andThen_ok, hS w hw']⟩
theorem frR_not (p q : Pg) (P : Nat → Nat → Bool) : frR p q (fun a c => !(fun a c => !P a c) a c) = frR p q P := by
 simp only [Bool.not_not]
set_option maxRecDepth 1000000 in
set_option maxHeartbeats 8000000 in
theorem freeAmong_any (p q : Pg) (B B' : Nat) (v1 v2 : Value) (F P : Nat → Nat → Bool) (w : World) (hv1 : StV w B p v1) (hv2 : StV w B' q v2) (hp : p.ok false) (hq : q.ok false) (hl : p.all.length ≤ 1100) (hm : q.all.length ≤ 1100) :
  Calls Tryz.prog 77 #[.agg (relC .u32 F), v1, v2, .agg (relC .u32 P)] w (RelPost (fun i j => frR p q P i j && F i j) w) := by
 obtain ⟨k0, k1, k2, kb⟩ := three_new w (relC .u32 F) (relC .u32 P) (relC .u32 noR) 68 68 68
 have HW := Lib.hid (walkPairs_any p q B B' v1 v2 F _ (hv1.below kb) (hv2.below kb) hp hq hl hm)
 have K0 := Lib.hid k0
 have K1 := Lib.hid k1
 have K2 := Lib.hid k2
 have KB := Lib.hid kb
 have hz : (((w.alloc (.cells (relC .u32 F) 68)).alloc (.cells (relC .u32 P) 68)).alloc (.cells (relC .u32 noR) 68)).heap.size = w.heap.size + 3 := by simp
 clear k0 k1 k2 kb hv1 hv2
 go_enter Tryz.func77, Tryz.ntmps77
 go_wp2_with (first
  | (refine wpList_boxTo rfl 68 _ rfl (some 4) rfl w.heap.size rfl (relC .u32 F) (by rfl) ?_)
  | (refine wpList_boxTo rfl 68 _ rfl (some 7) rfl (w.heap.size + 1) (by simp) (relC .u32 P) (by rfl) ?_)
  | (refine r_alloc rfl rfl (some 8) rfl (w.heap.size + 2) (by simp) ?_)
  | (refine wpList_load_row rfl 68 _ rfl w.heap.size (by rfl) 68 (relC .u32 F) (0, 0) _ K0.out undR rfl (infoR _) ?_))
 generalize ((w.alloc (.cells (relC .u32 F) 68)).alloc (.cells (relC .u32 P) 68)).alloc (.cells (relC .u32 noR) 68) = w0 at *
 refine HW.out.mono ?_
 rintro e w2 ⟨spL, spR, bm, m, f, rfl, hbf, hgn, ⟨rb, n1, cap1, rfl⟩, ⟨rb2, n2, cap2, rfl⟩, hb, hT, hU, hG, hH⟩
 rw [hz] at hbf
 have HG := Lib.hid hgn
 have HTU : Hid (Top (flG p) ∧ Top (flG q)) := ⟨hT, hU⟩
 have bb := (Below.refl w2.heap.size w2).alloc (Nat.le_refl _) (.cells (pwC (.slice (some ⟨rb, 0, none⟩) n1 cap1) (flS p) (.slice (some ⟨rb2, 0, none⟩) n2 cap2) (flS q) bm) 171)
 have L0 := Lib.hid (((K0.out.kept hb).kept bb).drew)
 have L1 := Lib.hid (((K1.out.kept hb).kept bb).drew)
 have L2 := Lib.hid (((K2.out.kept hb).kept bb).drew)
 have L3 := Lib.hid ((Blk.new w2 (pwC (.slice (some ⟨rb, 0, none⟩) n1 cap1) (flS p) (.slice (some ⟨rb2, 0, none⟩) n2 cap2) (flS q) bm) 171).drew)
 have LF := Lib.hid ((hbf.kept bb).kept (Below.refl _ _).drew)
 have LB := Lib.hid ((bnext (bnext KB.out hb) bb).drew)
 have LZ : Hid (w.heap.size + 3 ≤ (w2.alloc (.cells (pwC (.slice (some ⟨rb, 0, none⟩) n1 cap1) (flS p) (.slice (some ⟨rb2, 0, none⟩) n2 cap2) (flS q) bm) 171)).drew.heap.size) := by
  show _ ≤ _
  rw [← hz]
  exact Nat.le_trans hb.size (by have := bb.size; exact this)
 have HA := fun w' (h1 : BefW w' (w.heap.size + 3) bm m f) (h2 : w.heap.size + 3 ≤ w'.heap.size) => Lib.hid (avoid_any hG hH (fun a c => !P a c) rb n1 cap1 rb2 n2 cap2 (flS p) (flS q) bm (w.heap.size + 3) m f w' h1 h2 hgn.wk)
 have HN := fun w => Lib.hid (rel_not P w)
 have LZ0 : Hid (w.heap.size + 3 ≤ w2.heap.size) := by
  show _ ≤ _
  rw [← hz]
  exact hb.size
 clear hbf hgn hT hU hG hH hb bb K0 K1 K2 KB HW hz
 unfold pwC at L0 L1 L2 L3 LF LB LZ ⊢
 go_wp2_with fail
 generalize w2.alloc (.cells _ 171) = wx at *
 have HNB : Hid (w2.heap.size ≠ w.heap.size + 2) := by
  show _ ≠ _
  have := LZ0.out
  omega
 generalize w2.heap.size = nb at *
 replace L3 : Hid (Blk wx.drew nb (pwC (.slice (some ⟨rb, 0, none⟩) n1 cap1) (flS p) (.slice (some ⟨rb2, 0, none⟩) n2 cap2) (flS q) bm) 171) := L3
 refine wp_region_held_drew (S := fun w' => Blk w' nb (pwC (.slice (some ⟨rb, 0, none⟩) n1 cap1) (flS p) (.slice (some ⟨rb2, 0, none⟩) n2 cap2) (flS q) bm) 171 ∧ Blk w' (w.heap.size + 1) (relC .u32 P) 68) (by kernel_rfl) ⟨L3.out, L1.out⟩ (fun hHeld => ?_)
 replace L3 := Lib.hid hHeld.1
 replace L1 := Lib.hid hHeld.2
 generalize wx.drew = wd at *
 refine wpAnyH_take (i := 0) (oi := { dst := some 14, op := _, type := _, pos := _, after := _, guard := _ }) (v := ?_) rfl (by kernel_rfl) (by kernel_rfl) (by kernel_rfl) (fun _ _ _ h => h) (Or.inl ⟨by kernel_rfl, ?_⟩) hHeld ?_
 rotate_left
 ·intro w hSw
  have d0 := hSw.1.cell 0
  have d1 := hSw.1.cell 1
  have d2 := hSw.1.cell 2
  have d3 := hSw.1.cell 3
  have d4 := hSw.1.cell 4
  unfold pwC at d0 d1 d2 d3 d4
  simp only [List.getElem?_toArray, List.getElem?_cons_zero, List.getElem?_cons_succ] at d0 d1 d2 d3 d4
  go_simp
  first | done | with_reducible rfl
 simp only [Act.put]
 refine wpAnyH_take (i := 1) (v := .agg (relC .u32 P)) rfl (by kernel_rfl) (by kernel_rfl) (by kernel_rfl) (fun _ _ _ h => h) (yields_row (by rfl) rfl rfl fun w hSw => r_load hSw.2) hHeld ?_
 simp only [Act.put]
 refine wpAnyH_ready (rs := [2]) (by kernel_rfl) (by simp) ?_
 refine AllReadyH.cons rfl (fun K hK => ?_) AllReadyH.nil
 go_simp
 refine (HN wd).out.mono ?_
 rintro e w3 ⟨rfl, hb⟩
 have M0 := Lib.hid (L0.out.kept hb)
 have M1 := Lib.hid (L1.out.kept hb)
 have M2 := Lib.hid (L2.out.kept hb)
 have M3 := Lib.hid (L3.out.kept hb)
 have MF := Lib.hid (LF.out.kept hb)
 have MB := Lib.hid (bnext LB.out hb)
 have MZ := Lib.hid (Nat.le_trans LZ.out hb.size)
 clear hb L0 L1 L2 L3 LF LB LZ HN
 go_wp2_with fail
 refine hK.out _ _ ⟨M3.out, M1.out⟩ (fun hHeld => ?_)
 clear hK K
 try simp only [Act.put]
 refine wpAnyH_ready (rs := [3]) (by kernel_rfl) (by simp) ?_
 refine AllReadyH.cons rfl (fun K hK => ?_) AllReadyH.nil
 go_simp
 refine (HA w3 MF.out MZ.out).out.mono ?_
 rintro e w4 ⟨rfl, m', f', hbf, hav, hbl, hpk⟩
 have N0 : Hid (Blk w4 w.heap.size (relC .u32 F) 68) := (hbl.block w.heap.size (by omega)).trans M0.out
 have N1 : Hid (Blk w4 (w.heap.size + 1) (relC .u32 P) 68) := (hbl.block (w.heap.size + 1) (by omega)).trans M1.out
 have N2 : Hid (Blk w4 (w.heap.size + 2) (relC .u32 noR) 68) := (hbl.block (w.heap.size + 2) (by omega)).trans M2.out
 have N3 := Lib.hid (hpk _ _ M3.out)
 have NF := Lib.hid hbf
 have NB := Lib.hid (MB.out.trans (hbl.mono (by omega)))
 have HV : Hid (∀ i, i < 27 → ∀ j, j < 27 → ((f' ((flS p, i), (flS q, j))).isSome && F i j) = (frR p q P i j && F i j)) := fun i hi j hj => by
  cases hF : F i j
  ·simp
  ·rw [hbf.isSome]
   have := free_at HTU.out.1 HTU.out.2 HG.out hav hi hj hF
   rw [frR_not] at this
   unfold stN at this
   rw [this]
 clear hbf hav hbl hpk M0 M1 M2 M3 MF MB MZ HA HG HTU
 go_wp2_with fail
 refine hK.out _ _ ⟨N3.out, N1.out⟩ (fun hHeld => ?_)
 clear hK K
 try simp only [Act.put]
 refine wpAnyH_done (by kernel_rfl) ?_ _
 clear hHeld
 have HS := fun w' (h : MapV w' bm f') => Lib.hid (starts_any rb n1 cap1 rb2 n2 cap2 (flS p) (flS q) bm f' w' h)
 have HC := fun w => Lib.hid (rel_and (fun i j => (f' ((flS p, i), (flS q, j))).isSome) F w)
 have HR := relC_congr (k := .u32) HV.out
 have O0 := Lib.hid N0.out.drew
 have O2 := Lib.hid N2.out.drew
 have O3 := Lib.hid N3.out.drew
 have OF := Lib.hid (NF.out.kept (Below.refl _ _).drew)
 have OB := Lib.hid NB.out.drew
 clear N0 N1 N2 N3 NF NB HV
 go_wp2_with fail
 refine wp_region_held_drew (S := fun w' => Blk w' nb (pwC (.slice (some ⟨rb, 0, none⟩) n1 cap1) (flS p) (.slice (some ⟨rb2, 0, none⟩) n2 cap2) (flS q) bm) 171 ∧ Blk w' w.heap.size (relC .u32 F) 68) (by kernel_rfl) ⟨O3.out, O0.out⟩ (fun hHeld => ?_)
 generalize w4.drew = we at *
 refine wpAnyH_take (i := 0) (oi := { dst := some 18, op := _, type := _, pos := _, after := _, guard := _ }) (v := ?_) rfl (by kernel_rfl) (by kernel_rfl) (by kernel_rfl) (fun _ _ _ h => h) (Or.inl ⟨by kernel_rfl, ?_⟩) hHeld ?_
 rotate_left
 ·intro w hSw
  have d0 := hSw.1.cell 0
  have d1 := hSw.1.cell 1
  have d2 := hSw.1.cell 2
  have d3 := hSw.1.cell 3
  have d4 := hSw.1.cell 4
  unfold pwC at d0 d1 d2 d3 d4
  simp only [List.getElem?_toArray, List.getElem?_cons_zero, List.getElem?_cons_succ] at d0 d1 d2 d3 d4
  go_simp
  first | done | with_reducible rfl
 simp only [Act.put]
 refine wpAnyH_take (i := 2) (v := .agg (relC .u32 F)) rfl (by kernel_rfl) (by kernel_rfl) (by kernel_rfl) (fun _ _ _ h => h) (yields_row (by rfl) rfl rfl fun w hSw => r_load hSw.2) hHeld ?_
 simp only [Act.put]
 refine wpAnyH_ready (rs := [1]) (by kernel_rfl) (by simp) ?_
 refine AllReadyH.cons rfl (fun K hK => ?_) AllReadyH.nil
 go_simp
 refine (HS we OF.out.mp).out.mono ?_
 rintro e w5 ⟨rfl, hb⟩
 have P0 := Lib.hid (O0.out.kept hb)
 have P2 := Lib.hid (O2.out.kept hb)
 have P3 := Lib.hid (O3.out.kept hb)
 have PB := Lib.hid (bnext OB.out hb)
 clear hb O0 O2 O3 OF OB HS
 go_wp2_with fail
 refine hK.out _ _ ⟨P3.out, P0.out⟩ (fun hHeld => ?_)
 clear hK K
 try simp only [Act.put]
 refine wpAnyH_ready (rs := [3]) (by kernel_rfl) (by simp) ?_
 refine AllReadyH.cons rfl (fun K hK => ?_) AllReadyH.nil
 go_simp
 refine (HC w5).out.mono ?_
 rintro e w6 ⟨rfl, hb⟩
 have Q0 := Lib.hid (P0.out.kept hb)
 have Q2 := Lib.hid (P2.out.kept hb)
 have Q3 := Lib.hid (P3.out.kept hb)
 have QB := Lib.hid (bnext PB.out hb)
 clear hb P0 P2 P3 PB HC
 go_wp2_with fail
 refine hK.out _ _ ⟨Q3.out, Q0.out⟩ (fun hHeld => ?_)
 clear hK K hHeld
 try simp only [Act.put]
 refine wpAnyH_ready (rs := [4]) (by kernel_rfl) (by simp) ?_
 refine AllReadyH.cons rfl (fun K hK => ?_) AllReadyH.nil
 refine step_store_row rfl 68 _ _ rfl (w.heap.size + 2) (relC .u32 (fun i j => frR p q P i j && F i j)) (by rfl) (by rfl) 68 (relC .u32 noR) Q2.out (infoR _) (by rw [relC_size, relC_size]) (relC_one _ _) ?_
 refine hK.out _ _ ⟨Q3.out.rowOther HNB.out _, Q0.out.rowOther (by omega) _⟩ (fun hHeld => ?_)
 clear hK K hHeld
 try simp only [Act.put]
 refine wpAnyH_done (by kernel_rfl) ?_ _
 go_wp2_with fail
 exact bodyPost_ret (v := .agg (relC .u32 (fun i j => frR p q P i j && F i j))) (results_cell_row rfl _ _ (w.heap.size + 2) 68 _ (0, 0) _ (by rfl) (Q2.out.row _) undR rfl (infoR _)) rfl ⟨rfl, Below.setRow QB.out (by omega) _⟩
end Go.Proofs.YtgkoljphndgoeaaGreatDoor
