/-
  A walk along all runs of two programs from the pairs of a relation: impl.walkPairs.
-/
import Derived.Test.YtinjmdjnkneidaaGreatDoorPk4
import Derived.Test.YtinjmdjnkneidaaGreatDoorTopM1
import Derived.Test.YtinjmdjnkneidaaGreatDoorHq
import Derived.Test.YtinjmdjnkneidaaGreatDoorPo
namespace Go.Proofs.YtinjmdjnkneidaaGreatDoor
open Go.RowKit Tm Go.ChangeMaps Go.Great

theorem StopR.kept {w w' : World} {B : Nat} {s : Stp} {x y : Value} (h : StopR w B s x y) (hb : Below w.heap.size w w') : StopR w' B s x y := by
  unfold StopR at h ⊢
  split at h
  · exact h
  · obtain ⟨h4, b, h5, h6⟩ := h
    exact ⟨h4.below hb, b, h5, fun j m hj => ckeep hb (h6 j m hj)⟩
theorem FlowR.kept {w w' : World} {B : Nat} {sp : Value} {G : List Stp} (h : FlowR w B sp G) (hb : Below w.heap.size w w') : FlowR w' B sp G := by
  obtain ⟨rb, cap, hs, hcap, hk⟩ := h
  refine ⟨rb, cap, hs, hcap, fun k s hks => ?_⟩
  obtain ⟨x, y, h1, h2, h3⟩ := hk k s hks
  exact ⟨x, y, ckeep hb h1, ckeep hb h2, h3.kept hb⟩
theorem FlowOk.kept {w w' : World} {B : Nat} {sp : Value} {st : Nat} {G : List Stp} (h : FlowOk false w B sp st G) (hb : Below w.heap.size w w') : FlowOk false w' B sp st G := ⟨h.fl.kept hb, h.ok, h.top, h.sm, h.lt, h.bd⟩
theorem BefW.setOld {w : World} {BB bm : Nat} {m : Mq} {f : Mv} (h : BefW w BB bm m f) {a : Addr} (ha : a.block < BB) (v : Value) : BefW (w.setCell a v) BB bm m f :=
  h.of (Below.heap_setCell _ _ _ _ (by have := h.lm; omega)) fun n u k hu hk => Below.heap_setCell _ _ _ _ (by have := (h.lt hu hk).1; omega)
theorem BefW.mono {w : World} {BB B' bm : Nat} {m : Mq} {f : Mv} (h : BefW w BB bm m f) (hb : B' ≤ BB) : BefW w B' bm m f :=
  ⟨h.mp, fun n l hn => by obtain ⟨v, h1, h2⟩ := h.rw n l hn; exact ⟨v, h1, World.ownsRow.mono h2 hb⟩, h.no, h.dj, Nat.le_trans hb h.lm⟩
/-- What a walk of two programs leaves. -/
def WpPost (p q : Pg) (A : Nat → Nat → Bool) (w : World) (e : Ending) (w' : World) : Prop :=
  ∃ spL spR bm m f, e = .returned (.agg (pwC spL (flS p) spR (flS q) bm)) ∧ BefW w' w.heap.size bm m f ∧ Gn p q A 729 m ∧ (∃ rb n cap, spL = .slice (some ⟨rb, 0, none⟩) n cap) ∧ (∃ rb n cap, spR = .slice (some ⟨rb, 0, none⟩) n cap) ∧ Below w.heap.size w w' ∧ (Top (flG p) ∧ Top (flG q) ∧ (flG p).length ≤ 1200 ∧ (flG q).length ≤ 1200)
theorem fl_top {p : Pg} {w : World} {B : Nat} {sp : Value} (h : FlowOk false w B sp (flS p) (flG p)) : Top (flG p) := h.top

set_option maxRecDepth 1000000 in
set_option maxHeartbeats 8000000 in
theorem walkPairs_any (p q : Pg) (B B' : Nat) (v1 v2 : Value) (A : Nat → Nat → Bool) (w : World) (hv1 : StV w B p v1) (hv2 : StV w B' q v2) (hp : p.ok false) (hq : q.ok false) (hl : p.all.length ≤ 1100) (hm : q.all.length ≤ 1100) :
    Calls Tryz.prog 53 #[v1, v2, .agg (relC .u32 A)] w (WpPost p q A w) := by
  have hmm := @run_makeMap Tryz.prog
  obtain ⟨k0, k1, kb⟩ := two_new w (relC .u32 A) #[.slice none 0 0, .int .i64 0, .slice none 0 0, .int .i64 0, .map none] 46 64
  have F1 := Lib.hid (flowOf_any p B v1 _ (hv1.below kb) hp hl)
  have F2 := fun w' (h : Below w.heap.size w w') => Lib.hid (flowOf_any q B' v2 w' (hv2.below h) hq hm)
  have K0 := Lib.hid k0
  have K1 := Lib.hid k1
  have KB := Lib.hid kb
  have hz : ((w.alloc (.cells (relC .u32 A) 46)).alloc (.cells #[.slice none 0 0, .int .i64 0, .slice none 0 0, .int .i64 0, .map none] 64)).heap.size = w.heap.size + 2 := by simp
  clear k0 k1 kb hv1 hv2
  go_enter Tryz.func53, Tryz.ntmps53
  go_wp2_with (refine wpList_boxTo rfl 46 _ rfl (some 5) rfl w.heap.size rfl (relC .u32 A) (by rfl) ?_)
  generalize (w.alloc (.cells (relC .u32 A) 46)).alloc (.cells _ 64) = w0 at *
  go_wp2_with fail
  refine F1.out.mono ?_
  rintro e w2 ⟨rb, cap, rfl, hf1, hb1⟩
  have B2 := Lib.hid (bnext KB.out hb1)
  have E1 := Lib.hid hf1
  have Q0 := Lib.hid (K0.out.kept hb1)
  have Q1 := Lib.hid (K1.out.kept hb1)
  have HZ := Lib.hid hb1.size
  clear hf1 hb1 F1 KB K0 K1
  go_wp2_with fail
  refine (F2 _ B2.out).out.mono ?_
  rintro e w3 ⟨rb2, cap2, rfl, hf2, hb2⟩
  have HF := Lib.hid (E1.out.kept hb2).flown1
  have HH := Lib.hid hf2.flown1
  have B3 := Lib.hid (bnext B2.out hb2)
  have R0 := Q0.out.kept hb2
  have R1 := Q1.out.kept hb2
  have HZ3 : Hid (w.heap.size + 2 ≤ w3.heap.size) := by show _ ≤ _; rw [← hz]; exact Nat.le_trans HZ.out hb2.size
  clear hf2 hb2 E1 Q0 Q1 HZ B2 hz F2
  have m2 : (w3.alloc (.map #[] 0)).heap[w3.heap.size]? = some (.map #[] 0) := by show (w3.heap.push _)[w3.heap.size]? = _; simp
  have b2 := (Below.refl w3.heap.size w3).alloc (Nat.le_refl _) (.map #[] 0)
  have z2 : (w3.alloc (.map #[] 0)).heap.size = w3.heap.size + 1 := by simp
  have hmp : MapV (w3.alloc (.map #[] 0)) w3.heap.size (fun _ => none) := ⟨#[], 0, [], m2, rfl, by simp, fun _ => rfl⟩
  have kb := Blk.new (w3.alloc (.map #[] 0)) (pwC (.slice (some ⟨rb, 0, none⟩) (flG p).length cap) (flS p) (.slice (some ⟨rb2, 0, none⟩) (flG q).length cap2) (flS q) w3.heap.size) 64
  have bb := (Below.refl (w3.alloc (.map #[] 0)).heap.size (w3.alloc (.map #[] 0))).alloc (Nat.le_refl _) (.cells (pwC (.slice (some ⟨rb, 0, none⟩) (flG p).length cap) (flS p) (.slice (some ⟨rb2, 0, none⟩) (flG q).length cap2) (flS q) w3.heap.size) 64)
  rw [z2] at kb
  have T1 : Hid (BefW ((w3.alloc (.map #[] 0)).alloc (.cells (pwC (.slice (some ⟨rb, 0, none⟩) (flG p).length cap) (flS p) (.slice (some ⟨rb2, 0, none⟩) (flG q).length cap2) (flS q) w3.heap.size) 64)) w3.heap.size w3.heap.size (fun _ => none) (fun _ => none)) :=
    ⟨hmp.kept bb, fun n l h => (by cases h), fun n _ => rfl, fun n n' v v' _ h => (by cases h), Nat.le_refl _⟩
  have T2 := Lib.hid ((R0.kept b2).kept bb)
  have T3 := Lib.hid ((R1.kept b2).kept bb)
  have T4 := Lib.hid kb
  have T5 := Lib.hid (bnext b2 bb)
  have T6 := Lib.hid (bnext (bnext B3.out b2) bb)
  have HB3 := B3.out.size
  clear m2 b2 z2 hmp kb bb R0 R1
  unfold pwC at T1 T2 T3 T4 T5 T6
  go_wp2_with fail
  generalize (w3.alloc (.map #[] 0)).alloc (.cells _ 64) = w4 at *
  generalize hbm : w3.heap.size = bm at *
  replace T4 : Hid (Blk w4 (bm + 1) (pwC (.slice (some ⟨rb, 0, none⟩) (flG p).length cap) (flS p) (.slice (some ⟨rb2, 0, none⟩) (flG q).length cap2) (flS q) bm) 64) := T4
  go_loopw [8, 15] (fun _ i wr => ∃ k : Nat, k ≤ 729 ∧ i = .int .i64 k ∧ ∃ m f, Hid (BefW wr bm bm m f) ∧ Hid (Gn p q A k m) ∧ Hid (Blk wr w.heap.size (relC .u32 A) 46) ∧ Hid (Blk wr (w.heap.size + 1) #[.slice none 0 0, .int .i64 0, .slice none 0 0, .int .i64 0, .map none] 64) ∧ Hid (Blk wr (bm + 1) (pwC (.slice (some ⟨rb, 0, none⟩) (flG p).length cap) (flS p) (.slice (some ⟨rb2, 0, none⟩) (flG q).length cap2) (flS q) bm) 64) ∧ Hid (Below bm w3 wr) ∧ Hid (Below w.heap.size w wr)) (fun _ i _ => 729 - (intOf i).toNat)
  case atStart => exact ⟨0, by omega, rfl, _, _, T1, Gn.zero p q A, T2, T3, T4, T5, T6⟩
  case round =>
    clear T1 T2 T3 T4 T5 T6
    obtain ⟨n, hn, rfl, m, f, R1, RG, R2, R3, R4, R5, R6⟩ := hrel
    by_cases hlt : n < 729
    · obtain ⟨i, j, hi, hj, hne⟩ : ∃ i j, i < 27 ∧ j < 27 ∧ n = i + 27 * j := ⟨n % 27, n / 27, by omega, by omega, by omega⟩
      have P1 := fun w => Lib.hid (rel_hasn A i j hi hj w)
      rw [← hne] at P1
      cases hA : A i j with
      | false =>
        as_aux_lemma =>
        rw [hA] at P1
        have HG := RG.out
        rw [hne] at HG
        replace HG := HG.skip hi hA
        rw [← hne] at HG
        replace HG := Lib.hid HG
        clear hA RG hne
        go_wp2_with (refine wpList_load_row rfl 46 _ rfl w.heap.size (by rfl) 46 (relC .u32 A) (0, 0) _ R2.out undR rfl (infoR _) ?_)
        refine (P1 _).out.mono ?_
        rintro e w5 ⟨rfl, hb⟩
        have N1 := Lib.hid (R1.out.kept hb)
        have N2 := Lib.hid (R2.out.kept hb)
        have N3 := Lib.hid (R3.out.kept hb)
        have N4 := Lib.hid (R4.out.kept hb)
        have N5 := Lib.hid (R5.out.trans (hb.mono (by have := R1.out.mp.lt; omega)))
        have N6 := Lib.hid (bnext R6.out hb)
        clear R1 R2 R3 R4 R5 R6 hb P1
        go_wp2_with fail
        exact ⟨⟨n + 1, by omega, by go_num, m, f, N1, HG, N2, N3, N4, N5, N6⟩, by simp [intOf]; omega⟩
      | true =>
        as_aux_lemma =>
        rw [hA] at P1
        have HT : stT p q A (n + 1) (stN p q i j) := ⟨i, j, hi, hj, by omega, hA, rfl⟩
        have HU : stN p q i j ∈ uni2 (flG p).length (flG q).length 27 := mem_uni2.2 ⟨⟨HF.out.lt, hi⟩, HH.out.lt, hj⟩
        have HS := fun w => Lib.hid (startOf_any (.slice (some ⟨rb, 0, none⟩) (flG p).length cap) (.slice (some ⟨rb2, 0, none⟩) (flG q).length cap2) (flS p) (flS q) bm ⟨_, _, _, rfl⟩ ⟨_, _, _, rfl⟩ i j hi hj w)
        rw [← hne] at HS
        have HW : Wlk mdl (flG p) (flG q) 27 (stT p q A (n + 1)) m [] none [] := RG.out.wk.mono stT_mono
        have HGs : ∀ m' : Mq, Wlk mdl (flG p) (flG q) 27 (stT p q A (n + 1)) m' [] none [] → m' (stN p q i j) ≠ none → (∀ n, m n ≠ none → m' n ≠ none) → Gn p q A (n + 1) m' := fun m' h1 h2 h3 => by
          have := RG.out
          rw [hne] at this h1 ⊢
          exact this.step hi h1 h2 h3
        have HD := fun w' (h1 : BefW w' bm bm m f) (h2 : Below bm w3 w') => Lib.hid (pf_any HF.out HH.out (stT p q A (n + 1)) w' bm bm m f (stN p q i j) HT HU h1 (Nat.le_of_lt h1.mp.lt) (by rw [hbm]; exact h2) (by rw [hbm]; exact Nat.le_refl _) HW)
        replace HGs := Lib.hid HGs
        clear hA RG hne HT HU HW
        go_wp2_with (refine wpList_load_row rfl 46 _ rfl w.heap.size (by rfl) 46 (relC .u32 A) (0, 0) _ R2.out undR rfl (infoR _) ?_)
        refine (P1 _).out.mono ?_
        rintro e w5 ⟨rfl, hb⟩
        have hb' := hb.drew
        have N1 := Lib.hid (R1.out.kept hb')
        have N2 := Lib.hid (R2.out.kept hb')
        have N3 := Lib.hid (R3.out.kept hb')
        have N4 := Lib.hid (R4.out.kept hb')
        have N5 := Lib.hid (R5.out.trans (hb'.mono (by have := R1.out.mp.lt; omega)))
        have N6 := Lib.hid (bnext R6.out hb')
        clear R1 R2 R3 R4 R5 R6 hb hb' P1
        go_wp2_with fail
        refine wp_region_held_drew (S := fun w' => Blk w' (bm + 1) (pwC (.slice (some ⟨rb, 0, none⟩) (flG p).length cap) (flS p) (.slice (some ⟨rb2, 0, none⟩) (flG q).length cap2) (flS q) bm) 64) (by kernel_rfl) N4.out (fun hHeld => ?_)
        generalize w5.drew = wd at *
        refine wpAnyH_take (i := 0) (oi := { dst := some 21, op := _, type := _, pos := _, after := _, guard := _ }) (v := ?_) rfl (by kernel_rfl) (by kernel_rfl) (by kernel_rfl) (fun _ _ _ h => h) (Or.inl ⟨by kernel_rfl, ?_⟩) hHeld ?_
        rotate_left
        · intro w hSw
          have d0 := hSw.cell 0
          have d1 := hSw.cell 1
          have d2 := hSw.cell 2
          have d3 := hSw.cell 3
          have d4 := hSw.cell 4
          unfold pwC at d0 d1 d2 d3 d4
          simp only [List.getElem?_toArray, List.getElem?_cons_zero, List.getElem?_cons_succ] at d0 d1 d2 d3 d4
          go_simp
          first | done | with_reducible rfl
        simp only [Act.put]
        refine wpAnyH_take (i := 1) (oi := { dst := some 22, op := _, type := _, pos := _, after := _, guard := _ }) (v := ?_) rfl (by kernel_rfl) (by kernel_rfl) (by kernel_rfl) (fun _ _ _ h => h) (Or.inl ⟨by kernel_rfl, ?_⟩) hHeld ?_
        rotate_left
        · intro w hSw
          have d0 := hSw.cell 0
          have d1 := hSw.cell 1
          have d2 := hSw.cell 2
          have d3 := hSw.cell 3
          have d4 := hSw.cell 4
          unfold pwC at d0 d1 d2 d3 d4
          simp only [List.getElem?_toArray, List.getElem?_cons_zero, List.getElem?_cons_succ] at d0 d1 d2 d3 d4
          go_simp
          first | done | with_reducible rfl
        simp only [Act.put]
        refine wpAnyH_take (i := 2) (oi := { dst := some 23, op := _, type := _, pos := _, after := _, guard := _ }) (v := ?_) rfl (by kernel_rfl) (by kernel_rfl) (by kernel_rfl) (fun _ _ _ h => h) (Or.inl ⟨by kernel_rfl, ?_⟩) hHeld ?_
        rotate_left
        · intro w hSw
          go_simp
          first | done | with_reducible rfl
        simp only [Act.put]
        refine wpAnyH_ready (rs := [3]) (by kernel_rfl) (by simp) ?_
        refine AllReadyH.cons rfl (fun K hK => ?_) AllReadyH.nil
        go_simp
        refine (HS wd).out.mono ?_
        rintro e w6 ⟨rfl, hb⟩
        have M1 := Lib.hid (N1.out.kept hb)
        have M2 := Lib.hid (N2.out.kept hb)
        have M3 := Lib.hid (N3.out.kept hb)
        have M4 := Lib.hid (N4.out.kept hb)
        have M5 := Lib.hid (N5.out.trans (hb.mono (by have := N1.out.mp.lt; omega)))
        have M6 := Lib.hid (bnext N6.out hb)
        clear hb N1 N2 N3 N4 N5 N6 HS
        go_wp2_with fail
        refine hK.out _ _ M4.out (fun hHeld => ?_)
        clear hK K
        try simp only [Act.put]
        refine wpAnyH_ready (rs := [4]) (by kernel_rfl) (by simp) ?_
        refine AllReadyH.cons rfl (fun K hK => ?_) AllReadyH.nil
        go_simp
        refine (HD w6 M1.out M5.out).out.mono ?_
        rintro e w7 ⟨rfl, m', f', j1, j2, j3, j4, j5⟩
        have HG := Lib.hid (HGs.out m' j3 j4.1 j4.2)
        have L1 := Lib.hid j1
        have L4 := Lib.hid (j5 _ _ M4.out)
        have L5 := Lib.hid (M5.out.trans j2)
        have hbl : w.heap.size + 1 < bm := by have := HZ3.out; omega
        have L2 := Lib.hid ((j2.block w.heap.size (by omega)).trans M2.out : Blk w7 w.heap.size (relC .u32 A) 46)
        have L3 := Lib.hid ((j2.block (w.heap.size + 1) hbl).trans M3.out : Blk w7 (w.heap.size + 1) #[.slice none 0 0, .int .i64 0, .slice none 0 0, .int .i64 0, .map none] 64)
        have L6 := Lib.hid (M6.out.trans (j2.mono (by omega)))
        clear j1 j2 j3 j4 j5 M1 M2 M3 M4 M5 M6 HD HGs hbl
        go_wp2_with fail
        refine hK.out _ _ L4.out (fun hHeld => ?_)
        clear hK K
        try simp only [Act.put]
        refine wpAnyH_done (by kernel_rfl) ?_ _
        clear hHeld
        go_wp2_with fail
        exact ⟨⟨n + 1, by omega, by go_num, m', f', L1, HG, L2, L3, L4, L5, L6⟩, by simp [intOf]; omega⟩
    · as_aux_lemma =>
      have hk2 : n = 729 := by omega
      subst hk2
      have d0 := R4.out.cell 0; have d1 := R4.out.cell 1; have d2 := R4.out.cell 2; have d3 := R4.out.cell 3; have d4 := R4.out.cell 4
      unfold pwC at d0 d1 d2 d3 d4
      simp only [List.getElem?_toArray, List.getElem?_cons_zero, List.getElem?_cons_succ] at d0 d1 d2 d3 d4
      have Z := R3.out
      have i0 := Z.cell 0; have i1 := Z.cell 1; have i2 := Z.cell 2; have i3 := Z.cell 3; have i4 := Z.cell 4
      have f0 := Z.free 0; have f1 := Z.free 1; have f2 := Z.free 2; have f3 := Z.free 3; have f4 := Z.free 4
      simp only [List.getElem?_toArray, List.getElem?_cons_zero, List.getElem?_cons_succ] at i0 i1 i2 i3 i4
      have hbl : w.heap.size + 1 < bm := by have := HZ3.out; omega
      have hZ5 := ((((Z.set 0 (.slice (some ⟨rb, 0, none⟩) (flG p).length cap)).set 1 (.int .i64 (flS p : Nat))).set 2 (.slice (some ⟨rb2, 0, none⟩) (flG q).length cap2)).set 3 (.int .i64 (flS q : Nat))).set 4 (.map (some bm))
      have HZ5 := Lib.hid hZ5
      have HF1 := Lib.hid (((((R1.out.setOld (a := ⟨w.heap.size + 1, 0, none⟩) hbl (.slice (some ⟨rb, 0, none⟩) (flG p).length cap)).setOld (a := ⟨w.heap.size + 1, 1, none⟩) hbl (.int .i64 (flS p : Nat))).setOld (a := ⟨w.heap.size + 1, 2, none⟩) hbl (.slice (some ⟨rb2, 0, none⟩) (flG q).length cap2)).setOld (a := ⟨w.heap.size + 1, 3, none⟩) hbl (.int .i64 (flS q : Nat))).setOld (a := ⟨w.heap.size + 1, 4, none⟩) hbl (.map (some bm)))
      have hge : w.heap.size ≤ w.heap.size + 1 := by omega
      have HB1 := Lib.hid (((((R6.out.setCell (p := ⟨w.heap.size + 1, 0, none⟩) hge (.slice (some ⟨rb, 0, none⟩) (flG p).length cap)).setCell (p := ⟨w.heap.size + 1, 1, none⟩) hge (.int .i64 (flS p : Nat))).setCell (p := ⟨w.heap.size + 1, 2, none⟩) hge (.slice (some ⟨rb2, 0, none⟩) (flG q).length cap2)).setCell (p := ⟨w.heap.size + 1, 3, none⟩) hge (.int .i64 (flS q : Nat))).setCell (p := ⟨w.heap.size + 1, 4, none⟩) hge (.map (some bm)))
      clear hZ5 Z R1 R2 R3 R4 R5 R6 hge
      go_wp2_with fail
      exact bodyPost_ret (v := .agg (pwC (.slice (some ⟨rb, 0, none⟩) (flG p).length cap) (flS p) (.slice (some ⟨rb2, 0, none⟩) (flG q).length cap2) (flS q) bm)) (results_cell_row rfl _ _ (w.heap.size + 1) 64 _ (0, 0) _ (by rfl) HZ5.out Tryz.underlying64 rfl (by kernel_rfl)) rfl
        ⟨_, _, _, m, f, rfl, HF1.out.mono (by omega), RG.out, ⟨_, _, _, rfl⟩, ⟨_, _, _, rfl⟩, HB1.out, HF.out.top, HH.out.top, HF.out.sm, HH.out.sm⟩
end Go.Proofs.YtinjmdjnkneidaaGreatDoor
