/-
  The pairs of states for which a walk keeps where runs begin or end: statesWhere, starts, ends.
-/
import Derived.Test.YtinjmdjnkneidaaGreatDoorPk5
namespace Go.Proofs.YtinjmdjnkneidaaGreatDoor
open Go.RowKit Tm Go.ChangeMaps Go.Great

theorem three_new (w : World) (A B C : Array Value) (t u v : TypeId) : Blk (((w.alloc (.cells A t)).alloc (.cells B u)).alloc (.cells C v)) w.heap.size A t ∧ Blk (((w.alloc (.cells A t)).alloc (.cells B u)).alloc (.cells C v)) (w.heap.size + 1) B u ∧ Blk (((w.alloc (.cells A t)).alloc (.cells B u)).alloc (.cells C v)) (w.heap.size + 2) C v ∧ Below w.heap.size w (((w.alloc (.cells A t)).alloc (.cells B u)).alloc (.cells C v)) := by
  obtain ⟨h1, h2, h3⟩ := two_new w A B t u
  have hz : ((w.alloc (.cells A t)).alloc (.cells B u)).heap.size = w.heap.size + 2 := by simp
  have h4 := Blk.new ((w.alloc (.cells A t)).alloc (.cells B u)) C v
  rw [hz] at h4
  exact ⟨h1.alloc _, h2.alloc _, h4, h3.alloc h3.size _⟩
set_option maxRecDepth 1000000 in
set_option maxHeartbeats 8000000 in
theorem sw_starts (rb n1 cap1 rb2 n2 cap2 sl sr bm : Nat) (f : Mv) (w : World) (h : MapV w bm f) :
    Calls Tryz.prog 103 #[.agg (pwC (.slice (some ⟨rb, 0, none⟩) n1 cap1) sl (.slice (some ⟨rb2, 0, none⟩) n2 cap2) sr bm), .func (.func 102) #[.agg (pwC (.slice (some ⟨rb, 0, none⟩) n1 cap1) sl (.slice (some ⟨rb2, 0, none⟩) n2 cap2) sr bm)] #[]] w (RelPost (fun i j => (f ((sl, i), (sr, j))).isSome) w) := by
  obtain ⟨k0, k1, k2, kb⟩ := three_new w (pwC (.slice (some ⟨rb, 0, none⟩) n1 cap1) sl (.slice (some ⟨rb2, 0, none⟩) n2 cap2) sr bm) (relC .u32 noR) (relC .u32 noR) 64 46 46
  have K0 := Lib.hid k0
  have K1 := Lib.hid k1
  have K2 := Lib.hid k2
  have KB := Lib.hid kb
  have HM := Lib.hid h
  clear k0 k1 k2 kb h
  have HEN : ∀ (args : Array Value) (w : World), (callFunc 102 args).run Tryz.prog w = .ok (.enter 102 args) w := fun args w => by kernel_rfl
  unfold pwC at K0 K1 K2 KB ⊢
  go_enter Tryz.func103, Tryz.ntmps103
  go_wp2_with (first
    | (refine r_alloc rfl rfl (some 4) rfl (w.heap.size + 1) (by simp) ?_)
    | (refine r_alloc rfl rfl (some 5) rfl (w.heap.size + 2) (by simp) ?_))
  generalize ((w.alloc (.cells _ 64)).alloc (.cells (relC .u32 noR) 46)).alloc (.cells (relC .u32 noR) 46) = w0 at *
  replace K0 : Hid (Blk w0 w.heap.size (pwC (.slice (some ⟨rb, 0, none⟩) n1 cap1) sl (.slice (some ⟨rb2, 0, none⟩) n2 cap2) sr bm) 64) := K0
  rw [← lowN_zero (fun i j => (f ((sl, i), (sr, j))).isSome)] at K2
  go_loopw [6, 7] (fun _ i wr => ∃ k : Nat, k ≤ 729 ∧ i = .int .i64 k ∧ Hid (Blk wr w.heap.size (pwC (.slice (some ⟨rb, 0, none⟩) n1 cap1) sl (.slice (some ⟨rb2, 0, none⟩) n2 cap2) sr bm) 64) ∧ Hid (Blk wr (w.heap.size + 1) (relC .u32 noR) 46) ∧ Hid (Blk wr (w.heap.size + 2) (relC .u32 (lowN (fun i j => (f ((sl, i), (sr, j))).isSome) k)) 46) ∧ Hid (Below w.heap.size w wr)) (fun _ i _ => 729 - (intOf i).toNat)
  case atStart => exact ⟨0, by omega, rfl, K0, K1, K2, KB⟩
  case round =>
    clear K0 K1 K2 KB
    obtain ⟨n, hn, rfl, R0, R1, R2, RB⟩ := hrel
    by_cases hlt : n < 729
    · as_aux_lemma =>
      obtain ⟨i, j, hi, hj, hne⟩ : ∃ i j, i < 27 ∧ j < 27 ∧ n = i + 27 * j := ⟨n % 27, n / 27, by omega, by omega, by omega⟩
      have P1 := fun w => Lib.hid (startOf_any (.slice (some ⟨rb, 0, none⟩) n1 cap1) (.slice (some ⟨rb2, 0, none⟩) n2 cap2) sl sr bm ⟨_, _, _, rfl⟩ ⟨_, _, _, rfl⟩ i j hi hj w)
      have P2 := fun w' (hb : Below w.heap.size w w') => Lib.hid (keeps_pt (.slice (some ⟨rb, 0, none⟩) n1 cap1) (.slice (some ⟨rb2, 0, none⟩) n2 cap2) sl sr bm (f := f) ((sl, i), (sr, j)) w' (HM.out.kept hb))
      have P3 := fun w => Lib.hid (rel_with (lowN (fun i j => (f ((sl, i), (sr, j))).isSome) (i + 27 * j)) i j hi hj w)
      have LN := fun h => Lib.hid (lowN_no (T := fun i j => (f ((sl, i), (sr, j))).isSome) hi (j := j) h)
      have LY := fun h => Lib.hid (lowN_yes (T := fun i j => (f ((sl, i), (sr, j))).isSome) hi (j := j) h)
      rw [← hne] at P1 P3 LN LY
      have hl : (n : Int) < 729 := by omega
      clear hne
      generalize hz : (((sl, i), (sr, j)) : Nd) = z at *
      unfold NdIs at P1
      unfold ndV at P1 P2
      try unfold pwC at P1
      unfold pwC at P2
      generalize hbb : (f z).isSome = bb at *
      have N0 := Lib.hid R0.out.drew
      have N1 := Lib.hid R1.out.drew
      have N2 := Lib.hid R2.out.drew
      have NB := Lib.hid RB.out.drew
      clear R0 R1 R2 RB
      go_wp2_with fail
      refine wp_region_held_drew (S := fun w' => Blk w' w.heap.size (pwC (.slice (some ⟨rb, 0, none⟩) n1 cap1) sl (.slice (some ⟨rb2, 0, none⟩) n2 cap2) sr bm) 64) (by kernel_rfl) N0.out (fun hHeld => ?_)
      generalize wr.drew = wd at *
      refine wpAnyH_take (i := 0) (oi := { dst := some 10, op := _, type := _, pos := _, after := _, guard := _ }) (v := ?_) rfl (by kernel_rfl) (by kernel_rfl) (by kernel_rfl) (fun _ _ _ h => h) (Or.inl ⟨by kernel_rfl, ?_⟩) hHeld ?_
      rotate_left
      · intro w hSw
        have d0 := hSw.cell 0
        have d1 := hSw.cell 1
        have d2 := hSw.cell 2
        have d3 := hSw.cell 3
        have d4 := hSw.cell 4
        unfold pwC at d0 d1 d2 d3 d4
        simp only [List.getElem?_toArray, List.getElem?_cons_zero, List.getElem?_cons_succ] at d0 d1 d2 d3 d4
        go_simp
        first | done | with_reducible rfl
      simp only [Act.put]
      refine wpAnyH_take (i := 1) (oi := { dst := some 11, op := _, type := _, pos := _, after := _, guard := _ }) (v := ?_) rfl (by kernel_rfl) (by kernel_rfl) (by kernel_rfl) (fun _ _ _ h => h) (Or.inl ⟨by kernel_rfl, ?_⟩) hHeld ?_
      rotate_left
      · intro w hSw
        go_simp
        first | done | with_reducible rfl
      simp only [Act.put]
      refine wpAnyH_take (i := 2) (oi := { dst := some 12, op := _, type := _, pos := _, after := _, guard := _ }) (v := ?_) rfl (by kernel_rfl) (by kernel_rfl) (by kernel_rfl) (fun _ _ _ h => h) (Or.inl ⟨by kernel_rfl, ?_⟩) hHeld ?_
      rotate_left
      · intro w hSw
        go_simp
        first | done | with_reducible rfl
      simp only [Act.put]
      refine wpAnyH_ready (rs := [3]) (by kernel_rfl) (by simp) ?_
      refine AllReadyH.cons rfl (fun K hK => ?_) AllReadyH.nil
      go_simp
      refine (P1 wd).out.mono ?_
      rintro e w6 ⟨rfl, hb⟩
      have M0 := Lib.hid (N0.out.kept hb)
      have M1 := Lib.hid (N1.out.kept hb)
      have M2 := Lib.hid (N2.out.kept hb)
      have MB := Lib.hid (bnext NB.out hb)
      clear hb N0 N1 N2 NB P1
      go_wp2_with fail
      refine hK.out _ _ M0.out (fun hHeld => ?_)
      clear hK K
      try simp only [Act.put]
      refine wpAnyH_ready (rs := [4]) (by kernel_rfl) (by simp) ?_
      refine AllReadyH.cons rfl (fun K hK => ?_) AllReadyH.nil
      go_simp
      refine (P2 w6 MB.out).out.mono ?_
      rintro e w7 ⟨rfl, hb⟩
      have L0 := Lib.hid (M0.out.kept hb)
      have L1 := Lib.hid (M1.out.kept hb)
      have L2 := Lib.hid (M2.out.kept hb)
      have LB := Lib.hid (bnext MB.out hb)
      clear hb M0 M1 M2 MB P2
      go_wp2_with fail
      refine hK.out _ _ L0.out (fun hHeld => ?_)
      clear hK K
      try simp only [Act.put]
      refine wpAnyH_done (by kernel_rfl) ?_ _
      clear hHeld
      cases bb with
      | false =>
        have HN := LN rfl
        clear LN LY P3 hbb hz
        go_wp2_with fail
        exact ⟨⟨n + 1, by omega, by go_num, L0, L1, by rw [← HN.out]; exact L2, LB⟩, by simp [intOf]; omega⟩
      | true =>
        have HN := LY rfl
        clear LN LY hbb hz
        go_wp2_with (refine wpList_load_row rfl 46 _ rfl (w.heap.size + 2) (by rfl) 46 (relC .u32 (lowN (fun i j => (f ((sl, i), (sr, j))).isSome) n)) (0, 0) _ L2.out undR rfl (infoR _) ?_)
        refine (P3 _).out.mono ?_
        rintro e w8 ⟨rfl, hb⟩
        replace L0 := Lib.hid (L0.out.kept hb)
        replace L1 := Lib.hid (L1.out.kept hb)
        replace L2 := Lib.hid (L2.out.kept hb)
        replace LB := Lib.hid (bnext LB.out hb)
        clear hb P3
        rw [HN.out]
        go_wp2_with (refine wpList_store_row rfl 46 _ _ rfl (w.heap.size + 2) (relC .u32 (lowN (fun i j => (f ((sl, i), (sr, j))).isSome) (n + 1))) (by rfl) (by rfl) 46 (relC .u32 (lowN (fun i j => (f ((sl, i), (sr, j))).isSome) n)) L2.out (infoR _) (by rw [relC_size, relC_size]) (relC_one _ _) ?_)
        exact ⟨⟨n + 1, by omega, by go_num, Lib.hid (L0.out.rowOther (by omega) _), Lib.hid (L1.out.rowOther (by omega) _), Lib.hid (L2.out.row _), Lib.hid (Below.setRow LB.out (by omega) _)⟩, by simp [intOf]; omega⟩
    · as_aux_lemma =>
      have hk2 : n = 729 := by omega
      subst hk2
      have R := R2.out
      rw [lowN_all] at R
      replace R2 := Lib.hid R
      clear R
      go_wp2_with (first
        | (refine wpList_load_row rfl 46 _ rfl (w.heap.size + 2) (by rfl) 46 (relC .u32 (fun i j => (f ((sl, i), (sr, j))).isSome)) (0, 0) _ R2.out undR rfl (infoR _) ?_)
        | (refine wpList_store_row rfl 46 _ _ rfl (w.heap.size + 1) (relC .u32 (fun i j => (f ((sl, i), (sr, j))).isSome)) (by rfl) (by rfl) 46 (relC .u32 noR) R1.out (infoR _) (by rw [relC_size, relC_size]) (relC_one _ _) ?_))
      exact bodyPost_ret (v := .agg (relC .u32 (fun i j => (f ((sl, i), (sr, j))).isSome))) (results_cell_row rfl _ _ (w.heap.size + 1) 46 _ (0, 0) _ (by rfl) (R1.out.row _) undR rfl (infoR _)) rfl ⟨rfl, Below.setRow RB.out (by omega) _⟩
set_option maxRecDepth 1000000 in
set_option maxHeartbeats 8000000 in
theorem sw_ends (rb n1 cap1 rb2 n2 cap2 sl sr bm : Nat) (f : Mv) (w : World) (h : MapV w bm f) :
    Calls Tryz.prog 103 #[.agg (pwC (.slice (some ⟨rb, 0, none⟩) n1 cap1) sl (.slice (some ⟨rb2, 0, none⟩) n2 cap2) sr bm), .func (.func 104) #[] #[]] w (RelPost (fun i j => (f ((0, i), (0, j))).isSome) w) := by
  obtain ⟨k0, k1, k2, kb⟩ := three_new w (pwC (.slice (some ⟨rb, 0, none⟩) n1 cap1) sl (.slice (some ⟨rb2, 0, none⟩) n2 cap2) sr bm) (relC .u32 noR) (relC .u32 noR) 64 46 46
  have K0 := Lib.hid k0
  have K1 := Lib.hid k1
  have K2 := Lib.hid k2
  have KB := Lib.hid kb
  have HM := Lib.hid h
  clear k0 k1 k2 kb h
  have HEN : ∀ (args : Array Value) (w : World), (callFunc 104 args).run Tryz.prog w = .ok (.enter 104 args) w := fun args w => by kernel_rfl
  unfold pwC at K0 K1 K2 KB ⊢
  go_enter Tryz.func103, Tryz.ntmps103
  go_wp2_with (first
    | (refine r_alloc rfl rfl (some 4) rfl (w.heap.size + 1) (by simp) ?_)
    | (refine r_alloc rfl rfl (some 5) rfl (w.heap.size + 2) (by simp) ?_))
  generalize ((w.alloc (.cells _ 64)).alloc (.cells (relC .u32 noR) 46)).alloc (.cells (relC .u32 noR) 46) = w0 at *
  replace K0 : Hid (Blk w0 w.heap.size (pwC (.slice (some ⟨rb, 0, none⟩) n1 cap1) sl (.slice (some ⟨rb2, 0, none⟩) n2 cap2) sr bm) 64) := K0
  rw [← lowN_zero (fun i j => (f ((0, i), (0, j))).isSome)] at K2
  go_loopw [6, 7] (fun _ i wr => ∃ k : Nat, k ≤ 729 ∧ i = .int .i64 k ∧ Hid (Blk wr w.heap.size (pwC (.slice (some ⟨rb, 0, none⟩) n1 cap1) sl (.slice (some ⟨rb2, 0, none⟩) n2 cap2) sr bm) 64) ∧ Hid (Blk wr (w.heap.size + 1) (relC .u32 noR) 46) ∧ Hid (Blk wr (w.heap.size + 2) (relC .u32 (lowN (fun i j => (f ((0, i), (0, j))).isSome) k)) 46) ∧ Hid (Below w.heap.size w wr)) (fun _ i _ => 729 - (intOf i).toNat)
  case atStart => exact ⟨0, by omega, rfl, K0, K1, K2, KB⟩
  case round =>
    clear K0 K1 K2 KB
    obtain ⟨n, hn, rfl, R0, R1, R2, RB⟩ := hrel
    by_cases hlt : n < 729
    · as_aux_lemma =>
      obtain ⟨i, j, hi, hj, hne⟩ : ∃ i j, i < 27 ∧ j < 27 ∧ n = i + 27 * j := ⟨n % 27, n / 27, by omega, by omega, by omega⟩
      have P1 := fun w => Lib.hid (endOf_any i j hi hj w)
      have P2 := fun w' (hb : Below w.heap.size w w') => Lib.hid (keeps_pt (.slice (some ⟨rb, 0, none⟩) n1 cap1) (.slice (some ⟨rb2, 0, none⟩) n2 cap2) sl sr bm (f := f) ((0, i), (0, j)) w' (HM.out.kept hb))
      have P3 := fun w => Lib.hid (rel_with (lowN (fun i j => (f ((0, i), (0, j))).isSome) (i + 27 * j)) i j hi hj w)
      have LN := fun h => Lib.hid (lowN_no (T := fun i j => (f ((0, i), (0, j))).isSome) hi (j := j) h)
      have LY := fun h => Lib.hid (lowN_yes (T := fun i j => (f ((0, i), (0, j))).isSome) hi (j := j) h)
      rw [← hne] at P1 P3 LN LY
      have hl : (n : Int) < 729 := by omega
      clear hne
      generalize hz : (((0, i), (0, j)) : Nd) = z at *
      unfold NdIs at P1
      unfold ndV at P1 P2
      try unfold pwC at P1
      unfold pwC at P2
      generalize hbb : (f z).isSome = bb at *
      have N0 := Lib.hid R0.out.drew
      have N1 := Lib.hid R1.out.drew
      have N2 := Lib.hid R2.out.drew
      have NB := Lib.hid RB.out.drew
      clear R0 R1 R2 RB
      go_wp2_with fail
      refine wp_region_held_drew (S := fun w' => Blk w' w.heap.size (pwC (.slice (some ⟨rb, 0, none⟩) n1 cap1) sl (.slice (some ⟨rb2, 0, none⟩) n2 cap2) sr bm) 64) (by kernel_rfl) N0.out (fun hHeld => ?_)
      generalize wr.drew = wd at *
      refine wpAnyH_take (i := 0) (oi := { dst := some 10, op := _, type := _, pos := _, after := _, guard := _ }) (v := ?_) rfl (by kernel_rfl) (by kernel_rfl) (by kernel_rfl) (fun _ _ _ h => h) (Or.inl ⟨by kernel_rfl, ?_⟩) hHeld ?_
      rotate_left
      · intro w hSw
        have d0 := hSw.cell 0
        have d1 := hSw.cell 1
        have d2 := hSw.cell 2
        have d3 := hSw.cell 3
        have d4 := hSw.cell 4
        unfold pwC at d0 d1 d2 d3 d4
        simp only [List.getElem?_toArray, List.getElem?_cons_zero, List.getElem?_cons_succ] at d0 d1 d2 d3 d4
        go_simp
        first | done | with_reducible rfl
      simp only [Act.put]
      refine wpAnyH_take (i := 1) (oi := { dst := some 11, op := _, type := _, pos := _, after := _, guard := _ }) (v := ?_) rfl (by kernel_rfl) (by kernel_rfl) (by kernel_rfl) (fun _ _ _ h => h) (Or.inl ⟨by kernel_rfl, ?_⟩) hHeld ?_
      rotate_left
      · intro w hSw
        go_simp
        first | done | with_reducible rfl
      simp only [Act.put]
      refine wpAnyH_take (i := 2) (oi := { dst := some 12, op := _, type := _, pos := _, after := _, guard := _ }) (v := ?_) rfl (by kernel_rfl) (by kernel_rfl) (by kernel_rfl) (fun _ _ _ h => h) (Or.inl ⟨by kernel_rfl, ?_⟩) hHeld ?_
      rotate_left
      · intro w hSw
        go_simp
        first | done | with_reducible rfl
      simp only [Act.put]
      refine wpAnyH_ready (rs := [3]) (by kernel_rfl) (by simp) ?_
      refine AllReadyH.cons rfl (fun K hK => ?_) AllReadyH.nil
      go_simp
      refine (P1 wd).out.mono ?_
      rintro e w6 ⟨rfl, hb⟩
      have M0 := Lib.hid (N0.out.kept hb)
      have M1 := Lib.hid (N1.out.kept hb)
      have M2 := Lib.hid (N2.out.kept hb)
      have MB := Lib.hid (bnext NB.out hb)
      clear hb N0 N1 N2 NB P1
      go_wp2_with fail
      refine hK.out _ _ M0.out (fun hHeld => ?_)
      clear hK K
      try simp only [Act.put]
      refine wpAnyH_ready (rs := [4]) (by kernel_rfl) (by simp) ?_
      refine AllReadyH.cons rfl (fun K hK => ?_) AllReadyH.nil
      go_simp
      refine (P2 w6 MB.out).out.mono ?_
      rintro e w7 ⟨rfl, hb⟩
      have L0 := Lib.hid (M0.out.kept hb)
      have L1 := Lib.hid (M1.out.kept hb)
      have L2 := Lib.hid (M2.out.kept hb)
      have LB := Lib.hid (bnext MB.out hb)
      clear hb M0 M1 M2 MB P2
      go_wp2_with fail
      refine hK.out _ _ L0.out (fun hHeld => ?_)
      clear hK K
      try simp only [Act.put]
      refine wpAnyH_done (by kernel_rfl) ?_ _
      clear hHeld
      cases bb with
      | false =>
        have HN := LN rfl
        clear LN LY P3 hbb hz
        go_wp2_with fail
        exact ⟨⟨n + 1, by omega, by go_num, L0, L1, by rw [← HN.out]; exact L2, LB⟩, by simp [intOf]; omega⟩
      | true =>
        have HN := LY rfl
        clear LN LY hbb hz
        go_wp2_with (refine wpList_load_row rfl 46 _ rfl (w.heap.size + 2) (by rfl) 46 (relC .u32 (lowN (fun i j => (f ((0, i), (0, j))).isSome) n)) (0, 0) _ L2.out undR rfl (infoR _) ?_)
        refine (P3 _).out.mono ?_
        rintro e w8 ⟨rfl, hb⟩
        replace L0 := Lib.hid (L0.out.kept hb)
        replace L1 := Lib.hid (L1.out.kept hb)
        replace L2 := Lib.hid (L2.out.kept hb)
        replace LB := Lib.hid (bnext LB.out hb)
        clear hb P3
        rw [HN.out]
        go_wp2_with (refine wpList_store_row rfl 46 _ _ rfl (w.heap.size + 2) (relC .u32 (lowN (fun i j => (f ((0, i), (0, j))).isSome) (n + 1))) (by rfl) (by rfl) 46 (relC .u32 (lowN (fun i j => (f ((0, i), (0, j))).isSome) n)) L2.out (infoR _) (by rw [relC_size, relC_size]) (relC_one _ _) ?_)
        exact ⟨⟨n + 1, by omega, by go_num, Lib.hid (L0.out.rowOther (by omega) _), Lib.hid (L1.out.rowOther (by omega) _), Lib.hid (L2.out.row _), Lib.hid (Below.setRow LB.out (by omega) _)⟩, by simp [intOf]; omega⟩
    · as_aux_lemma =>
      have hk2 : n = 729 := by omega
      subst hk2
      have R := R2.out
      rw [lowN_all] at R
      replace R2 := Lib.hid R
      clear R
      go_wp2_with (first
        | (refine wpList_load_row rfl 46 _ rfl (w.heap.size + 2) (by rfl) 46 (relC .u32 (fun i j => (f ((0, i), (0, j))).isSome)) (0, 0) _ R2.out undR rfl (infoR _) ?_)
        | (refine wpList_store_row rfl 46 _ _ rfl (w.heap.size + 1) (relC .u32 (fun i j => (f ((0, i), (0, j))).isSome)) (by rfl) (by rfl) 46 (relC .u32 noR) R1.out (infoR _) (by rw [relC_size, relC_size]) (relC_one _ _) ?_))
      exact bodyPost_ret (v := .agg (relC .u32 (fun i j => (f ((0, i), (0, j))).isSome))) (results_cell_row rfl _ _ (w.heap.size + 1) 46 _ (0, 0) _ (by rfl) (R1.out.row _) undR rfl (infoR _)) rfl ⟨rfl, Below.setRow RB.out (by omega) _⟩
set_option maxRecDepth 1000000 in
set_option maxHeartbeats 4000000 in
theorem starts_any (rb n1 cap1 rb2 n2 cap2 sl sr bm : Nat) (f : Mv) (w : World) (h : MapV w bm f) :
    Calls Tryz.prog 98 #[.agg (pwC (.slice (some ⟨rb, 0, none⟩) n1 cap1) sl (.slice (some ⟨rb2, 0, none⟩) n2 cap2) sr bm)] w (RelPost (fun i j => (f ((sl, i), (sr, j))).isSome) w) := by
  obtain ⟨k0, k1, kb⟩ := two_new w (pwC (.slice (some ⟨rb, 0, none⟩) n1 cap1) sl (.slice (some ⟨rb2, 0, none⟩) n2 cap2) sr bm) (relC .u32 noR) 64 46
  have HS := Lib.hid (sw_starts rb n1 cap1 rb2 n2 cap2 sl sr bm f _ (h.kept kb))
  have K0 := Lib.hid k0
  have K1 := Lib.hid k1
  have KB := Lib.hid kb
  clear k0 k1 kb h
  generalize (fun i j => (f ((sl, i), (sr, j))).isSome) = R at *
  unfold pwC at K0 K1 KB HS ⊢
  go_enter Tryz.func98, Tryz.ntmps98
  go_wp2_with (refine r_alloc rfl rfl (some 2) rfl (w.heap.size + 1) (by simp) ?_)
  have d0 := K0.out.cell 0; have d1 := K0.out.cell 1; have d2 := K0.out.cell 2; have d3 := K0.out.cell 3; have d4 := K0.out.cell 4
  simp only [List.getElem?_toArray, List.getElem?_cons_zero, List.getElem?_cons_succ] at d0 d1 d2 d3 d4
  generalize (w.alloc (.cells _ 64)).alloc (.cells (relC .u32 noR) 46) = w0 at *
  go_wp2_with fail
  refine HS.out.mono ?_
  rintro e w2 ⟨rfl, hb⟩
  have L1 := Lib.hid (K1.out.kept hb)
  have LB := Lib.hid (bnext KB.out hb)
  clear hb K0 K1 KB d0 d1 d2 d3 d4 HS
  go_wp2_with (refine wpList_store_row rfl 46 _ _ rfl (w.heap.size + 1) (relC .u32 R) (by rfl) (by rfl) 46 (relC .u32 noR) L1.out (infoR _) (by rw [relC_size, relC_size]) (relC_one _ _) ?_)
  exact bodyPost_ret (v := .agg (relC .u32 R)) (results_cell_row rfl _ _ (w.heap.size + 1) 46 _ (0, 0) _ (by rfl) (L1.out.row _) undR rfl (infoR _)) rfl ⟨rfl, Below.setRow LB.out (by omega) _⟩
set_option maxRecDepth 1000000 in
set_option maxHeartbeats 4000000 in
theorem ends_any (rb n1 cap1 rb2 n2 cap2 sl sr bm : Nat) (f : Mv) (w : World) (h : MapV w bm f) :
    Calls Tryz.prog 54 #[.agg (pwC (.slice (some ⟨rb, 0, none⟩) n1 cap1) sl (.slice (some ⟨rb2, 0, none⟩) n2 cap2) sr bm)] w (RelPost (fun i j => (f ((0, i), (0, j))).isSome) w) := by
  obtain ⟨k0, k1, kb⟩ := two_new w (pwC (.slice (some ⟨rb, 0, none⟩) n1 cap1) sl (.slice (some ⟨rb2, 0, none⟩) n2 cap2) sr bm) (relC .u32 noR) 64 46
  have HS := Lib.hid (sw_ends rb n1 cap1 rb2 n2 cap2 sl sr bm f _ (h.kept kb))
  have K0 := Lib.hid k0
  have K1 := Lib.hid k1
  have KB := Lib.hid kb
  clear k0 k1 kb h
  generalize (fun i j => (f ((0, i), (0, j))).isSome) = R at *
  unfold pwC at K0 K1 KB HS ⊢
  go_enter Tryz.func54, Tryz.ntmps54
  go_wp2_with (refine r_alloc rfl rfl (some 2) rfl (w.heap.size + 1) (by simp) ?_)
  have d0 := K0.out.cell 0; have d1 := K0.out.cell 1; have d2 := K0.out.cell 2; have d3 := K0.out.cell 3; have d4 := K0.out.cell 4
  simp only [List.getElem?_toArray, List.getElem?_cons_zero, List.getElem?_cons_succ] at d0 d1 d2 d3 d4
  generalize (w.alloc (.cells _ 64)).alloc (.cells (relC .u32 noR) 46) = w0 at *
  go_wp2_with fail
  refine HS.out.mono ?_
  rintro e w2 ⟨rfl, hb⟩
  have L1 := Lib.hid (K1.out.kept hb)
  have LB := Lib.hid (bnext KB.out hb)
  clear hb K0 K1 KB d0 d1 d2 d3 d4 HS
  go_wp2_with (refine wpList_store_row rfl 46 _ _ rfl (w.heap.size + 1) (relC .u32 R) (by rfl) (by rfl) 46 (relC .u32 noR) L1.out (infoR _) (by rw [relC_size, relC_size]) (relC_one _ _) ?_)
  exact bodyPost_ret (v := .agg (relC .u32 R)) (results_cell_row rfl _ _ (w.heap.size + 1) 46 _ (0, 0) _ (by rfl) (L1.out.row _) undR rfl (infoR _)) rfl ⟨rfl, Below.setRow LB.out (by omega) _⟩
end Go.Proofs.YtinjmdjnkneidaaGreatDoor
