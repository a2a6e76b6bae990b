/-
  The closure of a relation: closed of the program.
-/
import Derived.Test.YtheclmdpiijakaaGreatDoorRc
namespace Go.Proofs.YtheclmdpiijakaaGreatDoor
open Go.RowKit Go.Great

set_option maxRecDepth 100000 in
set_option maxHeartbeats 16000000 in
theorem closed_any (A : Nat → Nat → Bool) (w : World) : Calls Tryz.prog 46 #[.agg (relC .u32 A)] w (RelPost (cloR A) w) := by
  obtain ⟨k0, k1, kb, kz⟩ := two_blk w (relC .u32 A) (relC .u32 noR) 56 56
  have K0 := Lib.hid k0
  have K1 := Lib.hid k1
  have KB := Lib.hid kb
  have CG := fun w => Lib.hid (agree_any w)
  have CO := fun w => Lib.hid (rel_or A idR w)
  clear k0 k1 kb kz
  go_enter Tryz.func46, Tryz.ntmps46
  go_wp2_with (first
    | (refine wpList_boxTo rfl 56 _ rfl (some 1) rfl w.heap.size rfl (relC .u32 A) (by rfl) ?_)
    | (refine r_alloc rfl rfl (some 2) rfl (w.heap.size + 1) (by simp) ?_))
  generalize (w.alloc (.cells (relC .u32 A) 56)).alloc (.cells (relC .u32 noR) 56) = w0 at *
  replace K0 := Lib.hid K0.out.drew
  replace K1 := Lib.hid K1.out.drew
  replace KB := Lib.hid KB.out.drew
  refine wp_region_any (by kernel_rfl) ?_
  change wpAny _ _ _ _ _ _ _ (World.drew _)
  generalize w0.drew = wd at *
  refine wpAny_ready (rs := [0, 1, 3]) (by kernel_rfl) (by simp) ?_
  refine AllReady.cons rfl (fun K hK => ?_) (AllReady.cons rfl (fun K hK => ?_) (AllReady.cons rfl (fun K hK => ?_) AllReady.nil))
  · refine step_load_row rfl 56 _ rfl w.heap.size (by rfl) 56 (relC .u32 A) (0, 0) _ K0.out undR rfl (infoR _) ?_
    refine hK _ _ ?_; clear hK K
    refine wpAny_ready (rs := [1, 3]) (by kernel_rfl) (by simp) ?_
    refine AllReady.cons rfl (fun K hK => ?_) (AllReady.cons rfl (fun K hK => ?_) AllReady.nil)
    · go_simp
      go_wp2_with (go_at_call 51; (with_reducible refine (CG _).out.mono ?_); rintro e wd ⟨rfl, hb⟩)
      replace K0 := Lib.hid (K0.out.kept hb)
      replace K1 := Lib.hid (K1.out.kept hb)
      replace KB := Lib.hid (bnext KB.out hb)
      try replace K2 := Lib.hid (K2.out.kept hb)
      clear hb
      refine wpAny_ready (rs := [2, 3]) (by kernel_rfl) (by simp) ?_
      refine AllReady.cons rfl (fun K hK => ?_) (AllReady.cons rfl (fun K hK => ?_) AllReady.nil)
      · go_simp
        go_wp2_with (go_at_call 80; (with_reducible refine (CO _).out.mono ?_); rintro e wd ⟨rfl, hb⟩)
        replace K0 := Lib.hid (K0.out.kept hb)
        replace K1 := Lib.hid (K1.out.kept hb)
        replace KB := Lib.hid (bnext KB.out hb)
        try replace K2 := Lib.hid (K2.out.kept hb)
        clear hb
        refine wpAny_ready (rs := [3]) (by kernel_rfl) (by simp) ?_
        refine AllReady.cons rfl (fun K hK => ?_) AllReady.nil
        have K2 := Lib.hid (Blk.new wd (relC .u32 noR) 56)
        have hb := (Below.refl wd.heap.size wd).alloc (Nat.le_refl _) (.cells (relC .u32 noR) 56)
        have HG := Lib.hid K1.out.lt
        refine step_r_alloc rfl rfl (some 3) rfl wd.heap.size rfl ?_
        replace K0 := Lib.hid (K0.out.kept hb)
        replace K1 := Lib.hid (K1.out.kept hb)
        replace KB := Lib.hid (bnext KB.out hb)
        clear hb
        generalize wd.alloc (.cells (relC .u32 noR) 56) = wx at *
        obtain ⟨g, hg⟩ : ∃ g, wd.heap.size = g := ⟨_, rfl⟩
        rw [hg] at K2 HG ⊢
        clear hg
        refine hK _ _ ?_; clear hK K
        refine wpAny_ready (rs := [4]) (by kernel_rfl) (by simp) ?_
        refine AllReady.cons rfl (fun K hK => ?_) AllReady.nil
        refine step_store_row rfl 56 _ _ rfl g (relC .u32 (fun i j => A i j || idR i j)) (by rfl) (by rfl) 56 (relC .u32 noR) K2.out (infoR _) (by rw [relC_size, relC_size]) (relC_one _ _) ?_
        replace K1 := Lib.hid (K1.out.rowOther (g := g) (by have := HG.out; omega) (relC .u32 (fun i j => A i j || idR i j)))
        replace KB := Lib.hid (Below.setRow KB.out (g := g) (by have := HG.out; omega) (relC .u32 (fun i j => A i j || idR i j)))
        replace K2 := Lib.hid (K2.out.row (relC .u32 (fun i j => A i j || idR i j)))
        refine hK _ _ ?_; clear hK K
        refine wpAny_done (by kernel_rfl) ?_ _
        clear K0 CG CO
        go_simp
        go_wp2_with fail
        go_loopw [] (fun wr => ∃ C : Nat → Nat → Bool, ClInv A C ∧ Hid (Blk wr g (relC .u32 C) 56) ∧ Hid (Blk wr (w.heap.size + 1) (relC .u32 noR) 56) ∧ Hid (Below w.heap.size w wr)) (fun wr => 27 * 134217728 - sumW wr g 27)
        case atStart => exact ⟨_, ClInv.start A, K2, K1, KB⟩
        case round =>
          clear K1 K2 KB
          obtain ⟨C, RI, R2, R1, RB⟩ := hrel
          have HS := Lib.hid (sumW_rel R2.out 27 (Nat.le_refl _))
          have CT := fun w => Lib.hid (rel_then C C w)
          have HEq := fun w => r_eq (compR C C) C w
          have HGd := r_guard
          go_wp2_with (refine wpList_load_row rfl 56 _ rfl g (by rfl) 56 (relC .u32 C) (0, 0) _ R2.out undR rfl (infoR _) ?_)
          refine (CT _).out.mono ?_
          rintro e w2 ⟨rfl, hb⟩
          replace R2 := Lib.hid (R2.out.kept hb)
          replace R1 := Lib.hid (R1.out.kept hb)
          replace RB := Lib.hid (bnext RB.out hb)
          clear hb CT
          obtain ⟨p0, pb⟩ := push_blk w2 (relC .u32 noR) (relC .u32 (compR C C)) 56
          have P0 := Lib.hid p0
          have L0 := Lib.hid (Blk.new w2 (relC .u32 noR) 56)
          replace R2 := Lib.hid (R2.out.kept pb)
          replace R1 := Lib.hid (R1.out.kept pb)
          replace RB := Lib.hid (bnext RB.out pb)
          clear p0 pb
          cases hE : relEq (compR C C) C
          · rw [hE] at HEq
            have HI := Lib.hid (RI.step)
            have HL := Lib.hid (RI.grows hE)
            have HM := Lib.hid (sumR_lt (compR C C) 27)
            clear hE RI
            go_wp2_with (first
              | (refine r_alloc rfl rfl (some 4) rfl w2.heap.size rfl ?_)
              | (refine wpList_store_row rfl 56 _ _ rfl w2.heap.size (relC .u32 (compR C C)) (by rfl) (by rfl) 56 (relC .u32 noR) L0.out (infoR _) (by rw [relC_size, relC_size]) (relC_one _ _) ?_)
              | (refine wpList_load_row rfl 56 _ rfl w2.heap.size (by rfl) 56 (relC .u32 (compR C C)) (0, 0) _ P0.out undR rfl (infoR _) ?_)
              | (refine wpList_load_row rfl 56 _ rfl g (by rfl) 56 (relC .u32 C) (0, 0) _ R2.out undR rfl (infoR _) ?_)
              | (refine wpList_store_row rfl 56 _ _ rfl g (relC .u32 (compR C C)) (by rfl) (by rfl) 56 (relC .u32 C) R2.out (infoR _) (by rw [relC_size, relC_size]) (relC_one _ _) ?_))
            have N2 := Lib.hid (R2.out.row (relC .u32 (compR C C)))
            have hn := sumW_rel N2.out 27 (Nat.le_refl _)
            go_round
            case rel => exact ⟨_, _, _, _, _, _, _, _, _, ⟨compR C C, HI.out, N2, Lib.hid (R1.out.rowOther (g := g) (by have := HG.out; omega) _), Lib.hid (Below.setRow RB.out (g := g) (by have := HG.out; omega) _)⟩, rfl⟩
            case measure =>
              rw [hn, HS.out]
              have h1 := HL.out
              have h2 := HM.out
              omega
          · rw [hE] at HEq
            have HD := Lib.hid (RI.done hE)
            clear hE RI
            go_wp2_with (first
              | (refine r_alloc rfl rfl (some 4) rfl w2.heap.size rfl ?_)
              | (refine wpList_store_row rfl 56 _ _ rfl w2.heap.size (relC .u32 (compR C C)) (by rfl) (by rfl) 56 (relC .u32 noR) L0.out (infoR _) (by rw [relC_size, relC_size]) (relC_one _ _) ?_)
              | (refine wpList_load_row rfl 56 _ rfl w2.heap.size (by rfl) 56 (relC .u32 (compR C C)) (0, 0) _ P0.out undR rfl (infoR _) ?_)
              | (refine wpList_load_row rfl 56 _ rfl g (by rfl) 56 (relC .u32 C) (0, 0) _ R2.out undR rfl (infoR _) ?_)
              | (refine wpList_store_row rfl 56 _ _ rfl (w.heap.size + 1) (relC .u32 C) (by rfl) (by rfl) 56 (relC .u32 noR) R1.out (infoR _) (by rw [relC_size, relC_size]) (relC_one _ _) ?_))
            exact bodyPost_ret (v := .agg (relC .u32 C)) (results_cell_row rfl _ _ (w.heap.size + 1) 56 _ (0, 0) _ (by rfl) (R1.out.row _) undR rfl (infoR _)) rfl ⟨by rw [relC_congr HD.out], Below.setRow RB.out (by omega) _⟩
      · have K2 := Lib.hid (Blk.new wd (relC .u32 noR) 56)
        have hb := (Below.refl wd.heap.size wd).alloc (Nat.le_refl _) (.cells (relC .u32 noR) 56)
        have HG := Lib.hid K1.out.lt
        refine step_r_alloc rfl rfl (some 3) rfl wd.heap.size rfl ?_
        replace K0 := Lib.hid (K0.out.kept hb)
        replace K1 := Lib.hid (K1.out.kept hb)
        replace KB := Lib.hid (bnext KB.out hb)
        clear hb
        generalize wd.alloc (.cells (relC .u32 noR) 56) = wx at *
        obtain ⟨g, hg⟩ : ∃ g, wd.heap.size = g := ⟨_, rfl⟩
        rw [hg] at K2 HG ⊢
        clear hg
        refine hK _ _ ?_; clear hK K
        refine wpAny_ready (rs := [2]) (by kernel_rfl) (by simp) ?_
        refine AllReady.cons rfl (fun K hK => ?_) AllReady.nil
        go_simp
        go_wp2_with (go_at_call 80; (with_reducible refine (CO _).out.mono ?_); rintro e wd ⟨rfl, hb⟩)
        replace K0 := Lib.hid (K0.out.kept hb)
        replace K1 := Lib.hid (K1.out.kept hb)
        replace KB := Lib.hid (bnext KB.out hb)
        try replace K2 := Lib.hid (K2.out.kept hb)
        clear hb
        refine wpAny_ready (rs := [4]) (by kernel_rfl) (by simp) ?_
        refine AllReady.cons rfl (fun K hK => ?_) AllReady.nil
        refine step_store_row rfl 56 _ _ rfl g (relC .u32 (fun i j => A i j || idR i j)) (by rfl) (by rfl) 56 (relC .u32 noR) K2.out (infoR _) (by rw [relC_size, relC_size]) (relC_one _ _) ?_
        replace K1 := Lib.hid (K1.out.rowOther (g := g) (by have := HG.out; omega) (relC .u32 (fun i j => A i j || idR i j)))
        replace KB := Lib.hid (Below.setRow KB.out (g := g) (by have := HG.out; omega) (relC .u32 (fun i j => A i j || idR i j)))
        replace K2 := Lib.hid (K2.out.row (relC .u32 (fun i j => A i j || idR i j)))
        refine hK _ _ ?_; clear hK K
        refine wpAny_done (by kernel_rfl) ?_ _
        clear K0 CG CO
        go_simp
        go_wp2_with fail
        go_loopw [] (fun wr => ∃ C : Nat → Nat → Bool, ClInv A C ∧ Hid (Blk wr g (relC .u32 C) 56) ∧ Hid (Blk wr (w.heap.size + 1) (relC .u32 noR) 56) ∧ Hid (Below w.heap.size w wr)) (fun wr => 27 * 134217728 - sumW wr g 27)
        case atStart => exact ⟨_, ClInv.start A, K2, K1, KB⟩
        case round =>
          clear K1 K2 KB
          obtain ⟨C, RI, R2, R1, RB⟩ := hrel
          have HS := Lib.hid (sumW_rel R2.out 27 (Nat.le_refl _))
          have CT := fun w => Lib.hid (rel_then C C w)
          have HEq := fun w => r_eq (compR C C) C w
          have HGd := r_guard
          go_wp2_with (refine wpList_load_row rfl 56 _ rfl g (by rfl) 56 (relC .u32 C) (0, 0) _ R2.out undR rfl (infoR _) ?_)
          refine (CT _).out.mono ?_
          rintro e w2 ⟨rfl, hb⟩
          replace R2 := Lib.hid (R2.out.kept hb)
          replace R1 := Lib.hid (R1.out.kept hb)
          replace RB := Lib.hid (bnext RB.out hb)
          clear hb CT
          obtain ⟨p0, pb⟩ := push_blk w2 (relC .u32 noR) (relC .u32 (compR C C)) 56
          have P0 := Lib.hid p0
          have L0 := Lib.hid (Blk.new w2 (relC .u32 noR) 56)
          replace R2 := Lib.hid (R2.out.kept pb)
          replace R1 := Lib.hid (R1.out.kept pb)
          replace RB := Lib.hid (bnext RB.out pb)
          clear p0 pb
          cases hE : relEq (compR C C) C
          · rw [hE] at HEq
            have HI := Lib.hid (RI.step)
            have HL := Lib.hid (RI.grows hE)
            have HM := Lib.hid (sumR_lt (compR C C) 27)
            clear hE RI
            go_wp2_with (first
              | (refine r_alloc rfl rfl (some 4) rfl w2.heap.size rfl ?_)
              | (refine wpList_store_row rfl 56 _ _ rfl w2.heap.size (relC .u32 (compR C C)) (by rfl) (by rfl) 56 (relC .u32 noR) L0.out (infoR _) (by rw [relC_size, relC_size]) (relC_one _ _) ?_)
              | (refine wpList_load_row rfl 56 _ rfl w2.heap.size (by rfl) 56 (relC .u32 (compR C C)) (0, 0) _ P0.out undR rfl (infoR _) ?_)
              | (refine wpList_load_row rfl 56 _ rfl g (by rfl) 56 (relC .u32 C) (0, 0) _ R2.out undR rfl (infoR _) ?_)
              | (refine wpList_store_row rfl 56 _ _ rfl g (relC .u32 (compR C C)) (by rfl) (by rfl) 56 (relC .u32 C) R2.out (infoR _) (by rw [relC_size, relC_size]) (relC_one _ _) ?_))
            have N2 := Lib.hid (R2.out.row (relC .u32 (compR C C)))
            have hn := sumW_rel N2.out 27 (Nat.le_refl _)
            go_round
            case rel => exact ⟨_, _, _, _, _, _, _, _, _, ⟨compR C C, HI.out, N2, Lib.hid (R1.out.rowOther (g := g) (by have := HG.out; omega) _), Lib.hid (Below.setRow RB.out (g := g) (by have := HG.out; omega) _)⟩, rfl⟩
            case measure =>
              rw [hn, HS.out]
              have h1 := HL.out
              have h2 := HM.out
              omega
          · rw [hE] at HEq
            have HD := Lib.hid (RI.done hE)
            clear hE RI
            go_wp2_with (first
              | (refine r_alloc rfl rfl (some 4) rfl w2.heap.size rfl ?_)
              | (refine wpList_store_row rfl 56 _ _ rfl w2.heap.size (relC .u32 (compR C C)) (by rfl) (by rfl) 56 (relC .u32 noR) L0.out (infoR _) (by rw [relC_size, relC_size]) (relC_one _ _) ?_)
              | (refine wpList_load_row rfl 56 _ rfl w2.heap.size (by rfl) 56 (relC .u32 (compR C C)) (0, 0) _ P0.out undR rfl (infoR _) ?_)
              | (refine wpList_load_row rfl 56 _ rfl g (by rfl) 56 (relC .u32 C) (0, 0) _ R2.out undR rfl (infoR _) ?_)
              | (refine wpList_store_row rfl 56 _ _ rfl (w.heap.size + 1) (relC .u32 C) (by rfl) (by rfl) 56 (relC .u32 noR) R1.out (infoR _) (by rw [relC_size, relC_size]) (relC_one _ _) ?_))
            exact bodyPost_ret (v := .agg (relC .u32 C)) (results_cell_row rfl _ _ (w.heap.size + 1) 56 _ (0, 0) _ (by rfl) (R1.out.row _) undR rfl (infoR _)) rfl ⟨by rw [relC_congr HD.out], Below.setRow RB.out (by omega) _⟩
    · have K2 := Lib.hid (Blk.new wd (relC .u32 noR) 56)
      have hb := (Below.refl wd.heap.size wd).alloc (Nat.le_refl _) (.cells (relC .u32 noR) 56)
      have HG := Lib.hid K1.out.lt
      refine step_r_alloc rfl rfl (some 3) rfl wd.heap.size rfl ?_
      replace K0 := Lib.hid (K0.out.kept hb)
      replace K1 := Lib.hid (K1.out.kept hb)
      replace KB := Lib.hid (bnext KB.out hb)
      clear hb
      generalize wd.alloc (.cells (relC .u32 noR) 56) = wx at *
      obtain ⟨g, hg⟩ : ∃ g, wd.heap.size = g := ⟨_, rfl⟩
      rw [hg] at K2 HG ⊢
      clear hg
      refine hK _ _ ?_; clear hK K
      refine wpAny_ready (rs := [1]) (by kernel_rfl) (by simp) ?_
      refine AllReady.cons rfl (fun K hK => ?_) AllReady.nil
      go_simp
      go_wp2_with (go_at_call 51; (with_reducible refine (CG _).out.mono ?_); rintro e wd ⟨rfl, hb⟩)
      replace K0 := Lib.hid (K0.out.kept hb)
      replace K1 := Lib.hid (K1.out.kept hb)
      replace KB := Lib.hid (bnext KB.out hb)
      try replace K2 := Lib.hid (K2.out.kept hb)
      clear hb
      refine wpAny_ready (rs := [2]) (by kernel_rfl) (by simp) ?_
      refine AllReady.cons rfl (fun K hK => ?_) AllReady.nil
      go_simp
      go_wp2_with (go_at_call 80; (with_reducible refine (CO _).out.mono ?_); rintro e wd ⟨rfl, hb⟩)
      replace K0 := Lib.hid (K0.out.kept hb)
      replace K1 := Lib.hid (K1.out.kept hb)
      replace KB := Lib.hid (bnext KB.out hb)
      try replace K2 := Lib.hid (K2.out.kept hb)
      clear hb
      refine wpAny_ready (rs := [4]) (by kernel_rfl) (by simp) ?_
      refine AllReady.cons rfl (fun K hK => ?_) AllReady.nil
      refine step_store_row rfl 56 _ _ rfl g (relC .u32 (fun i j => A i j || idR i j)) (by rfl) (by rfl) 56 (relC .u32 noR) K2.out (infoR _) (by rw [relC_size, relC_size]) (relC_one _ _) ?_
      replace K1 := Lib.hid (K1.out.rowOther (g := g) (by have := HG.out; omega) (relC .u32 (fun i j => A i j || idR i j)))
      replace KB := Lib.hid (Below.setRow KB.out (g := g) (by have := HG.out; omega) (relC .u32 (fun i j => A i j || idR i j)))
      replace K2 := Lib.hid (K2.out.row (relC .u32 (fun i j => A i j || idR i j)))
      refine hK _ _ ?_; clear hK K
      refine wpAny_done (by kernel_rfl) ?_ _
      clear K0 CG CO
      go_simp
      go_wp2_with fail
      go_loopw [] (fun wr => ∃ C : Nat → Nat → Bool, ClInv A C ∧ Hid (Blk wr g (relC .u32 C) 56) ∧ Hid (Blk wr (w.heap.size + 1) (relC .u32 noR) 56) ∧ Hid (Below w.heap.size w wr)) (fun wr => 27 * 134217728 - sumW wr g 27)
      case atStart => exact ⟨_, ClInv.start A, K2, K1, KB⟩
      case round =>
        clear K1 K2 KB
        obtain ⟨C, RI, R2, R1, RB⟩ := hrel
        have HS := Lib.hid (sumW_rel R2.out 27 (Nat.le_refl _))
        have CT := fun w => Lib.hid (rel_then C C w)
        have HEq := fun w => r_eq (compR C C) C w
        have HGd := r_guard
        go_wp2_with (refine wpList_load_row rfl 56 _ rfl g (by rfl) 56 (relC .u32 C) (0, 0) _ R2.out undR rfl (infoR _) ?_)
        refine (CT _).out.mono ?_
        rintro e w2 ⟨rfl, hb⟩
        replace R2 := Lib.hid (R2.out.kept hb)
        replace R1 := Lib.hid (R1.out.kept hb)
        replace RB := Lib.hid (bnext RB.out hb)
        clear hb CT
        obtain ⟨p0, pb⟩ := push_blk w2 (relC .u32 noR) (relC .u32 (compR C C)) 56
        have P0 := Lib.hid p0
        have L0 := Lib.hid (Blk.new w2 (relC .u32 noR) 56)
        replace R2 := Lib.hid (R2.out.kept pb)
        replace R1 := Lib.hid (R1.out.kept pb)
        replace RB := Lib.hid (bnext RB.out pb)
        clear p0 pb
        cases hE : relEq (compR C C) C
        · rw [hE] at HEq
          have HI := Lib.hid (RI.step)
          have HL := Lib.hid (RI.grows hE)
          have HM := Lib.hid (sumR_lt (compR C C) 27)
          clear hE RI
          go_wp2_with (first
            | (refine r_alloc rfl rfl (some 4) rfl w2.heap.size rfl ?_)
            | (refine wpList_store_row rfl 56 _ _ rfl w2.heap.size (relC .u32 (compR C C)) (by rfl) (by rfl) 56 (relC .u32 noR) L0.out (infoR _) (by rw [relC_size, relC_size]) (relC_one _ _) ?_)
            | (refine wpList_load_row rfl 56 _ rfl w2.heap.size (by rfl) 56 (relC .u32 (compR C C)) (0, 0) _ P0.out undR rfl (infoR _) ?_)
            | (refine wpList_load_row rfl 56 _ rfl g (by rfl) 56 (relC .u32 C) (0, 0) _ R2.out undR rfl (infoR _) ?_)
            | (refine wpList_store_row rfl 56 _ _ rfl g (relC .u32 (compR C C)) (by rfl) (by rfl) 56 (relC .u32 C) R2.out (infoR _) (by rw [relC_size, relC_size]) (relC_one _ _) ?_))
          have N2 := Lib.hid (R2.out.row (relC .u32 (compR C C)))
          have hn := sumW_rel N2.out 27 (Nat.le_refl _)
          go_round
          case rel => exact ⟨_, _, _, _, _, _, _, _, _, ⟨compR C C, HI.out, N2, Lib.hid (R1.out.rowOther (g := g) (by have := HG.out; omega) _), Lib.hid (Below.setRow RB.out (g := g) (by have := HG.out; omega) _)⟩, rfl⟩
          case measure =>
            rw [hn, HS.out]
            have h1 := HL.out
            have h2 := HM.out
            omega
        · rw [hE] at HEq
          have HD := Lib.hid (RI.done hE)
          clear hE RI
          go_wp2_with (first
            | (refine r_alloc rfl rfl (some 4) rfl w2.heap.size rfl ?_)
            | (refine wpList_store_row rfl 56 _ _ rfl w2.heap.size (relC .u32 (compR C C)) (by rfl) (by rfl) 56 (relC .u32 noR) L0.out (infoR _) (by rw [relC_size, relC_size]) (relC_one _ _) ?_)
            | (refine wpList_load_row rfl 56 _ rfl w2.heap.size (by rfl) 56 (relC .u32 (compR C C)) (0, 0) _ P0.out undR rfl (infoR _) ?_)
            | (refine wpList_load_row rfl 56 _ rfl g (by rfl) 56 (relC .u32 C) (0, 0) _ R2.out undR rfl (infoR _) ?_)
            | (refine wpList_store_row rfl 56 _ _ rfl (w.heap.size + 1) (relC .u32 C) (by rfl) (by rfl) 56 (relC .u32 noR) R1.out (infoR _) (by rw [relC_size, relC_size]) (relC_one _ _) ?_))
          exact bodyPost_ret (v := .agg (relC .u32 C)) (results_cell_row rfl _ _ (w.heap.size + 1) 56 _ (0, 0) _ (by rfl) (R1.out.row _) undR rfl (infoR _)) rfl ⟨by rw [relC_congr HD.out], Below.setRow RB.out (by omega) _⟩
  · go_simp
    go_wp2_with (go_at_call 51; (with_reducible refine (CG _).out.mono ?_); rintro e wd ⟨rfl, hb⟩)
    replace K0 := Lib.hid (K0.out.kept hb)
    replace K1 := Lib.hid (K1.out.kept hb)
    replace KB := Lib.hid (bnext KB.out hb)
    try replace K2 := Lib.hid (K2.out.kept hb)
    clear hb
    refine wpAny_ready (rs := [0, 3]) (by kernel_rfl) (by simp) ?_
    refine AllReady.cons rfl (fun K hK => ?_) (AllReady.cons rfl (fun K hK => ?_) AllReady.nil)
    · refine step_load_row rfl 56 _ rfl w.heap.size (by rfl) 56 (relC .u32 A) (0, 0) _ K0.out undR rfl (infoR _) ?_
      refine hK _ _ ?_; clear hK K
      refine wpAny_ready (rs := [2, 3]) (by kernel_rfl) (by simp) ?_
      refine AllReady.cons rfl (fun K hK => ?_) (AllReady.cons rfl (fun K hK => ?_) AllReady.nil)
      · go_simp
        go_wp2_with (go_at_call 80; (with_reducible refine (CO _).out.mono ?_); rintro e wd ⟨rfl, hb⟩)
        replace K0 := Lib.hid (K0.out.kept hb)
        replace K1 := Lib.hid (K1.out.kept hb)
        replace KB := Lib.hid (bnext KB.out hb)
        try replace K2 := Lib.hid (K2.out.kept hb)
        clear hb
        refine wpAny_ready (rs := [3]) (by kernel_rfl) (by simp) ?_
        refine AllReady.cons rfl (fun K hK => ?_) AllReady.nil
        have K2 := Lib.hid (Blk.new wd (relC .u32 noR) 56)
        have hb := (Below.refl wd.heap.size wd).alloc (Nat.le_refl _) (.cells (relC .u32 noR) 56)
        have HG := Lib.hid K1.out.lt
        refine step_r_alloc rfl rfl (some 3) rfl wd.heap.size rfl ?_
        replace K0 := Lib.hid (K0.out.kept hb)
        replace K1 := Lib.hid (K1.out.kept hb)
        replace KB := Lib.hid (bnext KB.out hb)
        clear hb
        generalize wd.alloc (.cells (relC .u32 noR) 56) = wx at *
        obtain ⟨g, hg⟩ : ∃ g, wd.heap.size = g := ⟨_, rfl⟩
        rw [hg] at K2 HG ⊢
        clear hg
        refine hK _ _ ?_; clear hK K
        refine wpAny_ready (rs := [4]) (by kernel_rfl) (by simp) ?_
        refine AllReady.cons rfl (fun K hK => ?_) AllReady.nil
        refine step_store_row rfl 56 _ _ rfl g (relC .u32 (fun i j => A i j || idR i j)) (by rfl) (by rfl) 56 (relC .u32 noR) K2.out (infoR _) (by rw [relC_size, relC_size]) (relC_one _ _) ?_
        replace K1 := Lib.hid (K1.out.rowOther (g := g) (by have := HG.out; omega) (relC .u32 (fun i j => A i j || idR i j)))
        replace KB := Lib.hid (Below.setRow KB.out (g := g) (by have := HG.out; omega) (relC .u32 (fun i j => A i j || idR i j)))
        replace K2 := Lib.hid (K2.out.row (relC .u32 (fun i j => A i j || idR i j)))
        refine hK _ _ ?_; clear hK K
        refine wpAny_done (by kernel_rfl) ?_ _
        clear K0 CG CO
        go_simp
        go_wp2_with fail
        go_loopw [] (fun wr => ∃ C : Nat → Nat → Bool, ClInv A C ∧ Hid (Blk wr g (relC .u32 C) 56) ∧ Hid (Blk wr (w.heap.size + 1) (relC .u32 noR) 56) ∧ Hid (Below w.heap.size w wr)) (fun wr => 27 * 134217728 - sumW wr g 27)
        case atStart => exact ⟨_, ClInv.start A, K2, K1, KB⟩
        case round =>
          clear K1 K2 KB
          obtain ⟨C, RI, R2, R1, RB⟩ := hrel
          have HS := Lib.hid (sumW_rel R2.out 27 (Nat.le_refl _))
          have CT := fun w => Lib.hid (rel_then C C w)
          have HEq := fun w => r_eq (compR C C) C w
          have HGd := r_guard
          go_wp2_with (refine wpList_load_row rfl 56 _ rfl g (by rfl) 56 (relC .u32 C) (0, 0) _ R2.out undR rfl (infoR _) ?_)
          refine (CT _).out.mono ?_
          rintro e w2 ⟨rfl, hb⟩
          replace R2 := Lib.hid (R2.out.kept hb)
          replace R1 := Lib.hid (R1.out.kept hb)
          replace RB := Lib.hid (bnext RB.out hb)
          clear hb CT
          obtain ⟨p0, pb⟩ := push_blk w2 (relC .u32 noR) (relC .u32 (compR C C)) 56
          have P0 := Lib.hid p0
          have L0 := Lib.hid (Blk.new w2 (relC .u32 noR) 56)
          replace R2 := Lib.hid (R2.out.kept pb)
          replace R1 := Lib.hid (R1.out.kept pb)
          replace RB := Lib.hid (bnext RB.out pb)
          clear p0 pb
          cases hE : relEq (compR C C) C
          · rw [hE] at HEq
            have HI := Lib.hid (RI.step)
            have HL := Lib.hid (RI.grows hE)
            have HM := Lib.hid (sumR_lt (compR C C) 27)
            clear hE RI
            go_wp2_with (first
              | (refine r_alloc rfl rfl (some 4) rfl w2.heap.size rfl ?_)
              | (refine wpList_store_row rfl 56 _ _ rfl w2.heap.size (relC .u32 (compR C C)) (by rfl) (by rfl) 56 (relC .u32 noR) L0.out (infoR _) (by rw [relC_size, relC_size]) (relC_one _ _) ?_)
              | (refine wpList_load_row rfl 56 _ rfl w2.heap.size (by rfl) 56 (relC .u32 (compR C C)) (0, 0) _ P0.out undR rfl (infoR _) ?_)
              | (refine wpList_load_row rfl 56 _ rfl g (by rfl) 56 (relC .u32 C) (0, 0) _ R2.out undR rfl (infoR _) ?_)
              | (refine wpList_store_row rfl 56 _ _ rfl g (relC .u32 (compR C C)) (by rfl) (by rfl) 56 (relC .u32 C) R2.out (infoR _) (by rw [relC_size, relC_size]) (relC_one _ _) ?_))
            have N2 := Lib.hid (R2.out.row (relC .u32 (compR C C)))
            have hn := sumW_rel N2.out 27 (Nat.le_refl _)
            go_round
            case rel => exact ⟨_, _, _, _, _, _, _, _, _, ⟨compR C C, HI.out, N2, Lib.hid (R1.out.rowOther (g := g) (by have := HG.out; omega) _), Lib.hid (Below.setRow RB.out (g := g) (by have := HG.out; omega) _)⟩, rfl⟩
            case measure =>
              rw [hn, HS.out]
              have h1 := HL.out
              have h2 := HM.out
              omega
          · rw [hE] at HEq
            have HD := Lib.hid (RI.done hE)
            clear hE RI
            go_wp2_with (first
              | (refine r_alloc rfl rfl (some 4) rfl w2.heap.size rfl ?_)
              | (refine wpList_store_row rfl 56 _ _ rfl w2.heap.size (relC .u32 (compR C C)) (by rfl) (by rfl) 56 (relC .u32 noR) L0.out (infoR _) (by rw [relC_size, relC_size]) (relC_one _ _) ?_)
              | (refine wpList_load_row rfl 56 _ rfl w2.heap.size (by rfl) 56 (relC .u32 (compR C C)) (0, 0) _ P0.out undR rfl (infoR _) ?_)
              | (refine wpList_load_row rfl 56 _ rfl g (by rfl) 56 (relC .u32 C) (0, 0) _ R2.out undR rfl (infoR _) ?_)
              | (refine wpList_store_row rfl 56 _ _ rfl (w.heap.size + 1) (relC .u32 C) (by rfl) (by rfl) 56 (relC .u32 noR) R1.out (infoR _) (by rw [relC_size, relC_size]) (relC_one _ _) ?_))
            exact bodyPost_ret (v := .agg (relC .u32 C)) (results_cell_row rfl _ _ (w.heap.size + 1) 56 _ (0, 0) _ (by rfl) (R1.out.row _) undR rfl (infoR _)) rfl ⟨by rw [relC_congr HD.out], Below.setRow RB.out (by omega) _⟩
      · have K2 := Lib.hid (Blk.new wd (relC .u32 noR) 56)
        have hb := (Below.refl wd.heap.size wd).alloc (Nat.le_refl _) (.cells (relC .u32 noR) 56)
        have HG := Lib.hid K1.out.lt
        refine step_r_alloc rfl rfl (some 3) rfl wd.heap.size rfl ?_
        replace K0 := Lib.hid (K0.out.kept hb)
        replace K1 := Lib.hid (K1.out.kept hb)
        replace KB := Lib.hid (bnext KB.out hb)
        clear hb
        generalize wd.alloc (.cells (relC .u32 noR) 56) = wx at *
        obtain ⟨g, hg⟩ : ∃ g, wd.heap.size = g := ⟨_, rfl⟩
        rw [hg] at K2 HG ⊢
        clear hg
        refine hK _ _ ?_; clear hK K
        refine wpAny_ready (rs := [2]) (by kernel_rfl) (by simp) ?_
        refine AllReady.cons rfl (fun K hK => ?_) AllReady.nil
        go_simp
        go_wp2_with (go_at_call 80; (with_reducible refine (CO _).out.mono ?_); rintro e wd ⟨rfl, hb⟩)
        replace K0 := Lib.hid (K0.out.kept hb)
        replace K1 := Lib.hid (K1.out.kept hb)
        replace KB := Lib.hid (bnext KB.out hb)
        try replace K2 := Lib.hid (K2.out.kept hb)
        clear hb
        refine wpAny_ready (rs := [4]) (by kernel_rfl) (by simp) ?_
        refine AllReady.cons rfl (fun K hK => ?_) AllReady.nil
        refine step_store_row rfl 56 _ _ rfl g (relC .u32 (fun i j => A i j || idR i j)) (by rfl) (by rfl) 56 (relC .u32 noR) K2.out (infoR _) (by rw [relC_size, relC_size]) (relC_one _ _) ?_
        replace K1 := Lib.hid (K1.out.rowOther (g := g) (by have := HG.out; omega) (relC .u32 (fun i j => A i j || idR i j)))
        replace KB := Lib.hid (Below.setRow KB.out (g := g) (by have := HG.out; omega) (relC .u32 (fun i j => A i j || idR i j)))
        replace K2 := Lib.hid (K2.out.row (relC .u32 (fun i j => A i j || idR i j)))
        refine hK _ _ ?_; clear hK K
        refine wpAny_done (by kernel_rfl) ?_ _
        clear K0 CG CO
        go_simp
        go_wp2_with fail
        go_loopw [] (fun wr => ∃ C : Nat → Nat → Bool, ClInv A C ∧ Hid (Blk wr g (relC .u32 C) 56) ∧ Hid (Blk wr (w.heap.size + 1) (relC .u32 noR) 56) ∧ Hid (Below w.heap.size w wr)) (fun wr => 27 * 134217728 - sumW wr g 27)
        case atStart => exact ⟨_, ClInv.start A, K2, K1, KB⟩
        case round =>
          clear K1 K2 KB
          obtain ⟨C, RI, R2, R1, RB⟩ := hrel
          have HS := Lib.hid (sumW_rel R2.out 27 (Nat.le_refl _))
          have CT := fun w => Lib.hid (rel_then C C w)
          have HEq := fun w => r_eq (compR C C) C w
          have HGd := r_guard
          go_wp2_with (refine wpList_load_row rfl 56 _ rfl g (by rfl) 56 (relC .u32 C) (0, 0) _ R2.out undR rfl (infoR _) ?_)
          refine (CT _).out.mono ?_
          rintro e w2 ⟨rfl, hb⟩
          replace R2 := Lib.hid (R2.out.kept hb)
          replace R1 := Lib.hid (R1.out.kept hb)
          replace RB := Lib.hid (bnext RB.out hb)
          clear hb CT
          obtain ⟨p0, pb⟩ := push_blk w2 (relC .u32 noR) (relC .u32 (compR C C)) 56
          have P0 := Lib.hid p0
          have L0 := Lib.hid (Blk.new w2 (relC .u32 noR) 56)
          replace R2 := Lib.hid (R2.out.kept pb)
          replace R1 := Lib.hid (R1.out.kept pb)
          replace RB := Lib.hid (bnext RB.out pb)
          clear p0 pb
          cases hE : relEq (compR C C) C
          · rw [hE] at HEq
            have HI := Lib.hid (RI.step)
            have HL := Lib.hid (RI.grows hE)
            have HM := Lib.hid (sumR_lt (compR C C) 27)
            clear hE RI
            go_wp2_with (first
              | (refine r_alloc rfl rfl (some 4) rfl w2.heap.size rfl ?_)
              | (refine wpList_store_row rfl 56 _ _ rfl w2.heap.size (relC .u32 (compR C C)) (by rfl) (by rfl) 56 (relC .u32 noR) L0.out (infoR _) (by rw [relC_size, relC_size]) (relC_one _ _) ?_)
              | (refine wpList_load_row rfl 56 _ rfl w2.heap.size (by rfl) 56 (relC .u32 (compR C C)) (0, 0) _ P0.out undR rfl (infoR _) ?_)
              | (refine wpList_load_row rfl 56 _ rfl g (by rfl) 56 (relC .u32 C) (0, 0) _ R2.out undR rfl (infoR _) ?_)
              | (refine wpList_store_row rfl 56 _ _ rfl g (relC .u32 (compR C C)) (by rfl) (by rfl) 56 (relC .u32 C) R2.out (infoR _) (by rw [relC_size, relC_size]) (relC_one _ _) ?_))
            have N2 := Lib.hid (R2.out.row (relC .u32 (compR C C)))
            have hn := sumW_rel N2.out 27 (Nat.le_refl _)
            go_round
            case rel => exact ⟨_, _, _, _, _, _, _, _, _, ⟨compR C C, HI.out, N2, Lib.hid (R1.out.rowOther (g := g) (by have := HG.out; omega) _), Lib.hid (Below.setRow RB.out (g := g) (by have := HG.out; omega) _)⟩, rfl⟩
            case measure =>
              rw [hn, HS.out]
              have h1 := HL.out
              have h2 := HM.out
              omega
          · rw [hE] at HEq
            have HD := Lib.hid (RI.done hE)
            clear hE RI
            go_wp2_with (first
              | (refine r_alloc rfl rfl (some 4) rfl w2.heap.size rfl ?_)
              | (refine wpList_store_row rfl 56 _ _ rfl w2.heap.size (relC .u32 (compR C C)) (by rfl) (by rfl) 56 (relC .u32 noR) L0.out (infoR _) (by rw [relC_size, relC_size]) (relC_one _ _) ?_)
              | (refine wpList_load_row rfl 56 _ rfl w2.heap.size (by rfl) 56 (relC .u32 (compR C C)) (0, 0) _ P0.out undR rfl (infoR _) ?_)
              | (refine wpList_load_row rfl 56 _ rfl g (by rfl) 56 (relC .u32 C) (0, 0) _ R2.out undR rfl (infoR _) ?_)
              | (refine wpList_store_row rfl 56 _ _ rfl (w.heap.size + 1) (relC .u32 C) (by rfl) (by rfl) 56 (relC .u32 noR) R1.out (infoR _) (by rw [relC_size, relC_size]) (relC_one _ _) ?_))
            exact bodyPost_ret (v := .agg (relC .u32 C)) (results_cell_row rfl _ _ (w.heap.size + 1) 56 _ (0, 0) _ (by rfl) (R1.out.row _) undR rfl (infoR _)) rfl ⟨by rw [relC_congr HD.out], Below.setRow RB.out (by omega) _⟩
    · have K2 := Lib.hid (Blk.new wd (relC .u32 noR) 56)
      have hb := (Below.refl wd.heap.size wd).alloc (Nat.le_refl _) (.cells (relC .u32 noR) 56)
      have HG := Lib.hid K1.out.lt
      refine step_r_alloc rfl rfl (some 3) rfl wd.heap.size rfl ?_
      replace K0 := Lib.hid (K0.out.kept hb)
      replace K1 := Lib.hid (K1.out.kept hb)
      replace KB := Lib.hid (bnext KB.out hb)
      clear hb
      generalize wd.alloc (.cells (relC .u32 noR) 56) = wx at *
      obtain ⟨g, hg⟩ : ∃ g, wd.heap.size = g := ⟨_, rfl⟩
      rw [hg] at K2 HG ⊢
      clear hg
      refine hK _ _ ?_; clear hK K
      refine wpAny_ready (rs := [0]) (by kernel_rfl) (by simp) ?_
      refine AllReady.cons rfl (fun K hK => ?_) AllReady.nil
      refine step_load_row rfl 56 _ rfl w.heap.size (by rfl) 56 (relC .u32 A) (0, 0) _ K0.out undR rfl (infoR _) ?_
      refine hK _ _ ?_; clear hK K
      refine wpAny_ready (rs := [2]) (by kernel_rfl) (by simp) ?_
      refine AllReady.cons rfl (fun K hK => ?_) AllReady.nil
      go_simp
      go_wp2_with (go_at_call 80; (with_reducible refine (CO _).out.mono ?_); rintro e wd ⟨rfl, hb⟩)
      replace K0 := Lib.hid (K0.out.kept hb)
      replace K1 := Lib.hid (K1.out.kept hb)
      replace KB := Lib.hid (bnext KB.out hb)
      try replace K2 := Lib.hid (K2.out.kept hb)
      clear hb
      refine wpAny_ready (rs := [4]) (by kernel_rfl) (by simp) ?_
      refine AllReady.cons rfl (fun K hK => ?_) AllReady.nil
      refine step_store_row rfl 56 _ _ rfl g (relC .u32 (fun i j => A i j || idR i j)) (by rfl) (by rfl) 56 (relC .u32 noR) K2.out (infoR _) (by rw [relC_size, relC_size]) (relC_one _ _) ?_
      replace K1 := Lib.hid (K1.out.rowOther (g := g) (by have := HG.out; omega) (relC .u32 (fun i j => A i j || idR i j)))
      replace KB := Lib.hid (Below.setRow KB.out (g := g) (by have := HG.out; omega) (relC .u32 (fun i j => A i j || idR i j)))
      replace K2 := Lib.hid (K2.out.row (relC .u32 (fun i j => A i j || idR i j)))
      refine hK _ _ ?_; clear hK K
      refine wpAny_done (by kernel_rfl) ?_ _
      clear K0 CG CO
      go_simp
      go_wp2_with fail
      go_loopw [] (fun wr => ∃ C : Nat → Nat → Bool, ClInv A C ∧ Hid (Blk wr g (relC .u32 C) 56) ∧ Hid (Blk wr (w.heap.size + 1) (relC .u32 noR) 56) ∧ Hid (Below w.heap.size w wr)) (fun wr => 27 * 134217728 - sumW wr g 27)
      case atStart => exact ⟨_, ClInv.start A, K2, K1, KB⟩
      case round =>
        clear K1 K2 KB
        obtain ⟨C, RI, R2, R1, RB⟩ := hrel
        have HS := Lib.hid (sumW_rel R2.out 27 (Nat.le_refl _))
        have CT := fun w => Lib.hid (rel_then C C w)
        have HEq := fun w => r_eq (compR C C) C w
        have HGd := r_guard
        go_wp2_with (refine wpList_load_row rfl 56 _ rfl g (by rfl) 56 (relC .u32 C) (0, 0) _ R2.out undR rfl (infoR _) ?_)
        refine (CT _).out.mono ?_
        rintro e w2 ⟨rfl, hb⟩
        replace R2 := Lib.hid (R2.out.kept hb)
        replace R1 := Lib.hid (R1.out.kept hb)
        replace RB := Lib.hid (bnext RB.out hb)
        clear hb CT
        obtain ⟨p0, pb⟩ := push_blk w2 (relC .u32 noR) (relC .u32 (compR C C)) 56
        have P0 := Lib.hid p0
        have L0 := Lib.hid (Blk.new w2 (relC .u32 noR) 56)
        replace R2 := Lib.hid (R2.out.kept pb)
        replace R1 := Lib.hid (R1.out.kept pb)
        replace RB := Lib.hid (bnext RB.out pb)
        clear p0 pb
        cases hE : relEq (compR C C) C
        · rw [hE] at HEq
          have HI := Lib.hid (RI.step)
          have HL := Lib.hid (RI.grows hE)
          have HM := Lib.hid (sumR_lt (compR C C) 27)
          clear hE RI
          go_wp2_with (first
            | (refine r_alloc rfl rfl (some 4) rfl w2.heap.size rfl ?_)
            | (refine wpList_store_row rfl 56 _ _ rfl w2.heap.size (relC .u32 (compR C C)) (by rfl) (by rfl) 56 (relC .u32 noR) L0.out (infoR _) (by rw [relC_size, relC_size]) (relC_one _ _) ?_)
            | (refine wpList_load_row rfl 56 _ rfl w2.heap.size (by rfl) 56 (relC .u32 (compR C C)) (0, 0) _ P0.out undR rfl (infoR _) ?_)
            | (refine wpList_load_row rfl 56 _ rfl g (by rfl) 56 (relC .u32 C) (0, 0) _ R2.out undR rfl (infoR _) ?_)
            | (refine wpList_store_row rfl 56 _ _ rfl g (relC .u32 (compR C C)) (by rfl) (by rfl) 56 (relC .u32 C) R2.out (infoR _) (by rw [relC_size, relC_size]) (relC_one _ _) ?_))
          have N2 := Lib.hid (R2.out.row (relC .u32 (compR C C)))
          have hn := sumW_rel N2.out 27 (Nat.le_refl _)
          go_round
          case rel => exact ⟨_, _, _, _, _, _, _, _, _, ⟨compR C C, HI.out, N2, Lib.hid (R1.out.rowOther (g := g) (by have := HG.out; omega) _), Lib.hid (Below.setRow RB.out (g := g) (by have := HG.out; omega) _)⟩, rfl⟩
          case measure =>
            rw [hn, HS.out]
            have h1 := HL.out
            have h2 := HM.out
            omega
        · rw [hE] at HEq
          have HD := Lib.hid (RI.done hE)
          clear hE RI
          go_wp2_with (first
            | (refine r_alloc rfl rfl (some 4) rfl w2.heap.size rfl ?_)
            | (refine wpList_store_row rfl 56 _ _ rfl w2.heap.size (relC .u32 (compR C C)) (by rfl) (by rfl) 56 (relC .u32 noR) L0.out (infoR _) (by rw [relC_size, relC_size]) (relC_one _ _) ?_)
            | (refine wpList_load_row rfl 56 _ rfl w2.heap.size (by rfl) 56 (relC .u32 (compR C C)) (0, 0) _ P0.out undR rfl (infoR _) ?_)
            | (refine wpList_load_row rfl 56 _ rfl g (by rfl) 56 (relC .u32 C) (0, 0) _ R2.out undR rfl (infoR _) ?_)
            | (refine wpList_store_row rfl 56 _ _ rfl (w.heap.size + 1) (relC .u32 C) (by rfl) (by rfl) 56 (relC .u32 noR) R1.out (infoR _) (by rw [relC_size, relC_size]) (relC_one _ _) ?_))
          exact bodyPost_ret (v := .agg (relC .u32 C)) (results_cell_row rfl _ _ (w.heap.size + 1) 56 _ (0, 0) _ (by rfl) (R1.out.row _) undR rfl (infoR _)) rfl ⟨by rw [relC_congr HD.out], Below.setRow RB.out (by omega) _⟩
  · have K2 := Lib.hid (Blk.new wd (relC .u32 noR) 56)
    have hb := (Below.refl wd.heap.size wd).alloc (Nat.le_refl _) (.cells (relC .u32 noR) 56)
    have HG := Lib.hid K1.out.lt
    refine step_r_alloc rfl rfl (some 3) rfl wd.heap.size rfl ?_
    replace K0 := Lib.hid (K0.out.kept hb)
    replace K1 := Lib.hid (K1.out.kept hb)
    replace KB := Lib.hid (bnext KB.out hb)
    clear hb
    generalize wd.alloc (.cells (relC .u32 noR) 56) = wx at *
    obtain ⟨g, hg⟩ : ∃ g, wd.heap.size = g := ⟨_, rfl⟩
    rw [hg] at K2 HG ⊢
    clear hg
    refine hK _ _ ?_; clear hK K
    refine wpAny_ready (rs := [0, 1]) (by kernel_rfl) (by simp) ?_
    refine AllReady.cons rfl (fun K hK => ?_) (AllReady.cons rfl (fun K hK => ?_) AllReady.nil)
    · refine step_load_row rfl 56 _ rfl w.heap.size (by rfl) 56 (relC .u32 A) (0, 0) _ K0.out undR rfl (infoR _) ?_
      refine hK _ _ ?_; clear hK K
      refine wpAny_ready (rs := [1]) (by kernel_rfl) (by simp) ?_
      refine AllReady.cons rfl (fun K hK => ?_) AllReady.nil
      go_simp
      go_wp2_with (go_at_call 51; (with_reducible refine (CG _).out.mono ?_); rintro e wd ⟨rfl, hb⟩)
      replace K0 := Lib.hid (K0.out.kept hb)
      replace K1 := Lib.hid (K1.out.kept hb)
      replace KB := Lib.hid (bnext KB.out hb)
      try replace K2 := Lib.hid (K2.out.kept hb)
      clear hb
      refine wpAny_ready (rs := [2]) (by kernel_rfl) (by simp) ?_
      refine AllReady.cons rfl (fun K hK => ?_) AllReady.nil
      go_simp
      go_wp2_with (go_at_call 80; (with_reducible refine (CO _).out.mono ?_); rintro e wd ⟨rfl, hb⟩)
      replace K0 := Lib.hid (K0.out.kept hb)
      replace K1 := Lib.hid (K1.out.kept hb)
      replace KB := Lib.hid (bnext KB.out hb)
      try replace K2 := Lib.hid (K2.out.kept hb)
      clear hb
      refine wpAny_ready (rs := [4]) (by kernel_rfl) (by simp) ?_
      refine AllReady.cons rfl (fun K hK => ?_) AllReady.nil
      refine step_store_row rfl 56 _ _ rfl g (relC .u32 (fun i j => A i j || idR i j)) (by rfl) (by rfl) 56 (relC .u32 noR) K2.out (infoR _) (by rw [relC_size, relC_size]) (relC_one _ _) ?_
      replace K1 := Lib.hid (K1.out.rowOther (g := g) (by have := HG.out; omega) (relC .u32 (fun i j => A i j || idR i j)))
      replace KB := Lib.hid (Below.setRow KB.out (g := g) (by have := HG.out; omega) (relC .u32 (fun i j => A i j || idR i j)))
      replace K2 := Lib.hid (K2.out.row (relC .u32 (fun i j => A i j || idR i j)))
      refine hK _ _ ?_; clear hK K
      refine wpAny_done (by kernel_rfl) ?_ _
      clear K0 CG CO
      go_simp
      go_wp2_with fail
      go_loopw [] (fun wr => ∃ C : Nat → Nat → Bool, ClInv A C ∧ Hid (Blk wr g (relC .u32 C) 56) ∧ Hid (Blk wr (w.heap.size + 1) (relC .u32 noR) 56) ∧ Hid (Below w.heap.size w wr)) (fun wr => 27 * 134217728 - sumW wr g 27)
      case atStart => exact ⟨_, ClInv.start A, K2, K1, KB⟩
      case round =>
        clear K1 K2 KB
        obtain ⟨C, RI, R2, R1, RB⟩ := hrel
        have HS := Lib.hid (sumW_rel R2.out 27 (Nat.le_refl _))
        have CT := fun w => Lib.hid (rel_then C C w)
        have HEq := fun w => r_eq (compR C C) C w
        have HGd := r_guard
        go_wp2_with (refine wpList_load_row rfl 56 _ rfl g (by rfl) 56 (relC .u32 C) (0, 0) _ R2.out undR rfl (infoR _) ?_)
        refine (CT _).out.mono ?_
        rintro e w2 ⟨rfl, hb⟩
        replace R2 := Lib.hid (R2.out.kept hb)
        replace R1 := Lib.hid (R1.out.kept hb)
        replace RB := Lib.hid (bnext RB.out hb)
        clear hb CT
        obtain ⟨p0, pb⟩ := push_blk w2 (relC .u32 noR) (relC .u32 (compR C C)) 56
        have P0 := Lib.hid p0
        have L0 := Lib.hid (Blk.new w2 (relC .u32 noR) 56)
        replace R2 := Lib.hid (R2.out.kept pb)
        replace R1 := Lib.hid (R1.out.kept pb)
        replace RB := Lib.hid (bnext RB.out pb)
        clear p0 pb
        cases hE : relEq (compR C C) C
        · rw [hE] at HEq
          have HI := Lib.hid (RI.step)
          have HL := Lib.hid (RI.grows hE)
          have HM := Lib.hid (sumR_lt (compR C C) 27)
          clear hE RI
          go_wp2_with (first
            | (refine r_alloc rfl rfl (some 4) rfl w2.heap.size rfl ?_)
            | (refine wpList_store_row rfl 56 _ _ rfl w2.heap.size (relC .u32 (compR C C)) (by rfl) (by rfl) 56 (relC .u32 noR) L0.out (infoR _) (by rw [relC_size, relC_size]) (relC_one _ _) ?_)
            | (refine wpList_load_row rfl 56 _ rfl w2.heap.size (by rfl) 56 (relC .u32 (compR C C)) (0, 0) _ P0.out undR rfl (infoR _) ?_)
            | (refine wpList_load_row rfl 56 _ rfl g (by rfl) 56 (relC .u32 C) (0, 0) _ R2.out undR rfl (infoR _) ?_)
            | (refine wpList_store_row rfl 56 _ _ rfl g (relC .u32 (compR C C)) (by rfl) (by rfl) 56 (relC .u32 C) R2.out (infoR _) (by rw [relC_size, relC_size]) (relC_one _ _) ?_))
          have N2 := Lib.hid (R2.out.row (relC .u32 (compR C C)))
          have hn := sumW_rel N2.out 27 (Nat.le_refl _)
          go_round
          case rel => exact ⟨_, _, _, _, _, _, _, _, _, ⟨compR C C, HI.out, N2, Lib.hid (R1.out.rowOther (g := g) (by have := HG.out; omega) _), Lib.hid (Below.setRow RB.out (g := g) (by have := HG.out; omega) _)⟩, rfl⟩
          case measure =>
            rw [hn, HS.out]
            have h1 := HL.out
            have h2 := HM.out
            omega
        · rw [hE] at HEq
          have HD := Lib.hid (RI.done hE)
          clear hE RI
          go_wp2_with (first
            | (refine r_alloc rfl rfl (some 4) rfl w2.heap.size rfl ?_)
            | (refine wpList_store_row rfl 56 _ _ rfl w2.heap.size (relC .u32 (compR C C)) (by rfl) (by rfl) 56 (relC .u32 noR) L0.out (infoR _) (by rw [relC_size, relC_size]) (relC_one _ _) ?_)
            | (refine wpList_load_row rfl 56 _ rfl w2.heap.size (by rfl) 56 (relC .u32 (compR C C)) (0, 0) _ P0.out undR rfl (infoR _) ?_)
            | (refine wpList_load_row rfl 56 _ rfl g (by rfl) 56 (relC .u32 C) (0, 0) _ R2.out undR rfl (infoR _) ?_)
            | (refine wpList_store_row rfl 56 _ _ rfl (w.heap.size + 1) (relC .u32 C) (by rfl) (by rfl) 56 (relC .u32 noR) R1.out (infoR _) (by rw [relC_size, relC_size]) (relC_one _ _) ?_))
          exact bodyPost_ret (v := .agg (relC .u32 C)) (results_cell_row rfl _ _ (w.heap.size + 1) 56 _ (0, 0) _ (by rfl) (R1.out.row _) undR rfl (infoR _)) rfl ⟨by rw [relC_congr HD.out], Below.setRow RB.out (by omega) _⟩
    · go_simp
      go_wp2_with (go_at_call 51; (with_reducible refine (CG _).out.mono ?_); rintro e wd ⟨rfl, hb⟩)
      replace K0 := Lib.hid (K0.out.kept hb)
      replace K1 := Lib.hid (K1.out.kept hb)
      replace KB := Lib.hid (bnext KB.out hb)
      try replace K2 := Lib.hid (K2.out.kept hb)
      clear hb
      refine wpAny_ready (rs := [0]) (by kernel_rfl) (by simp) ?_
      refine AllReady.cons rfl (fun K hK => ?_) AllReady.nil
      refine step_load_row rfl 56 _ rfl w.heap.size (by rfl) 56 (relC .u32 A) (0, 0) _ K0.out undR rfl (infoR _) ?_
      refine hK _ _ ?_; clear hK K
      refine wpAny_ready (rs := [2]) (by kernel_rfl) (by simp) ?_
      refine AllReady.cons rfl (fun K hK => ?_) AllReady.nil
      go_simp
      go_wp2_with (go_at_call 80; (with_reducible refine (CO _).out.mono ?_); rintro e wd ⟨rfl, hb⟩)
      replace K0 := Lib.hid (K0.out.kept hb)
      replace K1 := Lib.hid (K1.out.kept hb)
      replace KB := Lib.hid (bnext KB.out hb)
      try replace K2 := Lib.hid (K2.out.kept hb)
      clear hb
      refine wpAny_ready (rs := [4]) (by kernel_rfl) (by simp) ?_
      refine AllReady.cons rfl (fun K hK => ?_) AllReady.nil
      refine step_store_row rfl 56 _ _ rfl g (relC .u32 (fun i j => A i j || idR i j)) (by rfl) (by rfl) 56 (relC .u32 noR) K2.out (infoR _) (by rw [relC_size, relC_size]) (relC_one _ _) ?_
      replace K1 := Lib.hid (K1.out.rowOther (g := g) (by have := HG.out; omega) (relC .u32 (fun i j => A i j || idR i j)))
      replace KB := Lib.hid (Below.setRow KB.out (g := g) (by have := HG.out; omega) (relC .u32 (fun i j => A i j || idR i j)))
      replace K2 := Lib.hid (K2.out.row (relC .u32 (fun i j => A i j || idR i j)))
      refine hK _ _ ?_; clear hK K
      refine wpAny_done (by kernel_rfl) ?_ _
      clear K0 CG CO
      go_simp
      go_wp2_with fail
      go_loopw [] (fun wr => ∃ C : Nat → Nat → Bool, ClInv A C ∧ Hid (Blk wr g (relC .u32 C) 56) ∧ Hid (Blk wr (w.heap.size + 1) (relC .u32 noR) 56) ∧ Hid (Below w.heap.size w wr)) (fun wr => 27 * 134217728 - sumW wr g 27)
      case atStart => exact ⟨_, ClInv.start A, K2, K1, KB⟩
      case round =>
        clear K1 K2 KB
        obtain ⟨C, RI, R2, R1, RB⟩ := hrel
        have HS := Lib.hid (sumW_rel R2.out 27 (Nat.le_refl _))
        have CT := fun w => Lib.hid (rel_then C C w)
        have HEq := fun w => r_eq (compR C C) C w
        have HGd := r_guard
        go_wp2_with (refine wpList_load_row rfl 56 _ rfl g (by rfl) 56 (relC .u32 C) (0, 0) _ R2.out undR rfl (infoR _) ?_)
        refine (CT _).out.mono ?_
        rintro e w2 ⟨rfl, hb⟩
        replace R2 := Lib.hid (R2.out.kept hb)
        replace R1 := Lib.hid (R1.out.kept hb)
        replace RB := Lib.hid (bnext RB.out hb)
        clear hb CT
        obtain ⟨p0, pb⟩ := push_blk w2 (relC .u32 noR) (relC .u32 (compR C C)) 56
        have P0 := Lib.hid p0
        have L0 := Lib.hid (Blk.new w2 (relC .u32 noR) 56)
        replace R2 := Lib.hid (R2.out.kept pb)
        replace R1 := Lib.hid (R1.out.kept pb)
        replace RB := Lib.hid (bnext RB.out pb)
        clear p0 pb
        cases hE : relEq (compR C C) C
        · rw [hE] at HEq
          have HI := Lib.hid (RI.step)
          have HL := Lib.hid (RI.grows hE)
          have HM := Lib.hid (sumR_lt (compR C C) 27)
          clear hE RI
          go_wp2_with (first
            | (refine r_alloc rfl rfl (some 4) rfl w2.heap.size rfl ?_)
            | (refine wpList_store_row rfl 56 _ _ rfl w2.heap.size (relC .u32 (compR C C)) (by rfl) (by rfl) 56 (relC .u32 noR) L0.out (infoR _) (by rw [relC_size, relC_size]) (relC_one _ _) ?_)
            | (refine wpList_load_row rfl 56 _ rfl w2.heap.size (by rfl) 56 (relC .u32 (compR C C)) (0, 0) _ P0.out undR rfl (infoR _) ?_)
            | (refine wpList_load_row rfl 56 _ rfl g (by rfl) 56 (relC .u32 C) (0, 0) _ R2.out undR rfl (infoR _) ?_)
            | (refine wpList_store_row rfl 56 _ _ rfl g (relC .u32 (compR C C)) (by rfl) (by rfl) 56 (relC .u32 C) R2.out (infoR _) (by rw [relC_size, relC_size]) (relC_one _ _) ?_))
          have N2 := Lib.hid (R2.out.row (relC .u32 (compR C C)))
          have hn := sumW_rel N2.out 27 (Nat.le_refl _)
          go_round
          case rel => exact ⟨_, _, _, _, _, _, _, _, _, ⟨compR C C, HI.out, N2, Lib.hid (R1.out.rowOther (g := g) (by have := HG.out; omega) _), Lib.hid (Below.setRow RB.out (g := g) (by have := HG.out; omega) _)⟩, rfl⟩
          case measure =>
            rw [hn, HS.out]
            have h1 := HL.out
            have h2 := HM.out
            omega
        · rw [hE] at HEq
          have HD := Lib.hid (RI.done hE)
          clear hE RI
          go_wp2_with (first
            | (refine r_alloc rfl rfl (some 4) rfl w2.heap.size rfl ?_)
            | (refine wpList_store_row rfl 56 _ _ rfl w2.heap.size (relC .u32 (compR C C)) (by rfl) (by rfl) 56 (relC .u32 noR) L0.out (infoR _) (by rw [relC_size, relC_size]) (relC_one _ _) ?_)
            | (refine wpList_load_row rfl 56 _ rfl w2.heap.size (by rfl) 56 (relC .u32 (compR C C)) (0, 0) _ P0.out undR rfl (infoR _) ?_)
            | (refine wpList_load_row rfl 56 _ rfl g (by rfl) 56 (relC .u32 C) (0, 0) _ R2.out undR rfl (infoR _) ?_)
            | (refine wpList_store_row rfl 56 _ _ rfl (w.heap.size + 1) (relC .u32 C) (by rfl) (by rfl) 56 (relC .u32 noR) R1.out (infoR _) (by rw [relC_size, relC_size]) (relC_one _ _) ?_))
          exact bodyPost_ret (v := .agg (relC .u32 C)) (results_cell_row rfl _ _ (w.heap.size + 1) 56 _ (0, 0) _ (by rfl) (R1.out.row _) undR rfl (infoR _)) rfl ⟨by rw [relC_congr HD.out], Below.setRow RB.out (by omega) _⟩
end Go.Proofs.YtheclmdpiijakaaGreatDoor
