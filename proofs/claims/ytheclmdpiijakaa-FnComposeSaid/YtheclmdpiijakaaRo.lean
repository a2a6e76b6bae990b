/-
  The methods of a relation of the program: and, or, not, text, image, shadow, count, turned, then.
-/
import Derived.Test.YtheclmdpiijakaaTopG
import Derived.Test.YtheclmdpiijakaaSetX
import Derived.Test.YtheclmdpiijakaaSetC
namespace Go.Proofs.Ytheclmdpiijakaa
open Go.RowKit Go.Great

theorem u_and (F G : Nat → Bool) : bits .and .u32 (nb 27 F : Nat) (nb 27 G : Nat) = (nb 27 (fun i => F i && G i) : Nat) := by
  have h := nb_lt27 F; have h' := nb_lt27 G
  rw [u32_and_nat _ _ (by omega) (by omega), nb_and]
theorem u_or (F G : Nat → Bool) : bits .or .u32 (nb 27 F : Nat) (nb 27 G : Nat) = (nb 27 (fun i => F i || G i) : Nat) := by
  have h := nb_lt27 F; have h' := nb_lt27 G
  rw [u32_or_nat _ _ (by omega) (by omega), nb_or2]
theorem mixR_cell {w : World} {g : Nat} {A B : Nat → Nat → Bool} {k : Nat} (h : Blk w g (relC .u32 (mixR k A B)) 50) (hk : k < 27) : w.cell? ⟨g, k, none⟩ = some (.int .u32 (nb 27 (B k))) := (h.cell k).trans (mixR_at hk)
theorem rel_cell {w : World} {g : Nat} {A : Nat → Nat → Bool} {k : Nat} (h : Blk w g (relC .u32 A) 50) (hk : k < 27) : w.cell? ⟨g, k, none⟩ = some (.int .u32 (nb 27 (A k))) := (h.cell k).trans (relC_get _ _ hk)
theorem mixR_put {w : World} {g : Nat} {A B : Nat → Nat → Bool} {k : Nat} (h : Blk w g (relC .u32 (mixR k A B)) 50) (hk : k < 27) : Blk (w.setCell ⟨g, k, none⟩ (.int .u32 (nb 27 (A k)))) g (relC .u32 (mixR (k + 1) A B)) 50 := by
  have := h.set k (.int .u32 (nb 27 (A k)))
  rwa [mixR_step hk] at this

set_option maxRecDepth 100000 in
set_option maxHeartbeats 4000000 in
theorem rel_or (A B : Nat → Nat → Bool) (w : World) : Calls Try.prog 59 #[.agg (relC .u32 A), .agg (relC .u32 B)] w (RelPost (fun i j => A i j || B i j) w) := by
  obtain ⟨k0, k1, k2, kb, kz⟩ := three_blk w (relC .u32 A) (relC .u32 B) (relC .u32 noR) 50 50 50
  have K0 := Lib.hid k0
  have K1 := Lib.hid k1
  have K2 := Lib.hid k2
  have KB := Lib.hid kb
  clear k0 k1 k2 kb kz
  go_enter Try.func59, Try.ntmps59
  go_wp2_with (first
    | (refine wpList_boxTo rfl 50 _ rfl (some 2) rfl w.heap.size rfl (relC .u32 A) (by rfl) ?_)
    | (refine wpList_boxTo rfl 50 _ rfl (some 3) rfl (w.heap.size + 1) (by simp) (relC .u32 B) (by rfl) ?_)
    | (refine r_alloc rfl rfl (some 4) rfl (w.heap.size + 2) (by simp) ?_))
  generalize ((w.alloc (.cells (relC .u32 A) 50)).alloc (.cells (relC .u32 B) 50)).alloc (.cells (relC .u32 noR) 50) = w0 at *
  go_loopw [6] (fun i wr => ∃ k : Nat, k ≤ 27 ∧ i = .int .i64 k ∧ Hid (Blk wr w.heap.size (relC .u32 (mixR k (fun i j => A i j || B i j) A)) 50) ∧ Hid (Blk wr (w.heap.size + 1) (relC .u32 B) 50) ∧ Hid (Blk wr (w.heap.size + 2) (relC .u32 noR) 50) ∧ Hid (Below w.heap.size w wr)) (fun i _ => 27 - (intOf i).toNat)
  case atStart => exact ⟨0, by omega, rfl, by rw [mixR_zero]; exact K0, K1, K2, KB⟩
  case round =>
    clear K0 K1 K2 KB
    obtain ⟨k, hk, rfl, R0, R1, R2, RB⟩ := hrel
    by_cases hlt : k < 27
    · have c0 := mixR_cell R0.out hlt
      have c1 := R0.out.free k
      have c2 := rel_cell R1.out hlt
      have HO := Lib.hid (u_or (A k) (B k))
      go_wp2_with fail
      go_region
      rw [HO.out]
      clear c0 c1 c2
      go_wp2_with fail
      exact ⟨⟨k + 1, by omega, by go_num, Lib.hid (mixR_put R0.out hlt).drew, Lib.hid (R1.out.setOther (p := ⟨w.heap.size, k, none⟩) (by show w.heap.size + 1 ≠ w.heap.size; omega) _).drew, Lib.hid (R2.out.setOther (p := ⟨w.heap.size, k, none⟩) (by show w.heap.size + 2 ≠ w.heap.size; omega) _).drew, Lib.hid (RB.out.setCell (p := ⟨w.heap.size, k, none⟩) (Nat.le_refl _) _).drew⟩, by simp [intOf]; omega⟩
    · have hk2 : k = 27 := by omega
      subst hk2
      have R := R0.out
      rw [mixR_all] at R
      replace R0 := Lib.hid R
      clear R
      go_wp2_with (first
        | (refine wpList_load_row rfl 50 _ rfl w.heap.size (by rfl) 50 (relC .u32 (fun i j => A i j || B i j)) (0, 0) _ R0.out undR rfl (infoR _) ?_)
        | (refine wpList_store_row rfl 50 _ _ rfl (w.heap.size + 2) (relC .u32 (fun i j => A i j || B i j)) (by rfl) (by rfl) 50 (relC .u32 noR) R2.out (infoR _) (by rw [relC_size, relC_size]) (relC_one _ _) ?_))
      exact bodyPost_ret (v := .agg (relC .u32 (fun i j => A i j || B i j))) (results_cell_row rfl _ _ (w.heap.size + 2) 50 _ (0, 0) _ (by rfl) (R2.out.row _) undR rfl (infoR _)) rfl ⟨rfl, Below.setRow RB.out (by omega) _⟩

set_option maxRecDepth 100000 in
set_option maxHeartbeats 4000000 in
theorem rel_text (A : Nat → Nat → Bool) (w : World) : Calls Try.prog 26 #[.agg (relC .u32 A)] w fun e w' => e = .returned (.string (bs (relT A))) ∧ Below w.heap.size w w' := by
  obtain ⟨k0, kb, kz⟩ := one_blk w (relC .u32 A) 50
  have K0 := Lib.hid k0
  have KB := Lib.hid kb
  clear k0 kb kz
  go_enter Try.func26, Try.ntmps26
  go_wp2_with (first
    | (refine wpList_boxTo rfl 50 _ rfl (some 1) rfl w.heap.size rfl (relC .u32 A) (by rfl) ?_)
    | (refine wpList_load_row rfl 50 _ rfl w.heap.size (by rfl) 50 (relC .u32 A) (0, 0) _ K0.out undR rfl (infoR _) ?_))
  generalize w.alloc (.cells (relC .u32 A) 50) = w0 at *
  go_loopw [3, 7] (fun s i wr => ∃ k : Nat, k ≤ 27 ∧ i = .int .i64 k ∧ s = .string (bs (rowsT A k)) ∧ Hid (Below w.heap.size w wr)) (fun _ i _ => 27 - (intOf i).toNat)
  case atStart => exact ⟨0, by omega, rfl, rfl, KB⟩
  case round =>
    clear K0 KB
    obtain ⟨k, hk, rfl, rfl, RB⟩ := hrel
    by_cases hlt : k < 27
    · have HI := r_index A k hlt
      have C := fun w => Lib.hid (implText (A k) w)
      have hs1 : (bs (rowsT A k)).size = 27 * k := by rw [bs_size, rowsT_len]
      have hs2 : (bs (tb (A k))).size = 27 := by rw [bs_size, tb, tbn_length]
      have hs3 : ¬ (9223372036854775807 < (bs (rowsT A k)).size + (bs (tb (A k))).size) := by omega
      have HS1 := Lib.hid hs1
      have HS2 := Lib.hid hs2
      have HA := Lib.hid (bs_append (rowsT A k) (tb (A k)))
      clear hs1 hs2
      go_wp2_with fail
      refine (C _).out.mono ?_
      rintro e w2 ⟨rfl, hb⟩
      replace RB := Lib.hid (bnext RB.out hb)
      clear hb
      go_wp2_with fail
      exact ⟨⟨k + 1, by omega, by go_num, by rw [HA.out]; rfl, RB⟩, by simp [intOf]; omega⟩
    · have hk2 : k = 27 := by omega
      subst hk2
      go_wp2_with fail
      go_ret
      exact ⟨rfl, RB.out⟩

set_option maxRecDepth 100000 in
set_option maxHeartbeats 4000000 in
theorem rel_image (A : Nat → Nat → Bool) (F : Nat → Bool) (w : World) : Calls Try.prog 49 #[.agg (relC .u32 A), .int .u32 (nb 27 F)] w fun e w' => e = .returned (.int .u32 (nb 27 (postS F A 27))) ∧ Below w.heap.size w w' := by
  obtain ⟨k0, kb, kz⟩ := one_blk w (relC .u32 A) 50
  have K0 := Lib.hid k0
  have KB := Lib.hid kb
  clear k0 kb kz
  go_enter Try.func49, Try.ntmps49
  go_wp2_with (first
    | (refine wpList_boxTo rfl 50 _ rfl (some 2) rfl w.heap.size rfl (relC .u32 A) (by rfl) ?_)
    | (refine wpList_load_row rfl 50 _ rfl w.heap.size (by rfl) 50 (relC .u32 A) (0, 0) _ K0.out undR rfl (infoR _) ?_))
  generalize w.alloc (.cells (relC .u32 A) 50) = w0 at *
  go_loopw [5, 9] (fun v i wr => ∃ k : Nat, k ≤ 27 ∧ i = .int .i64 k ∧ v = .int .u32 (nb 27 (postS F A k)) ∧ Hid (Below w.heap.size w wr)) (fun _ i _ => 27 - (intOf i).toNat)
  case atStart => exact ⟨0, by omega, rfl, by rw [nb_zero 27 (F := postS F A 0) (fun _ _ => rfl)]; rfl, KB⟩
  case round =>
    clear K0 KB
    obtain ⟨k, hk, rfl, rfl, RB⟩ := hrel
    by_cases hlt : k < 27
    · have HI := r_index A k hlt
      have C := fun w => Lib.hid (implHasB F k w hlt)
      cases hF : F k <;> rw [hF] at C
      · go_wp2_with fail
        refine (C _).out.mono ?_
        rintro e w2 ⟨rfl, rfl⟩
        go_wp2_with fail
        exact ⟨⟨k + 1, by omega, by go_num, by rw [postS_no hF], RB⟩, by simp [intOf]; omega⟩
      · have HO := Lib.hid (u_or (postS F A k) (A k))
        go_wp2_with fail
        refine (C _).out.mono ?_
        rintro e w2 ⟨rfl, rfl⟩
        go_wp2_with fail
        exact ⟨⟨k + 1, by omega, by go_num, by rw [HO.out, postS_yes hF], RB⟩, by simp [intOf]; omega⟩
    · have hk2 : k = 27 := by omega
      subst hk2
      go_wp2_with fail
      go_ret
      exact ⟨rfl, RB.out⟩

/-- How many pairs the first rows have. -/
def cntR (A : Nat → Nat → Bool) : Nat → Nat
  | 0 => 0
  | k + 1 => cntR A k + cnt 27 (A k)
theorem cntR_le (A : Nat → Nat → Bool) (k : Nat) : cntR A k ≤ 27 * k := by
  induction k with
  | zero => exact Nat.le_refl _
  | succ k ih => have := cnt_le 27 (A k); unfold cntR; omega

set_option maxRecDepth 100000 in
set_option maxHeartbeats 4000000 in
theorem rel_then (A B : Nat → Nat → Bool) (w : World) : Calls Try.prog 25 #[.agg (relC .u32 A), .agg (relC .u32 B)] w (RelPost (compR A B) w) := by
  obtain ⟨k0, k1, k2, kb, kz⟩ := three_blk w (relC .u32 A) (relC .u32 B) (relC .u32 noR) 50 50 50
  have K0 := Lib.hid k0
  have K1 := Lib.hid k1
  have K2 := Lib.hid k2
  have KB := Lib.hid kb
  clear k0 k1 k2 kb kz
  go_enter Try.func25, Try.ntmps25
  go_wp2_with (first
    | (refine wpList_boxTo rfl 50 _ rfl (some 2) rfl w.heap.size rfl (relC .u32 A) (by rfl) ?_)
    | (refine wpList_boxTo rfl 50 _ rfl (some 3) rfl (w.heap.size + 1) (by simp) (relC .u32 B) (by rfl) ?_)
    | (refine r_alloc rfl rfl (some 4) rfl (w.heap.size + 2) (by simp) ?_)
    | (refine wpList_load_row rfl 50 _ rfl w.heap.size (by rfl) 50 (relC .u32 A) (0, 0) _ K0.out undR rfl (infoR _) ?_))
  generalize ((w.alloc (.cells (relC .u32 A) 50)).alloc (.cells (relC .u32 B) 50)).alloc (.cells (relC .u32 noR) 50) = w0 at *
  go_loopw [8] (fun i wr => ∃ k : Nat, k ≤ 27 ∧ i = .int .i64 k ∧ Hid (Blk wr w.heap.size (relC .u32 (mixR k (compR A B) A)) 50) ∧ Hid (Blk wr (w.heap.size + 1) (relC .u32 B) 50) ∧ Hid (Blk wr (w.heap.size + 2) (relC .u32 noR) 50) ∧ Hid (Below w.heap.size w wr)) (fun i _ => 27 - (intOf i).toNat)
  case atStart => exact ⟨0, by omega, rfl, by rw [mixR_zero]; exact K0, K1, K2, KB⟩
  case round =>
    clear K0 K1 K2 KB
    obtain ⟨k, hk, rfl, R0, R1, R2, RB⟩ := hrel
    by_cases hlt : k < 27
    · have HI := r_index A k hlt
      go_wp2_with (refine wpList_load_row rfl 50 _ rfl (w.heap.size + 1) (by rfl) 50 (relC .u32 B) (0, 0) _ R1.out undR rfl (infoR _) ?_)
      refine (rel_image B (A k) _).mono ?_
      rintro e w2 ⟨rfl, hb⟩
      replace R0 := Lib.hid (R0.out.kept hb)
      replace R1 := Lib.hid (R1.out.kept hb)
      replace R2 := Lib.hid (R2.out.kept hb)
      replace RB := Lib.hid (bnext RB.out hb)
      have RP := mixR_put R0.out hlt
      replace RP := Lib.hid RP
      have c0 := mixR_cell R0.out hlt
      have c1 := R0.out.free k
      clear hb
      go_wp2_with fail
      exact ⟨⟨k + 1, by omega, by go_num, RP, Lib.hid (R1.out.setOther (p := ⟨w.heap.size, k, none⟩) (by show w.heap.size + 1 ≠ w.heap.size; omega) _), Lib.hid (R2.out.setOther (p := ⟨w.heap.size, k, none⟩) (by show w.heap.size + 2 ≠ w.heap.size; omega) _), Lib.hid (RB.out.setCell (p := ⟨w.heap.size, k, none⟩) (Nat.le_refl _) _)⟩, by simp [intOf]; omega⟩
    · have hk2 : k = 27 := by omega
      subst hk2
      have R := R0.out
      rw [mixR_all] at R
      replace R0 := Lib.hid R
      clear R
      go_wp2_with (first
        | (refine wpList_load_row rfl 50 _ rfl w.heap.size (by rfl) 50 (relC .u32 (compR A B)) (0, 0) _ R0.out undR rfl (infoR _) ?_)
        | (refine wpList_store_row rfl 50 _ _ rfl (w.heap.size + 2) (relC .u32 (compR A B)) (by rfl) (by rfl) 50 (relC .u32 noR) R2.out (infoR _) (by rw [relC_size, relC_size]) (relC_one _ _) ?_))
      exact bodyPost_ret (v := .agg (relC .u32 (compR A B))) (results_cell_row rfl _ _ (w.heap.size + 2) 50 _ (0, 0) _ (by rfl) (R2.out.row _) undR rfl (infoR _)) rfl ⟨rfl, Below.setRow RB.out (by omega) _⟩


end Go.Proofs.Ytheclmdpiijakaa
