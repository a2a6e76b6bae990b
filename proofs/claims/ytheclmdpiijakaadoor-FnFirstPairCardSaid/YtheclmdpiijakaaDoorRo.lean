/-
  The methods of a relation of the program: and, or, not, text, image, shadow, count, turned, then.
-/
import Derived.Test.YtheclmdpiijakaaDoorTopG
import Derived.Test.YtheclmdpiijakaaDoorSetX
import Derived.Test.YtheclmdpiijakaaDoorSetC
namespace Go.Proofs.YtheclmdpiijakaaDoor
open Go.RowKit Go.Great

theorem u_and (F G : Nat → Bool) : bits .and .u32 (nb 27 F : Nat) (nb 27 G : Nat) = (nb 27 (fun i => F i && G i) : Nat) := by
  have h := nb_lt27 F; have h' := nb_lt27 G
  rw [u32_and_nat _ _ (by omega) (by omega), nb_and]
theorem u_or (F G : Nat → Bool) : bits .or .u32 (nb 27 F : Nat) (nb 27 G : Nat) = (nb 27 (fun i => F i || G i) : Nat) := by
  have h := nb_lt27 F; have h' := nb_lt27 G
  rw [u32_or_nat _ _ (by omega) (by omega), nb_or2]
theorem mixR_cell {w : World} {g : Nat} {A B : Nat → Nat → Bool} {k : Nat} (h : Blk w g (relC .u32 (mixR k A B)) 57) (hk : k < 27) : w.cell? ⟨g, k, none⟩ = some (.int .u32 (nb 27 (B k))) := (h.cell k).trans (mixR_at hk)
theorem rel_cell {w : World} {g : Nat} {A : Nat → Nat → Bool} {k : Nat} (h : Blk w g (relC .u32 A) 57) (hk : k < 27) : w.cell? ⟨g, k, none⟩ = some (.int .u32 (nb 27 (A k))) := (h.cell k).trans (relC_get _ _ hk)
theorem mixR_put {w : World} {g : Nat} {A B : Nat → Nat → Bool} {k : Nat} (h : Blk w g (relC .u32 (mixR k A B)) 57) (hk : k < 27) : Blk (w.setCell ⟨g, k, none⟩ (.int .u32 (nb 27 (A k)))) g (relC .u32 (mixR (k + 1) A B)) 57 := by
  have := h.set k (.int .u32 (nb 27 (A k)))
  rwa [mixR_step hk] at this

set_option maxRecDepth 100000 in
set_option maxHeartbeats 4000000 in
theorem rel_not (A : Nat → Nat → Bool) (w : World) : Calls Tryd.prog 83 #[.agg (relC .u32 A)] w (RelPost (fun i j => !A i j) w) := by
  obtain ⟨k0, k1, kb, kz⟩ := two_blk w (relC .u32 A) (relC .u32 noR) 57 57
  have K0 := Lib.hid k0
  have K1 := Lib.hid k1
  have KB := Lib.hid kb
  clear k0 k1 kb kz
  go_enter Tryd.func83, Tryd.ntmps83
  go_wp2_with (first
    | (refine wpList_boxTo rfl 57 _ rfl (some 1) rfl w.heap.size rfl (relC .u32 A) (by rfl) ?_)
    | (refine r_alloc rfl rfl (some 2) rfl (w.heap.size + 1) (by simp) ?_))
  generalize (w.alloc (.cells (relC .u32 A) 57)).alloc (.cells (relC .u32 noR) 57) = w0 at *
  go_loopw [4] (fun i wr => ∃ k : Nat, k ≤ 27 ∧ i = .int .i64 k ∧ Hid (Blk wr w.heap.size (relC .u32 (mixR k (fun i j => !A i j) A)) 57) ∧ Hid (Blk wr (w.heap.size + 1) (relC .u32 noR) 57) ∧ Hid (Below w.heap.size w wr)) (fun i _ => 27 - (intOf i).toNat)
  case atStart => exact ⟨0, by omega, rfl, by rw [mixR_zero]; exact K0, K1, KB⟩
  case round =>
    clear K0 K1 KB
    obtain ⟨k, hk, rfl, R0, R1, RB⟩ := hrel
    by_cases hlt : k < 27
    · have c0 := mixR_cell R0.out hlt
      have c1 := R0.out.free k
      have C := fun w => Lib.hid (implNot (A k) w)
      have RP := mixR_put R0.out hlt
      replace RP := Lib.hid RP
      go_wp2_with fail
      refine (C _).out.mono ?_
      rintro e w2 ⟨rfl, rfl⟩
      go_wp2_with fail
      exact ⟨⟨k + 1, by omega, by go_num, RP, Lib.hid (R1.out.setOther (p := ⟨w.heap.size, k, none⟩) (by show w.heap.size + 1 ≠ w.heap.size; omega) _), Lib.hid (RB.out.setCell (p := ⟨w.heap.size, k, none⟩) (Nat.le_refl _) _)⟩, by simp [intOf]; omega⟩
    · have hk2 : k = 27 := by omega
      subst hk2
      have R := R0.out
      rw [mixR_all] at R
      replace R0 := Lib.hid R
      clear R
      go_wp2_with (first
        | (refine wpList_load_row rfl 57 _ rfl w.heap.size (by rfl) 57 (relC .u32 (fun i j => !A i j)) (0, 0) _ R0.out undR rfl (infoR _) ?_)
        | (refine wpList_store_row rfl 57 _ _ rfl (w.heap.size + 1) (relC .u32 (fun i j => !A i j)) (by rfl) (by rfl) 57 (relC .u32 noR) R1.out (infoR _) (by rw [relC_size, relC_size]) (relC_one _ _) ?_))
      exact bodyPost_ret (v := .agg (relC .u32 (fun i j => !A i j))) (results_cell_row rfl _ _ (w.heap.size + 1) 57 _ (0, 0) _ (by rfl) (R1.out.row _) undR rfl (infoR _)) rfl ⟨rfl, Below.setRow RB.out (by omega) _⟩

set_option maxRecDepth 100000 in
set_option maxHeartbeats 4000000 in
theorem rel_text (A : Nat → Nat → Bool) (w : World) : Calls Tryd.prog 35 #[.agg (relC .u32 A)] w fun e w' => e = .returned (.string (bs (relT A))) ∧ Below w.heap.size w w' := by
  obtain ⟨k0, kb, kz⟩ := one_blk w (relC .u32 A) 57
  have K0 := Lib.hid k0
  have KB := Lib.hid kb
  clear k0 kb kz
  go_enter Tryd.func35, Tryd.ntmps35
  go_wp2_with (first
    | (refine wpList_boxTo rfl 57 _ rfl (some 1) rfl w.heap.size rfl (relC .u32 A) (by rfl) ?_)
    | (refine wpList_load_row rfl 57 _ rfl w.heap.size (by rfl) 57 (relC .u32 A) (0, 0) _ K0.out undR rfl (infoR _) ?_))
  generalize w.alloc (.cells (relC .u32 A) 57) = w0 at *
  go_loopw [3, 7] (fun s i wr => ∃ k : Nat, k ≤ 27 ∧ i = .int .i64 k ∧ s = .string (bs (rowsT A k)) ∧ Hid (Below w.heap.size w wr)) (fun _ i _ => 27 - (intOf i).toNat)
  case atStart => exact ⟨0, by omega, rfl, rfl, KB⟩
  case round =>
    clear K0 KB
    obtain ⟨k, hk, rfl, rfl, RB⟩ := hrel
    by_cases hlt : k < 27
    · have HI := r_index A k hlt
      have C := fun w => Lib.hid (implText (A k) w)
      have hs1 : (bs (rowsT A k)).size = 27 * k := by rw [bs_size, rowsT_len]
      have hs2 : (bs (tb (A k))).size = 27 := by rw [bs_size, tb, tbn_length]
      have hs3 : ¬ (9223372036854775807 < (bs (rowsT A k)).size + (bs (tb (A k))).size) := by omega
      have HS1 := Lib.hid hs1
      have HS2 := Lib.hid hs2
      have HA := Lib.hid (bs_append (rowsT A k) (tb (A k)))
      clear hs1 hs2
      go_wp2_with fail
      refine (C _).out.mono ?_
      rintro e w2 ⟨rfl, hb⟩
      replace RB := Lib.hid (bnext RB.out hb)
      clear hb
      go_wp2_with fail
      exact ⟨⟨k + 1, by omega, by go_num, by rw [HA.out]; rfl, RB⟩, by simp [intOf]; omega⟩
    · have hk2 : k = 27 := by omega
      subst hk2
      go_wp2_with fail
      go_ret
      exact ⟨rfl, RB.out⟩

/-- How many pairs the first rows have. -/
def cntR (A : Nat → Nat → Bool) : Nat → Nat
  | 0 => 0
  | k + 1 => cntR A k + cnt 27 (A k)
theorem cntR_le (A : Nat → Nat → Bool) (k : Nat) : cntR A k ≤ 27 * k := by
  induction k with
  | zero => exact Nat.le_refl _
  | succ k ih => have := cnt_le 27 (A k); unfold cntR; omega

set_option maxRecDepth 100000 in
set_option maxHeartbeats 4000000 in
theorem rel_count (A : Nat → Nat → Bool) (w : World) : Calls Tryd.prog 60 #[.agg (relC .u32 A)] w fun e w' => e = .returned (.int .i64 (cntR A 27)) ∧ Below w.heap.size w w' := by
  obtain ⟨k0, kb, kz⟩ := one_blk w (relC .u32 A) 57
  have K0 := Lib.hid k0
  have KB := Lib.hid kb
  clear k0 kb kz
  go_enter Tryd.func60, Tryd.ntmps60
  go_wp2_with (first
    | (refine wpList_boxTo rfl 57 _ rfl (some 1) rfl w.heap.size rfl (relC .u32 A) (by rfl) ?_)
    | (refine wpList_load_row rfl 57 _ rfl w.heap.size (by rfl) 57 (relC .u32 A) (0, 0) _ K0.out undR rfl (infoR _) ?_))
  generalize w.alloc (.cells (relC .u32 A) 57) = w0 at *
  go_loopw [3, 7] (fun v i wr => ∃ k : Nat, k ≤ 27 ∧ i = .int .i64 k ∧ v = .int .i64 (cntR A k) ∧ Hid (Below w.heap.size w wr)) (fun _ i _ => 27 - (intOf i).toNat)
  case atStart => exact ⟨0, by omega, rfl, rfl, KB⟩
  case round =>
    clear K0 KB
    obtain ⟨k, hk, rfl, rfl, RB⟩ := hrel
    by_cases hlt : k < 27
    · have HI := r_index A k hlt
      have E := fun w => Lib.hid (popAny (nb 27 (A k)) w (nb_lt27 _))
      rw [cnt_nb] at E
      have hc1 := cntR_le A k
      have hc2 := cnt_le 27 (A k)
      go_wp2_with fail
      refine (E _).out.mono ?_
      rintro e w2 ⟨rfl, m, rfl⟩
      go_wp2_with fail
      exact ⟨⟨k + 1, by omega, by go_num, by rw [show cntR A (k + 1) = cntR A k + cnt 27 (A k) from rfl]; go_num, Lib.hid (bdrewN RB.out m)⟩, by simp [intOf]; omega⟩
    · have hk2 : k = 27 := by omega
      subst hk2
      go_wp2_with fail
      go_ret
      exact ⟨rfl, RB.out⟩

end Go.Proofs.YtheclmdpiijakaaDoor
