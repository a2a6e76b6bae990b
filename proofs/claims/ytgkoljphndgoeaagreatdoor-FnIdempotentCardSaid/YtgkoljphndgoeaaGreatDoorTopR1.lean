import Derived.Test.YtgkoljphndgoeaaGreatDoorTopB
import Derived.Test.YtgkoljphndgoeaaGreatDoorTopG
import Derived.Deep.QuietTactic
import Derived.BigQuiet
import Derived.Test.YtgkoljphndgoeaaGreatDoorTopM
namespace Go.Proofs.YtgkoljphndgoeaaGreatDoor
open Go.RowKit
end Go.Proofs.YtgkoljphndgoeaaGreatDoor
namespace Go.Proofs.YtgkoljphndgoeaaGreatDoor
open Go.RowKit Go.Great
def MPost (T : Nat → Nat → Bool) (w : World) (e : Ending) (w' : World) : Prop := e = .returned (.agg (relC .i64 T)) ∧ Below w.heap.size w w'
theorem mixM_cell {w : World} {g : Nat} {A B : Nat → Nat → Bool} {k : Nat} (h : Blk w g (relC .i64 (mixR k A B)) 83) (hk : k < 27) : w.cell? ⟨g, k, none⟩ = some (.int .i64 (nb 27 (B k))) := (h.cell k).trans (mixR_at hk)
theorem mrel_cell {w : World} {g : Nat} {A : Nat → Nat → Bool} {k : Nat} (h : Blk w g (relC .i64 A) 83) (hk : k < 27) : w.cell? ⟨g, k, none⟩ = some (.int .i64 (nb 27 (A k))) := (h.cell k).trans (relC_get _ _ hk)
theorem mixM_put {w : World} {g : Nat} {A B : Nat → Nat → Bool} {k : Nat} (h : Blk w g (relC .i64 (mixR k A B)) 83) (hk : k < 27) : Blk (w.setCell ⟨g, k, none⟩ (.int .i64 (nb 27 (A k)))) g (relC .i64 (mixR (k + 1) A B)) 83 := by
 have := h.set k (.int .i64 (nb 27 (A k)))
 rwa [mixR_step hk] at this
theorem row_mask {s : ByteArray} (hs : Rel729 s) {k : Nat} (hk : k < 27) (x : ByteArray) (hx : x = s.extract (27 * k) (27 * k + 27)) (w : World) : Calls Tryz.prog 215 #[.string x] w fun e w' => e = .returned (.int .i64 (nb 27 (relS s.data.toList k))) ∧ Below w.heap.size w w' := by
 subst hx
 obtain ⟨h1, h2⟩ := row_of hs hk
 have := specMask _ w h1
 rw [nb_congr h2] at this
 exact this
theorem rows_at2 (k : Nat) (hk : k < 27) : (0 : Int) ≤ 27 * (k : Int) ∧ 27 * (k : Int) ≤ 27 * (k : Int) + 27 ∧ 27 * (k : Int) + 27 ≤ 729 := by omega
set_option maxRecDepth 100000 in
set_option maxHeartbeats 4000000 in
theorem specRead (s : ByteArray) (hs : Rel729 s) (w : World) : Calls Tryz.prog 163 #[.string s] w (MPost (relS s.data.toList) w) := by
 have hz := hs.size
 obtain ⟨k0, k1, kb, kz⟩ := two_blk w (relC .i64 noR) (relC .i64 noR) 83 83
 have L1 := Lib.hid k1
 have K0 := Lib.hid (k0.rowOther (g := w.heap.size + 1) (by omega) (relC .i64 noR))
 have K1 := Lib.hid (k1.row (relC .i64 noR))
 have KB := Lib.hid (Below.setRow kb (g := w.heap.size + 1) (by omega) (relC .i64 noR))
 have CR := fun k hk x hx w => Lib.hid (row_mask hs (k := k) hk x hx w)
 clear k0 k1 kb kz hs
 go_enter Tryz.func163, Tryz.ntmps163
 go_wp2_with (first
  | (refine m_alloc rfl rfl (some 2) rfl w.heap.size rfl ?_)
  | (refine m_alloc rfl rfl (some 3) rfl (w.heap.size + 1) (by simp) ?_)
  | (refine wpList_buildTo rfl 83 _ rfl _ rfl (relC .i64 noR) (by kernel_rfl) ?_)
  | (refine wpList_store_row rfl 83 _ _ rfl (w.heap.size + 1) (relC .i64 noR) (by rfl) (by rfl) 83 (relC .i64 noR) L1.out (infoM _) (by first | rw [relC_size, relC_size] | rw [relC_size]) (relC_one _ _) ?_))
 clear L1
 generalize ((w.alloc (.cells (relC .i64 noR) 83)).alloc (.cells (relC .i64 noR) 83)).setRow (w.heap.size + 1) (relC .i64 noR) = w0 at *
 go_loopw [4] (fun i wr => ∃ k : Nat, k ≤ 27 ∧ i = .int .i64 k ∧ Hid (Blk wr (w.heap.size + 1) (relC .i64 (mixR k (relS s.data.toList) noR)) 83) ∧ Hid (Blk wr w.heap.size (relC .i64 noR) 83) ∧ Hid (Below w.heap.size w wr)) (fun i _ => 27 - (intOf i).toNat)
 case atStart => exact ⟨0, by omega, rfl, by rw [mixR_zero]; exact K1, K0, KB⟩
 case round =>
  clear K0 K1 KB
  obtain ⟨k, hk, rfl, R1, R0, RB⟩ := hrel
  by_cases hlt : k < 27
  ·obtain ⟨b1, b2, b3⟩ := rows_at2 k hlt
   have C := CR k hlt
   go_wp2_with fail
   refine (C _ (by first | rfl | rw [Nat.mul_succ]) _).out.mono ?_
   rintro e w2 ⟨rfl, hb⟩
   replace R1 := Lib.hid (R1.out.kept hb)
   replace R0 := Lib.hid (R0.out.kept hb)
   replace RB := Lib.hid (bnext RB.out hb)
   have c0 := mixM_cell R1.out hlt
   have c1 := R1.out.free k
   have RP := mixM_put R1.out hlt
   replace RP := Lib.hid RP
   clear hb
   go_wp2_with fail
   exact ⟨⟨k + 1, by omega, by go_num, RP, Lib.hid (R0.out.setOther (p := ⟨w.heap.size + 1, k, none⟩) (by show w.heap.size ≠ w.heap.size + 1; omega) _), Lib.hid (RB.out.setCell (p := ⟨w.heap.size + 1, k, none⟩) (by show w.heap.size ≤ w.heap.size + 1; omega) _)⟩, by simp [intOf]; omega⟩
  ·have hk2 : k = 27 := by omega
   subst hk2
   have R2 := R1.out
   rw [mixR_all] at R2
   replace R1 := Lib.hid R2
   clear R2
   go_wp2_with (first
    | (refine wpList_load_row rfl 83 _ rfl (w.heap.size + 1) (by rfl) 83 (relC .i64 (relS s.data.toList)) (0, 0) _ R1.out undM rfl (infoM _) ?_)
    | (refine wpList_store_row rfl 83 _ _ rfl w.heap.size (relC .i64 (relS s.data.toList)) (by rfl) (by rfl) 83 (relC .i64 noR) R0.out (infoM _) (by first | rw [relC_size, relC_size] | rw [relC_size]) (relC_one _ _) ?_))
   exact bodyPost_ret (v := .agg (relC .i64 (relS s.data.toList))) (results_cell_row rfl _ _ w.heap.size 83 _ (0, 0) _ (by rfl) (R0.out.row _) undM rfl (infoM _)) rfl ⟨rfl, Below.setRow RB.out (Nat.le_refl _) _⟩
set_option maxRecDepth 100000 in
set_option maxHeartbeats 4000000 in
theorem specRText (A : Nat → Nat → Bool) (w : World) : Calls Tryz.prog 87 #[.agg (relC .i64 A)] w fun e w' => e = .returned (.string (bs (relT A))) ∧ Below w.heap.size w w' := by
 obtain ⟨k0, kb, kz⟩ := one_blk w (relC .i64 A) 83
 have K0 := Lib.hid k0
 have KB := Lib.hid kb
 clear k0 kb kz
 go_enter Tryz.func87, Tryz.ntmps87
 go_wp2_with (refine wpList_boxTo rfl 83 _ rfl (some 1) rfl w.heap.size rfl (relC .i64 A) (by rfl) ?_)
 generalize w.alloc (.cells (relC .i64 A) 83) = w0 at *
 go_loopw [3, 4] (fun s i wr => ∃ k : Nat, k ≤ 27 ∧ i = .int .i64 k ∧ s = .string (bs (rowsT A k)) ∧ Hid (Blk wr w.heap.size (relC .i64 A) 83) ∧ Hid (Below w.heap.size w wr)) (fun _ i _ => 27 - (intOf i).toNat)
 case atStart => exact ⟨0, by omega, rfl, rfl, K0, KB⟩
 case round =>
  clear K0 KB
  obtain ⟨k, hk, rfl, rfl, R0, RB⟩ := hrel
  by_cases hlt : k < 27
  ·have c0 := mrel_cell R0.out hlt
   have C := fun w => Lib.hid (specTextS (A k) w)
   have hs1 : (bs (rowsT A k)).size = 27 * k := by rw [bs_size, rowsT_len]
   have hs2 : (bs (tb (A k))).size = 27 := by rw [bs_size, tb, tbn_length]
   have hs3 : ¬ (9223372036854775807 < (bs (rowsT A k)).size + (bs (tb (A k))).size) := by omega
   have HA := Lib.hid (bs_append (rowsT A k) (tb (A k)))
   clear hs1 hs2
   go_wp2_with fail
   refine (C _).out.mono ?_
   rintro e w2 ⟨rfl, hb⟩
   replace RB := Lib.hid (bnext RB.out hb)
   replace R0 := Lib.hid (R0.out.kept hb)
   clear hb c0
   go_wp2_with fail
   exact ⟨⟨k + 1, by omega, by go_num, by rw [HA.out]; rfl, R0, RB⟩, by simp [intOf]; omega⟩
  ·have hk2 : k = 27 := by omega
   subst hk2
   go_wp2_with fail
   go_ret
   exact ⟨rfl, RB.out⟩
end Go.Proofs.YtgkoljphndgoeaaGreatDoor
namespace Go.Proofs.YtgkoljphndgoeaaGreatDoor
open Go.RowKit
end Go.Proofs.YtgkoljphndgoeaaGreatDoor
namespace Go.Proofs.YtgkoljphndgoeaaGreatDoor
open Go.RowKit Go.Great
theorem u_and (F G : Nat → Bool) : bits .and .u32 (nb 27 F : Nat) (nb 27 G : Nat) = (nb 27 (fun i => F i && G i) : Nat) := by
 have h := nb_lt27 F; have h' := nb_lt27 G
 rw [u32_and_nat _ _ (by omega) (by omega), nb_and]
theorem u_or (F G : Nat → Bool) : bits .or .u32 (nb 27 F : Nat) (nb 27 G : Nat) = (nb 27 (fun i => F i || G i) : Nat) := by
 have h := nb_lt27 F; have h' := nb_lt27 G
 rw [u32_or_nat _ _ (by omega) (by omega), nb_or2]
theorem mixR_cell {w : World} {g : Nat} {A B : Nat → Nat → Bool} {k : Nat} (h : Blk w g (relC .u32 (mixR k A B)) 68) (hk : k < 27) : w.cell? ⟨g, k, none⟩ = some (.int .u32 (nb 27 (B k))) := (h.cell k).trans (mixR_at hk)
theorem rel_cell {w : World} {g : Nat} {A : Nat → Nat → Bool} {k : Nat} (h : Blk w g (relC .u32 A) 68) (hk : k < 27) : w.cell? ⟨g, k, none⟩ = some (.int .u32 (nb 27 (A k))) := (h.cell k).trans (relC_get _ _ hk)
theorem mixR_put {w : World} {g : Nat} {A B : Nat → Nat → Bool} {k : Nat} (h : Blk w g (relC .u32 (mixR k A B)) 68) (hk : k < 27) : Blk (w.setCell ⟨g, k, none⟩ (.int .u32 (nb 27 (A k)))) g (relC .u32 (mixR (k + 1) A B)) 68 := by
 have := h.set k (.int .u32 (nb 27 (A k)))
 rwa [mixR_step hk] at this
set_option maxRecDepth 100000 in
set_option maxHeartbeats 4000000 in
theorem rel_and (A B : Nat → Nat → Bool) (w : World) : Calls Tryz.prog 149 #[.agg (relC .u32 A), .agg (relC .u32 B)] w (RelPost (fun i j => A i j && B i j) w) := by
 obtain ⟨k0, k1, k2, kb, kz⟩ := three_blk w (relC .u32 A) (relC .u32 B) (relC .u32 noR) 68 68 68
 have K0 := Lib.hid k0
 have K1 := Lib.hid k1
 have K2 := Lib.hid k2
 have KB := Lib.hid kb
 clear k0 k1 k2 kb kz
 go_enter Tryz.func149, Tryz.ntmps149
 go_wp2_with (first
  | (refine wpList_boxTo rfl 68 _ rfl (some 2) rfl w.heap.size rfl (relC .u32 A) (by rfl) ?_)
  | (refine wpList_boxTo rfl 68 _ rfl (some 3) rfl (w.heap.size + 1) (by simp) (relC .u32 B) (by rfl) ?_)
  | (refine r_alloc rfl rfl (some 4) rfl (w.heap.size + 2) (by simp) ?_))
 generalize ((w.alloc (.cells (relC .u32 A) 68)).alloc (.cells (relC .u32 B) 68)).alloc (.cells (relC .u32 noR) 68) = w0 at *
 go_loopw [6] (fun i wr => ∃ k : Nat, k ≤ 27 ∧ i = .int .i64 k ∧ Hid (Blk wr w.heap.size (relC .u32 (mixR k (fun i j => A i j && B i j) A)) 68) ∧ Hid (Blk wr (w.heap.size + 1) (relC .u32 B) 68) ∧ Hid (Blk wr (w.heap.size + 2) (relC .u32 noR) 68) ∧ Hid (Below w.heap.size w wr)) (fun i _ => 27 - (intOf i).toNat)
 case atStart => exact ⟨0, by omega, rfl, by rw [mixR_zero]; exact K0, K1, K2, KB⟩
 case round =>
  clear K0 K1 K2 KB
  obtain ⟨k, hk, rfl, R0, R1, R2, RB⟩ := hrel
  by_cases hlt : k < 27
  ·have c0 := mixR_cell R0.out hlt
   have c1 := R0.out.free k
   have c2 := rel_cell R1.out hlt
   have HO := Lib.hid (u_and (A k) (B k))
   go_wp2_with fail
   go_region
   rw [HO.out]
   clear c0 c1 c2
   go_wp2_with fail
   exact ⟨⟨k + 1, by omega, by go_num, Lib.hid (mixR_put R0.out hlt).drew, Lib.hid (R1.out.setOther (p := ⟨w.heap.size, k, none⟩) (by show w.heap.size + 1 ≠ w.heap.size; omega) _).drew, Lib.hid (R2.out.setOther (p := ⟨w.heap.size, k, none⟩) (by show w.heap.size + 2 ≠ w.heap.size; omega) _).drew, Lib.hid (RB.out.setCell (p := ⟨w.heap.size, k, none⟩) (Nat.le_refl _) _).drew⟩, by simp [intOf]; omega⟩
  ·have hk2 : k = 27 := by omega
   subst hk2
   have R := R0.out
   rw [mixR_all] at R
   replace R0 := Lib.hid R
   clear R
   go_wp2_with (first
    | (refine wpList_load_row rfl 68 _ rfl w.heap.size (by rfl) 68 (relC .u32 (fun i j => A i j && B i j)) (0, 0) _ R0.out undR rfl (infoR _) ?_)
    | (refine wpList_store_row rfl 68 _ _ rfl (w.heap.size + 2) (relC .u32 (fun i j => A i j && B i j)) (by rfl) (by rfl) 68 (relC .u32 noR) R2.out (infoR _) (by rw [relC_size, relC_size]) (relC_one _ _) ?_))
   exact bodyPost_ret (v := .agg (relC .u32 (fun i j => A i j && B i j))) (results_cell_row rfl _ _ (w.heap.size + 2) 68 _ (0, 0) _ (by rfl) (R2.out.row _) undR rfl (infoR _)) rfl ⟨rfl, Below.setRow RB.out (by omega) _⟩
set_option maxRecDepth 100000 in
set_option maxHeartbeats 4000000 in
theorem rel_not (A : Nat → Nat → Bool) (w : World) : Calls Tryz.prog 147 #[.agg (relC .u32 A)] w (RelPost (fun i j => !A i j) w) := by
 obtain ⟨k0, k1, kb, kz⟩ := two_blk w (relC .u32 A) (relC .u32 noR) 68 68
 have K0 := Lib.hid k0
 have K1 := Lib.hid k1
 have KB := Lib.hid kb
 clear k0 k1 kb kz
 go_enter Tryz.func147, Tryz.ntmps147
 go_wp2_with (first
  | (refine wpList_boxTo rfl 68 _ rfl (some 1) rfl w.heap.size rfl (relC .u32 A) (by rfl) ?_)
  | (refine r_alloc rfl rfl (some 2) rfl (w.heap.size + 1) (by simp) ?_))
 generalize (w.alloc (.cells (relC .u32 A) 68)).alloc (.cells (relC .u32 noR) 68) = w0 at *
 go_loopw [4] (fun i wr => ∃ k : Nat, k ≤ 27 ∧ i = .int .i64 k ∧ Hid (Blk wr w.heap.size (relC .u32 (mixR k (fun i j => !A i j) A)) 68) ∧ Hid (Blk wr (w.heap.size + 1) (relC .u32 noR) 68) ∧ Hid (Below w.heap.size w wr)) (fun i _ => 27 - (intOf i).toNat)
 case atStart => exact ⟨0, by omega, rfl, by rw [mixR_zero]; exact K0, K1, KB⟩
 case round =>
  clear K0 K1 KB
  obtain ⟨k, hk, rfl, R0, R1, RB⟩ := hrel
  by_cases hlt : k < 27
  ·have c0 := mixR_cell R0.out hlt
   have c1 := R0.out.free k
   have C := fun w => Lib.hid (implNot (A k) w)
   have RP := mixR_put R0.out hlt
   replace RP := Lib.hid RP
   go_wp2_with fail
   refine (C _).out.mono ?_
   rintro e w2 ⟨rfl, rfl⟩
   go_wp2_with fail
   exact ⟨⟨k + 1, by omega, by go_num, RP, Lib.hid (R1.out.setOther (p := ⟨w.heap.size, k, none⟩) (by show w.heap.size + 1 ≠ w.heap.size; omega) _), Lib.hid (RB.out.setCell (p := ⟨w.heap.size, k, none⟩) (Nat.le_refl _) _)⟩, by simp [intOf]; omega⟩
  ·have hk2 : k = 27 := by omega
   subst hk2
   have R := R0.out
   rw [mixR_all] at R
   replace R0 := Lib.hid R
   clear R
   go_wp2_with (first
    | (refine wpList_load_row rfl 68 _ rfl w.heap.size (by rfl) 68 (relC .u32 (fun i j => !A i j)) (0, 0) _ R0.out undR rfl (infoR _) ?_)
    | (refine wpList_store_row rfl 68 _ _ rfl (w.heap.size + 1) (relC .u32 (fun i j => !A i j)) (by rfl) (by rfl) 68 (relC .u32 noR) R1.out (infoR _) (by rw [relC_size, relC_size]) (relC_one _ _) ?_))
   exact bodyPost_ret (v := .agg (relC .u32 (fun i j => !A i j))) (results_cell_row rfl _ _ (w.heap.size + 1) 68 _ (0, 0) _ (by rfl) (R1.out.row _) undR rfl (infoR _)) rfl ⟨rfl, Below.setRow RB.out (by omega) _⟩
set_option maxRecDepth 100000 in
set_option maxHeartbeats 4000000 in
theorem rel_text (A : Nat → Nat → Bool) (w : World) : Calls Tryz.prog 74 #[.agg (relC .u32 A)] w fun e w' => e = .returned (.string (bs (relT A))) ∧ Below w.heap.size w w' := by
 obtain ⟨k0, kb, kz⟩ := one_blk w (relC .u32 A) 68
 have K0 := Lib.hid k0
 have KB := Lib.hid kb
 clear k0 kb kz
 go_enter Tryz.func74, Tryz.ntmps74
 go_wp2_with (first
  | (refine wpList_boxTo rfl 68 _ rfl (some 1) rfl w.heap.size rfl (relC .u32 A) (by rfl) ?_)
  | (refine wpList_load_row rfl 68 _ rfl w.heap.size (by rfl) 68 (relC .u32 A) (0, 0) _ K0.out undR rfl (infoR _) ?_))
 generalize w.alloc (.cells (relC .u32 A) 68) = w0 at *
 go_loopw [3, 7] (fun s i wr => ∃ k : Nat, k ≤ 27 ∧ i = .int .i64 k ∧ s = .string (bs (rowsT A k)) ∧ Hid (Below w.heap.size w wr)) (fun _ i _ => 27 - (intOf i).toNat)
 case atStart => exact ⟨0, by omega, rfl, rfl, KB⟩
 case round =>
  clear K0 KB
  obtain ⟨k, hk, rfl, rfl, RB⟩ := hrel
  by_cases hlt : k < 27
  ·have HI := r_index A k hlt
   have C := fun w => Lib.hid (implText (A k) w)
   have hs1 : (bs (rowsT A k)).size = 27 * k := by rw [bs_size, rowsT_len]
   have hs2 : (bs (tb (A k))).size = 27 := by rw [bs_size, tb, tbn_length]
   have hs3 : ¬ (9223372036854775807 < (bs (rowsT A k)).size + (bs (tb (A k))).size) := by omega
   have HS1 := Lib.hid hs1
   have HS2 := Lib.hid hs2
   have HA := Lib.hid (bs_append (rowsT A k) (tb (A k)))
   clear hs1 hs2
   go_wp2_with fail
   refine (C _).out.mono ?_
   rintro e w2 ⟨rfl, hb⟩
   replace RB := Lib.hid (bnext RB.out hb)
   clear hb
   go_wp2_with fail
   exact ⟨⟨k + 1, by omega, by go_num, by rw [HA.out]; rfl, RB⟩, by simp [intOf]; omega⟩
  ·have hk2 : k = 27 := by omega
   subst hk2
   go_wp2_with fail
   go_ret
   exact ⟨rfl, RB.out⟩
set_option maxRecDepth 100000 in
set_option maxHeartbeats 4000000 in
theorem rel_image (A : Nat → Nat → Bool) (F : Nat → Bool) (w : World) : Calls Tryz.prog 217 #[.agg (relC .u32 A), .int .u32 (nb 27 F)] w fun e w' => e = .returned (.int .u32 (nb 27 (postS F A 27))) ∧ Below w.heap.size w w' := by
 obtain ⟨k0, kb, kz⟩ := one_blk w (relC .u32 A) 68
 have K0 := Lib.hid k0
 have KB := Lib.hid kb
 clear k0 kb kz
 go_enter Tryz.func217, Tryz.ntmps217
 go_wp2_with (first
  | (refine wpList_boxTo rfl 68 _ rfl (some 2) rfl w.heap.size rfl (relC .u32 A) (by rfl) ?_)
  | (refine wpList_load_row rfl 68 _ rfl w.heap.size (by rfl) 68 (relC .u32 A) (0, 0) _ K0.out undR rfl (infoR _) ?_))
 generalize w.alloc (.cells (relC .u32 A) 68) = w0 at *
 go_loopw [5, 9] (fun v i wr => ∃ k : Nat, k ≤ 27 ∧ i = .int .i64 k ∧ v = .int .u32 (nb 27 (postS F A k)) ∧ Hid (Below w.heap.size w wr)) (fun _ i _ => 27 - (intOf i).toNat)
 case atStart => exact ⟨0, by omega, rfl, by rw [nb_zero 27 (F := postS F A 0) (fun _ _ => rfl)]; rfl, KB⟩
 case round =>
  clear K0 KB
  obtain ⟨k, hk, rfl, rfl, RB⟩ := hrel
  by_cases hlt : k < 27
  ·have HI := r_index A k hlt
   have C := fun w => Lib.hid (implHasB F k w hlt)
   cases hF : F k <;> rw [hF] at C
   ·go_wp2_with fail
    refine (C _).out.mono ?_
    rintro e w2 ⟨rfl, rfl⟩
    go_wp2_with fail
    exact ⟨⟨k + 1, by omega, by go_num, by rw [postS_no hF], RB⟩, by simp [intOf]; omega⟩
   ·have HO := Lib.hid (u_or (postS F A k) (A k))
    go_wp2_with fail
    refine (C _).out.mono ?_
    rintro e w2 ⟨rfl, rfl⟩
    go_wp2_with fail
    exact ⟨⟨k + 1, by omega, by go_num, by rw [HO.out, postS_yes hF], RB⟩, by simp [intOf]; omega⟩
  ·have hk2 : k = 27 := by omega
   subst hk2
   go_wp2_with fail
   go_ret
   exact ⟨rfl, RB.out⟩
set_option maxRecDepth 100000 in
set_option maxHeartbeats 4000000 in
theorem rel_then (A B : Nat → Nat → Bool) (w : World) : Calls Tryz.prog 165 #[.agg (relC .u32 A), .agg (relC .u32 B)] w (RelPost (compR A B) w) := by
 obtain ⟨k0, k1, k2, kb, kz⟩ := three_blk w (relC .u32 A) (relC .u32 B) (relC .u32 noR) 68 68 68
 have K0 := Lib.hid k0
 have K1 := Lib.hid k1
 have K2 := Lib.hid k2
 have KB := Lib.hid kb
 clear k0 k1 k2 kb kz
 go_enter Tryz.func165, Tryz.ntmps165
 go_wp2_with (first
  | (refine wpList_boxTo rfl 68 _ rfl (some 2) rfl w.heap.size rfl (relC .u32 A) (by rfl) ?_)
  | (refine wpList_boxTo rfl 68 _ rfl (some 3) rfl (w.heap.size + 1) (by simp) (relC .u32 B) (by rfl) ?_)
  | (refine r_alloc rfl rfl (some 4) rfl (w.heap.size + 2) (by simp) ?_)
  | (refine wpList_load_row rfl 68 _ rfl w.heap.size (by rfl) 68 (relC .u32 A) (0, 0) _ K0.out undR rfl (infoR _) ?_))
 generalize ((w.alloc (.cells (relC .u32 A) 68)).alloc (.cells (relC .u32 B) 68)).alloc (.cells (relC .u32 noR) 68) = w0 at *
 go_loopw [8] (fun i wr => ∃ k : Nat, k ≤ 27 ∧ i = .int .i64 k ∧ Hid (Blk wr w.heap.size (relC .u32 (mixR k (compR A B) A)) 68) ∧ Hid (Blk wr (w.heap.size + 1) (relC .u32 B) 68) ∧ Hid (Blk wr (w.heap.size + 2) (relC .u32 noR) 68) ∧ Hid (Below w.heap.size w wr)) (fun i _ => 27 - (intOf i).toNat)
 case atStart => exact ⟨0, by omega, rfl, by rw [mixR_zero]; exact K0, K1, K2, KB⟩
 case round =>
  clear K0 K1 K2 KB
  obtain ⟨k, hk, rfl, R0, R1, R2, RB⟩ := hrel
  by_cases hlt : k < 27
  ·have HI := r_index A k hlt
   go_wp2_with (refine wpList_load_row rfl 68 _ rfl (w.heap.size + 1) (by rfl) 68 (relC .u32 B) (0, 0) _ R1.out undR rfl (infoR _) ?_)
   refine (rel_image B (A k) _).mono ?_
   rintro e w2 ⟨rfl, hb⟩
   replace R0 := Lib.hid (R0.out.kept hb)
   replace R1 := Lib.hid (R1.out.kept hb)
   replace R2 := Lib.hid (R2.out.kept hb)
   replace RB := Lib.hid (bnext RB.out hb)
   have RP := mixR_put R0.out hlt
   replace RP := Lib.hid RP
   have c0 := mixR_cell R0.out hlt
   have c1 := R0.out.free k
   clear hb
   go_wp2_with fail
   exact ⟨⟨k + 1, by omega, by go_num, RP, Lib.hid (R1.out.setOther (p := ⟨w.heap.size, k, none⟩) (by show w.heap.size + 1 ≠ w.heap.size; omega) _), Lib.hid (R2.out.setOther (p := ⟨w.heap.size, k, none⟩) (by show w.heap.size + 2 ≠ w.heap.size; omega) _), Lib.hid (RB.out.setCell (p := ⟨w.heap.size, k, none⟩) (Nat.le_refl _) _)⟩, by simp [intOf]; omega⟩
  ·have hk2 : k = 27 := by omega
   subst hk2
   have R := R0.out
   rw [mixR_all] at R
   replace R0 := Lib.hid R
   clear R
   go_wp2_with (first
    | (refine wpList_load_row rfl 68 _ rfl w.heap.size (by rfl) 68 (relC .u32 (compR A B)) (0, 0) _ R0.out undR rfl (infoR _) ?_)
    | (refine wpList_store_row rfl 68 _ _ rfl (w.heap.size + 2) (relC .u32 (compR A B)) (by rfl) (by rfl) 68 (relC .u32 noR) R2.out (infoR _) (by rw [relC_size, relC_size]) (relC_one _ _) ?_))
   exact bodyPost_ret (v := .agg (relC .u32 (compR A B))) (results_cell_row rfl _ _ (w.heap.size + 2) 68 _ (0, 0) _ (by rfl) (R2.out.row _) undR rfl (infoR _)) rfl ⟨rfl, Below.setRow RB.out (by omega) _⟩
def TextOk (l : List UInt8) (ok : Bool) (w : World) (e : Ending) (w' : World) : Prop := e = .returned (.tuple #[.string (bs l), .bool ok]) ∧ Below w.heap.size w w'
def BoolIs (b : Bool) (w : World) (e : Ending) (w' : World) : Prop := e = .returned (.bool b) ∧ Below w.heap.size w w'
theorem push2_blk (w : World) (A0 B0 A B : Array Value) (t u : TypeId) : Blk ((((w.alloc (.cells A0 t)).alloc (.cells B0 u)).setRow w.heap.size A).setRow (w.heap.size + 1) B) w.heap.size A t ∧ Blk ((((w.alloc (.cells A0 t)).alloc (.cells B0 u)).setRow w.heap.size A).setRow (w.heap.size + 1) B) (w.heap.size + 1) B u ∧ Below w.heap.size w ((((w.alloc (.cells A0 t)).alloc (.cells B0 u)).setRow w.heap.size A).setRow (w.heap.size + 1) B) := by
 obtain ⟨h1, h2, h3, h4⟩ := two_blk w A0 B0 t u
 exact ⟨(h1.row A).rowOther (by omega) B, (h2.rowOther (by omega) A).row B, Below.setRow (Below.setRow h3 (Nat.le_refl _) A) (by omega) B⟩
set_option maxRecDepth 100000 in
set_option maxHeartbeats 4000000 in
theorem implComposeRel_yes (s q : ByteArray) (h : Rel729 s ∧ Rel729 q) (w : World) : Calls Tryz.prog 88 #[.string s, .string q] w (TextOk (relT (compR (relS s.data.toList) (relS q.data.toList))) true w) := by
 have C1 := Lib.hid (readRels_yes s q h.1 h.2)
 clear h
 go_enter Tryz.func88, Tryz.ntmps88
 go_wp2_with fail
 refine (C1.out _).mono ?_
 rintro e w1 ⟨rfl, hb⟩
 have KB := Lib.hid hb
 clear hb
 obtain ⟨p0, p1, pb⟩ := push2_blk w1 (relC .u32 noR) (relC .u32 noR) (relC .u32 (relS s.data.toList)) (relC .u32 (relS q.data.toList)) 68 68
 have P0 := Lib.hid p0
 have P1 := Lib.hid p1
 replace KB := Lib.hid (bnext KB.out pb)
 obtain ⟨l0, l1, _, _⟩ := two_blk w1 (relC .u32 noR) (relC .u32 noR) 68 68
 have L0 := Lib.hid l0
 have L1 := Lib.hid (l1.rowOther (g := w1.heap.size) (by omega) (relC .u32 (relS s.data.toList)))
 clear p0 p1 pb l0 l1
 go_wp2_with (first
  | (refine r_alloc rfl rfl (some 6) rfl w1.heap.size rfl ?_)
  | (refine r_alloc rfl rfl (some 7) rfl (w1.heap.size + 1) (by simp) ?_)
  | (refine wpList_store_row rfl 68 _ _ rfl w1.heap.size (relC .u32 (relS s.data.toList)) (by rfl) (by rfl) 68 (relC .u32 noR) L0.out (infoR _) (by first | rw [relC_size, relC_size] | rw [relC_size]) (relC_one _ _) ?_)
  | (refine wpList_store_row rfl 68 _ _ rfl (w1.heap.size + 1) (relC .u32 (relS q.data.toList)) (by rfl) (by rfl) 68 (relC .u32 noR) L1.out (infoR _) (by first | rw [relC_size, relC_size] | rw [relC_size]) (relC_one _ _) ?_)
  | (refine wpList_load_row rfl 68 _ rfl w1.heap.size (by rfl) 68 (relC .u32 (relS s.data.toList)) (0, 0) _ P0.out undR rfl (infoR _) ?_)
  | (refine wpList_load_row rfl 68 _ rfl (w1.heap.size + 1) (by rfl) 68 (relC .u32 (relS q.data.toList)) (0, 0) _ P1.out undR rfl (infoR _) ?_))
 refine (rel_then (relS s.data.toList) (relS q.data.toList) _).mono ?_
 rintro e w2 ⟨rfl, hb⟩
 replace KB := Lib.hid (bnext KB.out hb)
 clear hb
 go_wp2_with fail
 refine (rel_text (compR (relS s.data.toList) (relS q.data.toList)) _).mono ?_
 rintro e w2 ⟨rfl, hb⟩
 replace KB := Lib.hid (bnext KB.out hb)
 clear hb
 go_wp2_with fail
 go_ret2
 exact ⟨rfl, KB.out⟩
theorem BoolIs.of {f : FuncId} {a : Array Value} {w : World} {b : Bool} (h : Calls Tryz.prog f a w fun e w' => e = .returned (.bool b) ∧ w = w') : Calls Tryz.prog f a w (BoolIs b w) := h.mono fun _ _ ⟨h1, h2⟩ => ⟨h1, by subst h2; exact Below.refl _ _⟩
set_option maxHeartbeats 1000000 in
theorem specRelV_yes (s : ByteArray) (hs : Rel729 s) (w : World) : Calls Tryz.prog 155 #[.string s] w fun e w' => e = .returned (.bool true) ∧ w = w' := by
 have C := fun w => Lib.hid (specBits_yes s 729 w hs (by omega))
 go_enter Tryz.func155, Tryz.ntmps155
 go_wp2_with fail
 refine (C _).out.mono ?_
 rintro e w' ⟨rfl, rfl⟩
 go_wp2_with fail
 go_ret
 exact ⟨rfl, rfl⟩
set_option maxHeartbeats 1000000 in
theorem specRelV_no (s : ByteArray) (hs : ¬ Rel729 s) (hm : s.size ≤ maxLen) (w : World) : Calls Tryz.prog 155 #[.string s] w fun e w' => e = .returned (.bool false) ∧ w = w' := by
 have C := fun w => Lib.hid (specBits_no s 729 w hs hm (by omega))
 clear hs
 go_enter Tryz.func155, Tryz.ntmps155
 go_wp2_with fail
 refine (C _).out.mono ?_
 rintro e w' ⟨rfl, rfl⟩
 go_wp2_with fail
 go_ret
 exact ⟨rfl, rfl⟩
theorem bs_rel {s : ByteArray} (h : Rel729 s) : s = bs (tbn 729 (hs s.data.toList)) := by
 rw [tbn_hs h]
 apply ByteArray.ext
 simp [bs]
theorem and_same {s q : ByteArray} (h : Rel729 s) : ((bs (tbn 729 (fun i => hs s.data.toList i && hs q.data.toList i))).toList == s.toList) = relEq (fun i j => relS s.data.toList i j && relS q.data.toList i j) (relS s.data.toList) := by
 rw [bytes_eq, Bool.eq_iff_iff, decide_eq_true_eq, relEq_iff]
 constructor
 ·intro e i hi j hj
  have e2 := e.trans (bs_rel h)
  have e3 : tbn 729 (fun i => hs s.data.toList i && hs q.data.toList i) = tbn 729 (hs s.data.toList) := by
   have := congrArg (fun b : ByteArray => b.data.toList) e2
   simpa [bs] using this
  exact tbn_inj e3 (27 * i + j) (by omega)
 ·intro e
  conv => rhs; rw [bs_rel h]
  refine congrArg bs (tbn_congr fun m hm => ?_)
  have := e (m / 27) (by omega) (m % 27) (by omega)
  unfold relS at this
  have e2 : 27 * (m / 27) + m % 27 = m := by omega
  rwa [e2] at this
set_option maxRecDepth 100000 in
set_option maxHeartbeats 4000000 in
theorem specRelWithin_yes (s q : ByteArray) (h : Rel729 s ∧ Rel729 q) (w : World) : Calls Tryz.prog 140 #[.string s, .string q] w (BoolIs (relEq (fun i j => relS s.data.toList i j && relS q.data.toList i j) (relS s.data.toList)) w) := by
 obtain ⟨h1, h2⟩ := h
 have Hs := Lib.hid h1
 have Hq := Lib.hid h2
 have HZ := Lib.hid (Rel729.size h1)
 have HZ2 := Lib.hid (Rel729.size h2)
 clear h1 h2
 have KB := Lib.hid (Below.refl w.heap.size w)
 go_enter Tryz.func140, Tryz.ntmps140
 go_wp2_with fail
 refine (specRelV_yes s Hs.out _).mono ?_
 rintro e w' ⟨rfl, rfl⟩
 go_wp2_with fail
 refine (specRelV_yes q Hq.out _).mono ?_
 rintro e w' ⟨rfl, rfl⟩
 go_wp2_with fail
 refine (specAnd0 s q 729 _ HZ.out HZ2.out (by omega)).mono ?_
 rintro e w2 ⟨rfl, hb⟩
 replace KB := Lib.hid (bnext KB.out hb)
 clear hb
 go_wp2_with fail
 go_ret
 exact ⟨by rw [← and_same Hs.out]; rfl, KB.out⟩
set_option maxRecDepth 100000 in
set_option maxHeartbeats 4000000 in
theorem specRelWithin_no (s q : ByteArray) (h : ¬ (Rel729 s ∧ Rel729 q)) (hm : s.size ≤ maxLen) (hm2 : q.size ≤ maxLen) (w : World) : Calls Tryz.prog 140 #[.string s, .string q] w (BoolIs false w) := by
 by_cases h1 : Rel729 s
 ·have h2 : ¬ Rel729 q := fun h2 => h ⟨h1, h2⟩
  have C := fun w => Lib.hid (specRelV_yes s h1 w)
  have D := fun w => Lib.hid (specRelV_no q h2 hm2 w)
  clear h1 h2 h
  go_enter Tryz.func140, Tryz.ntmps140
  go_wp2_with fail
  refine ((C _).out).mono ?_
  rintro e w' ⟨rfl, rfl⟩
  go_wp2_with fail
  refine ((D _).out).mono ?_
  rintro e w' ⟨rfl, rfl⟩
  go_wp2_with fail
  go_ret
  exact ⟨rfl, Below.refl _ _⟩
 ·have C := fun w => Lib.hid (specRelV_no s h1 hm w)
  clear h1 h
  go_enter Tryz.func140, Tryz.ntmps140
  go_wp2_with fail
  refine ((C _).out).mono ?_
  rintro e w' ⟨rfl, rfl⟩
  go_wp2_with fail
  go_ret
  exact ⟨rfl, Below.refl _ _⟩
theorem wpList_load_rowG {P : Program} {ops : Array Oper} {rest : List Oper} {o : Oper} {a : Act} {w : World} {Q : Exit → Act → World → Prop} (hw : Region.wanted o (yielded ops a.tmps) = true) (ty : TypeId) (x : Operand) (ho : o.op = .load ty x)
  (g : Nat) (hx : a.eval x = .pointer (some ⟨g, 0, none⟩)) (t : TypeId) (cs : Array Value) (fr : Nat × Nat) (d : TypeDesc) (hg : w.heap[g]? = some (.cells cs t fr))
  (hu : P.underlying ty = some d) (hd : (match d with | .struct _ | .array _ _ => true | _ => false) = true) (hi : (P.info? ty).map (·.size) = some cs.size)
  (h : wpList P ops Q rest (a.put o.dst (.agg cs)) w) : wpList P ops Q (o :: rest) a w :=
 wpList_step fun K hK => by
  rw [if_pos hw]
  exact wp_load_row ty x ho g hx t cs fr d hg hu hd hi (hK _ _ h)
set_option maxRecDepth 100000 in
set_option maxHeartbeats 4000000 in
theorem rel_within (A B : Nat → Nat → Bool) (w : World) : Calls Tryz.prog 91 #[.agg (relC .u32 A), .agg (relC .u32 B)] w (BoolIs (relEq (fun i j => A i j && B i j) A) w) := by
 obtain ⟨k0, k1, kb, kz⟩ := two_blk w (relC .u32 A) (relC .u32 B) 68 68
 have K0 := Lib.hid k0
 have K1 := Lib.hid k1
 have KB := Lib.hid kb
 have CA := fun w => Lib.hid (rel_and A B w)
 have HG := r_guard
 have HE := fun w => r_eq (fun i j => A i j && B i j) A w
 clear k0 k1 kb kz
 go_enter Tryz.func91, Tryz.ntmps91
 go_wp2_with (first
  | (refine wpList_boxTo rfl 68 _ rfl (some 2) rfl w.heap.size rfl (relC .u32 A) (by rfl) ?_)
  | (refine wpList_boxTo rfl 68 _ rfl (some 3) rfl (w.heap.size + 1) (by simp) (relC .u32 B) (by rfl) ?_))
 generalize (w.alloc (.cells (relC .u32 A) 68)).alloc (.cells (relC .u32 B) 68) = w0 at *
 replace K0 := Lib.hid K0.out.drew
 replace K1 := Lib.hid K1.out.drew
 replace KB := Lib.hid KB.out.drew
 refine wp_region_any (by kernel_rfl) ?_
 change wpAny _ _ _ _ _ _ _ (World.drew _)
 generalize w0.drew = wd at *
 refine wpAny_ready (rs := [0, 1, 3]) (by kernel_rfl) (by simp) ?_
 refine AllReady.cons rfl (fun K hK => ?_) (AllReady.cons rfl (fun K hK => ?_) (AllReady.cons rfl (fun K hK => ?_) AllReady.nil))
 ·refine step_load_row rfl 68 _ rfl w.heap.size (by rfl) 68 (relC .u32 A) (0, 0) _ K0.out undR rfl (infoR _) ?_
  refine hK _ _ ?_; clear hK K
  refine wpAny_ready (rs := [1, 3]) (by kernel_rfl) (by simp) ?_
  refine AllReady.cons rfl (fun K hK => ?_) (AllReady.cons rfl (fun K hK => ?_) AllReady.nil)
  ·refine step_load_row rfl 68 _ rfl (w.heap.size + 1) (by rfl) 68 (relC .u32 B) (0, 0) _ K1.out undR rfl (infoR _) ?_
   refine hK _ _ ?_; clear hK K
   refine wpAny_ready (rs := [2, 3]) (by kernel_rfl) (by simp) ?_
   refine AllReady.cons rfl (fun K hK => ?_) (AllReady.cons rfl (fun K hK => ?_) AllReady.nil)
   ·go_simp
    go_wp2_with (go_at_call 149; (with_reducible refine (CA _).out.mono ?_); rintro e w2 ⟨rfl, hb⟩)
    replace K0 := Lib.hid (K0.out.kept hb)
    replace K1 := Lib.hid (K1.out.kept hb)
    replace KB := Lib.hid (bnext KB.out hb)
    clear hb
    refine wpAny_ready (rs := [3]) (by kernel_rfl) (by simp) ?_
    refine AllReady.cons rfl (fun K hK => ?_) AllReady.nil
    refine step_load_row rfl 68 _ rfl w.heap.size (by rfl) 68 (relC .u32 A) (0, 0) _ K0.out undR rfl (infoR _) ?_
    refine hK _ _ ?_; clear hK K
    refine wpAny_ready (rs := [4]) (by kernel_rfl) (by simp) ?_
    refine AllReady.cons rfl (fun K hK => ?_) AllReady.nil
    go_simp
    refine hK _ _ ?_; clear hK K
    refine wpAny_ready (rs := [5]) (by kernel_rfl) (by simp) ?_
    refine AllReady.cons rfl (fun K hK => ?_) AllReady.nil
    go_simp
    refine hK _ _ ?_; clear hK K
    refine wpAny_done (by kernel_rfl) ?_ _
    go_wp2_with fail
    go_ret
    exact ⟨rfl, KB.out⟩
   ·refine step_load_row rfl 68 _ rfl w.heap.size (by rfl) 68 (relC .u32 A) (0, 0) _ K0.out undR rfl (infoR _) ?_
    refine hK _ _ ?_; clear hK K
    refine wpAny_ready (rs := [2]) (by kernel_rfl) (by simp) ?_
    refine AllReady.cons rfl (fun K hK => ?_) AllReady.nil
    go_simp
    go_wp2_with (go_at_call 149; (with_reducible refine (CA _).out.mono ?_); rintro e w2 ⟨rfl, hb⟩)
    replace K0 := Lib.hid (K0.out.kept hb)
    replace K1 := Lib.hid (K1.out.kept hb)
    replace KB := Lib.hid (bnext KB.out hb)
    clear hb
    refine wpAny_ready (rs := [4]) (by kernel_rfl) (by simp) ?_
    refine AllReady.cons rfl (fun K hK => ?_) AllReady.nil
    go_simp
    refine hK _ _ ?_; clear hK K
    refine wpAny_ready (rs := [5]) (by kernel_rfl) (by simp) ?_
    refine AllReady.cons rfl (fun K hK => ?_) AllReady.nil
    go_simp
    refine hK _ _ ?_; clear hK K
    refine wpAny_done (by kernel_rfl) ?_ _
    go_wp2_with fail
    go_ret
    exact ⟨rfl, KB.out⟩
  ·refine step_load_row rfl 68 _ rfl w.heap.size (by rfl) 68 (relC .u32 A) (0, 0) _ K0.out undR rfl (infoR _) ?_
   refine hK _ _ ?_; clear hK K
   refine wpAny_ready (rs := [1]) (by kernel_rfl) (by simp) ?_
   refine AllReady.cons rfl (fun K hK => ?_) AllReady.nil
   refine step_load_row rfl 68 _ rfl (w.heap.size + 1) (by rfl) 68 (relC .u32 B) (0, 0) _ K1.out undR rfl (infoR _) ?_
   refine hK _ _ ?_; clear hK K
   refine wpAny_ready (rs := [2]) (by kernel_rfl) (by simp) ?_
   refine AllReady.cons rfl (fun K hK => ?_) AllReady.nil
   go_simp
   go_wp2_with (go_at_call 149; (with_reducible refine (CA _).out.mono ?_); rintro e w2 ⟨rfl, hb⟩)
   replace K0 := Lib.hid (K0.out.kept hb)
   replace K1 := Lib.hid (K1.out.kept hb)
   replace KB := Lib.hid (bnext KB.out hb)
   clear hb
   refine wpAny_ready (rs := [4]) (by kernel_rfl) (by simp) ?_
   refine AllReady.cons rfl (fun K hK => ?_) AllReady.nil
   go_simp
   refine hK _ _ ?_; clear hK K
   refine wpAny_ready (rs := [5]) (by kernel_rfl) (by simp) ?_
   refine AllReady.cons rfl (fun K hK => ?_) AllReady.nil
   go_simp
   refine hK _ _ ?_; clear hK K
   refine wpAny_done (by kernel_rfl) ?_ _
   go_wp2_with fail
   go_ret
   exact ⟨rfl, KB.out⟩
 ·refine step_load_row rfl 68 _ rfl (w.heap.size + 1) (by rfl) 68 (relC .u32 B) (0, 0) _ K1.out undR rfl (infoR _) ?_
  refine hK _ _ ?_; clear hK K
  refine wpAny_ready (rs := [0, 3]) (by kernel_rfl) (by simp) ?_
  refine AllReady.cons rfl (fun K hK => ?_) (AllReady.cons rfl (fun K hK => ?_) AllReady.nil)
  ·refine step_load_row rfl 68 _ rfl w.heap.size (by rfl) 68 (relC .u32 A) (0, 0) _ K0.out undR rfl (infoR _) ?_
   refine hK _ _ ?_; clear hK K
   refine wpAny_ready (rs := [2, 3]) (by kernel_rfl) (by simp) ?_
   refine AllReady.cons rfl (fun K hK => ?_) (AllReady.cons rfl (fun K hK => ?_) AllReady.nil)
   ·go_simp
    go_wp2_with (go_at_call 149; (with_reducible refine (CA _).out.mono ?_); rintro e w2 ⟨rfl, hb⟩)
    replace K0 := Lib.hid (K0.out.kept hb)
    replace K1 := Lib.hid (K1.out.kept hb)
    replace KB := Lib.hid (bnext KB.out hb)
    clear hb
    refine wpAny_ready (rs := [3]) (by kernel_rfl) (by simp) ?_
    refine AllReady.cons rfl (fun K hK => ?_) AllReady.nil
    refine step_load_row rfl 68 _ rfl w.heap.size (by rfl) 68 (relC .u32 A) (0, 0) _ K0.out undR rfl (infoR _) ?_
    refine hK _ _ ?_; clear hK K
    refine wpAny_ready (rs := [4]) (by kernel_rfl) (by simp) ?_
    refine AllReady.cons rfl (fun K hK => ?_) AllReady.nil
    go_simp
    refine hK _ _ ?_; clear hK K
    refine wpAny_ready (rs := [5]) (by kernel_rfl) (by simp) ?_
    refine AllReady.cons rfl (fun K hK => ?_) AllReady.nil
    go_simp
    refine hK _ _ ?_; clear hK K
    refine wpAny_done (by kernel_rfl) ?_ _
    go_wp2_with fail
    go_ret
    exact ⟨rfl, KB.out⟩
   ·refine step_load_row rfl 68 _ rfl w.heap.size (by rfl) 68 (relC .u32 A) (0, 0) _ K0.out undR rfl (infoR _) ?_
    refine hK _ _ ?_; clear hK K
    refine wpAny_ready (rs := [2]) (by kernel_rfl) (by simp) ?_
    refine AllReady.cons rfl (fun K hK => ?_) AllReady.nil
    go_simp
    go_wp2_with (go_at_call 149; (with_reducible refine (CA _).out.mono ?_); rintro e w2 ⟨rfl, hb⟩)
    replace K0 := Lib.hid (K0.out.kept hb)
    replace K1 := Lib.hid (K1.out.kept hb)
    replace KB := Lib.hid (bnext KB.out hb)
    clear hb
    refine wpAny_ready (rs := [4]) (by kernel_rfl) (by simp) ?_
    refine AllReady.cons rfl (fun K hK => ?_) AllReady.nil
    go_simp
    refine hK _ _ ?_; clear hK K
    refine wpAny_ready (rs := [5]) (by kernel_rfl) (by simp) ?_
    refine AllReady.cons rfl (fun K hK => ?_) AllReady.nil
    go_simp
    refine hK _ _ ?_; clear hK K
    refine wpAny_done (by kernel_rfl) ?_ _
    go_wp2_with fail
    go_ret
    exact ⟨rfl, KB.out⟩
  ·refine step_load_row rfl 68 _ rfl w.heap.size (by rfl) 68 (relC .u32 A) (0, 0) _ K0.out undR rfl (infoR _) ?_
   refine hK _ _ ?_; clear hK K
   refine wpAny_ready (rs := [0]) (by kernel_rfl) (by simp) ?_
   refine AllReady.cons rfl (fun K hK => ?_) AllReady.nil
   refine step_load_row rfl 68 _ rfl w.heap.size (by rfl) 68 (relC .u32 A) (0, 0) _ K0.out undR rfl (infoR _) ?_
   refine hK _ _ ?_; clear hK K
   refine wpAny_ready (rs := [2]) (by kernel_rfl) (by simp) ?_
   refine AllReady.cons rfl (fun K hK => ?_) AllReady.nil
   go_simp
   go_wp2_with (go_at_call 149; (with_reducible refine (CA _).out.mono ?_); rintro e w2 ⟨rfl, hb⟩)
   replace K0 := Lib.hid (K0.out.kept hb)
   replace K1 := Lib.hid (K1.out.kept hb)
   replace KB := Lib.hid (bnext KB.out hb)
   clear hb
   refine wpAny_ready (rs := [4]) (by kernel_rfl) (by simp) ?_
   refine AllReady.cons rfl (fun K hK => ?_) AllReady.nil
   go_simp
   refine hK _ _ ?_; clear hK K
   refine wpAny_ready (rs := [5]) (by kernel_rfl) (by simp) ?_
   refine AllReady.cons rfl (fun K hK => ?_) AllReady.nil
   go_simp
   refine hK _ _ ?_; clear hK K
   refine wpAny_done (by kernel_rfl) ?_ _
   go_wp2_with fail
   go_ret
   exact ⟨rfl, KB.out⟩
 ·refine step_load_row rfl 68 _ rfl w.heap.size (by rfl) 68 (relC .u32 A) (0, 0) _ K0.out undR rfl (infoR _) ?_
  refine hK _ _ ?_; clear hK K
  refine wpAny_ready (rs := [0, 1]) (by kernel_rfl) (by simp) ?_
  refine AllReady.cons rfl (fun K hK => ?_) (AllReady.cons rfl (fun K hK => ?_) AllReady.nil)
  ·refine step_load_row rfl 68 _ rfl w.heap.size (by rfl) 68 (relC .u32 A) (0, 0) _ K0.out undR rfl (infoR _) ?_
   refine hK _ _ ?_; clear hK K
   refine wpAny_ready (rs := [1]) (by kernel_rfl) (by simp) ?_
   refine AllReady.cons rfl (fun K hK => ?_) AllReady.nil
   refine step_load_row rfl 68 _ rfl (w.heap.size + 1) (by rfl) 68 (relC .u32 B) (0, 0) _ K1.out undR rfl (infoR _) ?_
   refine hK _ _ ?_; clear hK K
   refine wpAny_ready (rs := [2]) (by kernel_rfl) (by simp) ?_
   refine AllReady.cons rfl (fun K hK => ?_) AllReady.nil
   go_simp
   go_wp2_with (go_at_call 149; (with_reducible refine (CA _).out.mono ?_); rintro e w2 ⟨rfl, hb⟩)
   replace K0 := Lib.hid (K0.out.kept hb)
   replace K1 := Lib.hid (K1.out.kept hb)
   replace KB := Lib.hid (bnext KB.out hb)
   clear hb
   refine wpAny_ready (rs := [4]) (by kernel_rfl) (by simp) ?_
   refine AllReady.cons rfl (fun K hK => ?_) AllReady.nil
   go_simp
   refine hK _ _ ?_; clear hK K
   refine wpAny_ready (rs := [5]) (by kernel_rfl) (by simp) ?_
   refine AllReady.cons rfl (fun K hK => ?_) AllReady.nil
   go_simp
   refine hK _ _ ?_; clear hK K
   refine wpAny_done (by kernel_rfl) ?_ _
   go_wp2_with fail
   go_ret
   exact ⟨rfl, KB.out⟩
  ·refine step_load_row rfl 68 _ rfl (w.heap.size + 1) (by rfl) 68 (relC .u32 B) (0, 0) _ K1.out undR rfl (infoR _) ?_
   refine hK _ _ ?_; clear hK K
   refine wpAny_ready (rs := [0]) (by kernel_rfl) (by simp) ?_
   refine AllReady.cons rfl (fun K hK => ?_) AllReady.nil
   refine step_load_row rfl 68 _ rfl w.heap.size (by rfl) 68 (relC .u32 A) (0, 0) _ K0.out undR rfl (infoR _) ?_
   refine hK _ _ ?_; clear hK K
   refine wpAny_ready (rs := [2]) (by kernel_rfl) (by simp) ?_
   refine AllReady.cons rfl (fun K hK => ?_) AllReady.nil
   go_simp
   go_wp2_with (go_at_call 149; (with_reducible refine (CA _).out.mono ?_); rintro e w2 ⟨rfl, hb⟩)
   replace K0 := Lib.hid (K0.out.kept hb)
   replace K1 := Lib.hid (K1.out.kept hb)
   replace KB := Lib.hid (bnext KB.out hb)
   clear hb
   refine wpAny_ready (rs := [4]) (by kernel_rfl) (by simp) ?_
   refine AllReady.cons rfl (fun K hK => ?_) AllReady.nil
   go_simp
   refine hK _ _ ?_; clear hK K
   refine wpAny_ready (rs := [5]) (by kernel_rfl) (by simp) ?_
   refine AllReady.cons rfl (fun K hK => ?_) AllReady.nil
   go_simp
   refine hK _ _ ?_; clear hK K
   refine wpAny_done (by kernel_rfl) ?_ _
   go_wp2_with fail
   go_ret
   exact ⟨rfl, KB.out⟩
set_option maxRecDepth 100000 in
set_option maxHeartbeats 4000000 in
theorem implRelWithin_yes (s q : ByteArray) (h : Rel729 s ∧ Rel729 q) (w : World) : Calls Tryz.prog 22 #[.string s, .string q] w (BoolIs (relEq (fun i j => relS s.data.toList i j && relS q.data.toList i j) (relS s.data.toList)) w) := by
 have C1 := Lib.hid (readRels_yes s q h.1 h.2)
 clear h
 go_enter Tryz.func22, Tryz.ntmps22
 go_wp2_with fail
 refine (C1.out _).mono ?_
 rintro e w1 ⟨rfl, hb⟩
 have KB := Lib.hid hb
 clear hb
 obtain ⟨p0, p1, pb⟩ := push2_blk w1 (relC .u32 noR) (relC .u32 noR) (relC .u32 (relS s.data.toList)) (relC .u32 (relS q.data.toList)) 68 68
 have P0 := Lib.hid p0
 have P1 := Lib.hid p1
 replace KB := Lib.hid (bnext KB.out pb)
 obtain ⟨l0, l1, _, _⟩ := two_blk w1 (relC .u32 noR) (relC .u32 noR) 68 68
 have L0 := Lib.hid l0
 have L1 := Lib.hid (l1.rowOther (g := w1.heap.size) (by omega) (relC .u32 (relS s.data.toList)))
 clear p0 p1 pb l0 l1
 go_wp2_with (first
  | (refine r_alloc rfl rfl (some 5) rfl w1.heap.size rfl ?_)
  | (refine r_alloc rfl rfl (some 6) rfl (w1.heap.size + 1) (by simp) ?_)
  | (refine wpList_store_row rfl 68 _ _ rfl w1.heap.size (relC .u32 (relS s.data.toList)) (by rfl) (by rfl) 68 (relC .u32 noR) L0.out (infoR _) (by first | rw [relC_size, relC_size] | rw [relC_size]) (relC_one _ _) ?_)
  | (refine wpList_store_row rfl 68 _ _ rfl (w1.heap.size + 1) (relC .u32 (relS q.data.toList)) (by rfl) (by rfl) 68 (relC .u32 noR) L1.out (infoR _) (by first | rw [relC_size, relC_size] | rw [relC_size]) (relC_one _ _) ?_)
  | (refine wpList_load_rowG (by rfl) 68 _ rfl w1.heap.size (by rfl) 68 (relC .u32 (relS s.data.toList)) (0, 0) _ P0.out undR rfl (infoR _) ?_)
  | (refine wpList_load_rowG (by rfl) 68 _ rfl (w1.heap.size + 1) (by rfl) 68 (relC .u32 (relS q.data.toList)) (0, 0) _ P1.out undR rfl (infoR _) ?_))
 refine (rel_within (relS s.data.toList) (relS q.data.toList) _).mono ?_
 rintro e w2 ⟨rfl, hb⟩
 replace KB := Lib.hid (bnext KB.out hb)
 clear hb
 go_wp2_with fail
 go_ret
 exact ⟨rfl, KB.out⟩
end Go.Proofs.YtgkoljphndgoeaaGreatDoor
