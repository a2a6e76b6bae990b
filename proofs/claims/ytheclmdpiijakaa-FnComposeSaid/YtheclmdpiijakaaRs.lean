/-
  The model's relations: read, shown, turned, composed.
-/
import Derived.Test.YtheclmdpiijakaaTopG
import Derived.Test.YtheclmdpiijakaaSetJ
namespace Go.Proofs.Ytheclmdpiijakaa
open Go.RowKit Go.Great

def MPost (T : Nat → Nat → Bool) (w : World) (e : Ending) (w' : World) : Prop := e = .returned (.agg (relC .i64 T)) ∧ Below w.heap.size w w'
theorem mixM_cell {w : World} {g : Nat} {A B : Nat → Nat → Bool} {k : Nat} (h : Blk w g (relC .i64 (mixR k A B)) 57) (hk : k < 27) : w.cell? ⟨g, k, none⟩ = some (.int .i64 (nb 27 (B k))) := (h.cell k).trans (mixR_at hk)
theorem mrel_cell {w : World} {g : Nat} {A : Nat → Nat → Bool} {k : Nat} (h : Blk w g (relC .i64 A) 57) (hk : k < 27) : w.cell? ⟨g, k, none⟩ = some (.int .i64 (nb 27 (A k))) := (h.cell k).trans (relC_get _ _ hk)
theorem mixM_put {w : World} {g : Nat} {A B : Nat → Nat → Bool} {k : Nat} (h : Blk w g (relC .i64 (mixR k A B)) 57) (hk : k < 27) : Blk (w.setCell ⟨g, k, none⟩ (.int .i64 (nb 27 (A k)))) g (relC .i64 (mixR (k + 1) A B)) 57 := by
  have := h.set k (.int .i64 (nb 27 (A k)))
  rwa [mixR_step hk] at this
theorem row_mask {s : ByteArray} (hs : Rel729 s) {k : Nat} (hk : k < 27) (x : ByteArray) (hx : x = s.extract (27 * k) (27 * k + 27)) (w : World) : Calls Try.prog 54 #[.string x] w fun e w' => e = .returned (.int .i64 (nb 27 (relS s.data.toList k))) ∧ Below w.heap.size w w' := by
  subst hx
  obtain ⟨h1, h2⟩ := row_of hs hk
  have := specMask _ w h1
  rw [nb_congr h2] at this
  exact this
theorem rows_at2 (k : Nat) (hk : k < 27) : (0 : Int) ≤ 27 * (k : Int) ∧ 27 * (k : Int) ≤ 27 * (k : Int) + 27 ∧ 27 * (k : Int) + 27 ≤ 729 := by omega

set_option maxRecDepth 100000 in
set_option maxHeartbeats 4000000 in
theorem specRead (s : ByteArray) (hs : Rel729 s) (w : World) : Calls Try.prog 30 #[.string s] w (MPost (relS s.data.toList) w) := by
  have hz := hs.size
  obtain ⟨k0, k1, kb, kz⟩ := two_blk w (relC .i64 noR) (relC .i64 noR) 57 57
  have L1 := Lib.hid k1
  have K0 := Lib.hid (k0.rowOther (g := w.heap.size + 1) (by omega) (relC .i64 noR))
  have K1 := Lib.hid (k1.row (relC .i64 noR))
  have KB := Lib.hid (Below.setRow kb (g := w.heap.size + 1) (by omega) (relC .i64 noR))
  have CR := fun k hk x hx w => Lib.hid (row_mask hs (k := k) hk x hx w)
  clear k0 k1 kb kz hs
  go_enter Try.func30, Try.ntmps30
  go_wp2_with (first
    | (refine m_alloc rfl rfl (some 2) rfl w.heap.size rfl ?_)
    | (refine m_alloc rfl rfl (some 3) rfl (w.heap.size + 1) (by simp) ?_)
    | (refine wpList_buildTo rfl 57 _ rfl _ rfl (relC .i64 noR) (by kernel_rfl) ?_)
    | (refine wpList_store_row rfl 57 _ _ rfl (w.heap.size + 1) (relC .i64 noR) (by rfl) (by rfl) 57 (relC .i64 noR) L1.out (infoM _) (by first | rw [relC_size, relC_size] | rw [relC_size]) (relC_one _ _) ?_))
  clear L1
  generalize ((w.alloc (.cells (relC .i64 noR) 57)).alloc (.cells (relC .i64 noR) 57)).setRow (w.heap.size + 1) (relC .i64 noR) = w0 at *
  go_loopw [4] (fun i wr => ∃ k : Nat, k ≤ 27 ∧ i = .int .i64 k ∧ Hid (Blk wr (w.heap.size + 1) (relC .i64 (mixR k (relS s.data.toList) noR)) 57) ∧ Hid (Blk wr w.heap.size (relC .i64 noR) 57) ∧ Hid (Below w.heap.size w wr)) (fun i _ => 27 - (intOf i).toNat)
  case atStart => exact ⟨0, by omega, rfl, by rw [mixR_zero]; exact K1, K0, KB⟩
  case round =>
    clear K0 K1 KB
    obtain ⟨k, hk, rfl, R1, R0, RB⟩ := hrel
    by_cases hlt : k < 27
    · obtain ⟨b1, b2, b3⟩ := rows_at2 k hlt
      have C := CR k hlt
      go_wp2_with fail
      refine (C _ (by first | rfl | rw [Nat.mul_succ]) _).out.mono ?_
      rintro e w2 ⟨rfl, hb⟩
      replace R1 := Lib.hid (R1.out.kept hb)
      replace R0 := Lib.hid (R0.out.kept hb)
      replace RB := Lib.hid (bnext RB.out hb)
      have c0 := mixM_cell R1.out hlt
      have c1 := R1.out.free k
      have RP := mixM_put R1.out hlt
      replace RP := Lib.hid RP
      clear hb
      go_wp2_with fail
      exact ⟨⟨k + 1, by omega, by go_num, RP, Lib.hid (R0.out.setOther (p := ⟨w.heap.size + 1, k, none⟩) (by show w.heap.size ≠ w.heap.size + 1; omega) _), Lib.hid (RB.out.setCell (p := ⟨w.heap.size + 1, k, none⟩) (by show w.heap.size ≤ w.heap.size + 1; omega) _)⟩, by simp [intOf]; omega⟩
    · have hk2 : k = 27 := by omega
      subst hk2
      have R2 := R1.out
      rw [mixR_all] at R2
      replace R1 := Lib.hid R2
      clear R2
      go_wp2_with (first
        | (refine wpList_load_row rfl 57 _ rfl (w.heap.size + 1) (by rfl) 57 (relC .i64 (relS s.data.toList)) (0, 0) _ R1.out undM rfl (infoM _) ?_)
        | (refine wpList_store_row rfl 57 _ _ rfl w.heap.size (relC .i64 (relS s.data.toList)) (by rfl) (by rfl) 57 (relC .i64 noR) R0.out (infoM _) (by first | rw [relC_size, relC_size] | rw [relC_size]) (relC_one _ _) ?_))
      exact bodyPost_ret (v := .agg (relC .i64 (relS s.data.toList))) (results_cell_row rfl _ _ w.heap.size 57 _ (0, 0) _ (by rfl) (R0.out.row _) undM rfl (infoM _)) rfl ⟨rfl, Below.setRow RB.out (Nat.le_refl _) _⟩

set_option maxRecDepth 100000 in
set_option maxHeartbeats 4000000 in
theorem specRText (A : Nat → Nat → Bool) (w : World) : Calls Try.prog 28 #[.agg (relC .i64 A)] w fun e w' => e = .returned (.string (bs (relT A))) ∧ Below w.heap.size w w' := by
  obtain ⟨k0, kb, kz⟩ := one_blk w (relC .i64 A) 57
  have K0 := Lib.hid k0
  have KB := Lib.hid kb
  clear k0 kb kz
  go_enter Try.func28, Try.ntmps28
  go_wp2_with (refine wpList_boxTo rfl 57 _ rfl (some 1) rfl w.heap.size rfl (relC .i64 A) (by rfl) ?_)
  generalize w.alloc (.cells (relC .i64 A) 57) = w0 at *
  go_loopw [3, 4] (fun s i wr => ∃ k : Nat, k ≤ 27 ∧ i = .int .i64 k ∧ s = .string (bs (rowsT A k)) ∧ Hid (Blk wr w.heap.size (relC .i64 A) 57) ∧ Hid (Below w.heap.size w wr)) (fun _ i _ => 27 - (intOf i).toNat)
  case atStart => exact ⟨0, by omega, rfl, rfl, K0, KB⟩
  case round =>
    clear K0 KB
    obtain ⟨k, hk, rfl, rfl, R0, RB⟩ := hrel
    by_cases hlt : k < 27
    · have c0 := mrel_cell R0.out hlt
      have C := fun w => Lib.hid (specTextS (A k) w)
      have hs1 : (bs (rowsT A k)).size = 27 * k := by rw [bs_size, rowsT_len]
      have hs2 : (bs (tb (A k))).size = 27 := by rw [bs_size, tb, tbn_length]
      have hs3 : ¬ (9223372036854775807 < (bs (rowsT A k)).size + (bs (tb (A k))).size) := by omega
      have HA := Lib.hid (bs_append (rowsT A k) (tb (A k)))
      clear hs1 hs2
      go_wp2_with fail
      refine (C _).out.mono ?_
      rintro e w2 ⟨rfl, hb⟩
      replace RB := Lib.hid (bnext RB.out hb)
      replace R0 := Lib.hid (R0.out.kept hb)
      clear hb c0
      go_wp2_with fail
      exact ⟨⟨k + 1, by omega, by go_num, by rw [HA.out]; rfl, R0, RB⟩, by simp [intOf]; omega⟩
    · have hk2 : k = 27 := by omega
      subst hk2
      go_wp2_with fail
      go_ret
      exact ⟨rfl, RB.out⟩

/-- The first k rows of a composition, and row k as far as its first m states lead. -/
def compP (A B : Nat → Nat → Bool) (k m : Nat) : Nat → Nat → Bool := setR (mixR k (compR A B) noR) k (postS (A k) B m)
theorem compP_zero (A B : Nat → Nat → Bool) (k : Nat) : relC .i64 (compP A B k 0) = relC .i64 (mixR k (compR A B) noR) := relC_congr fun i _ j _ => by
  unfold compP setR
  by_cases e : i = k
  · subst e; simp [mixR, noR, postS, upto_zero]
  · rw [if_neg e]
theorem compP_at {A B : Nat → Nat → Bool} {k m : Nat} (hk : k < 27) : (relC .i64 (compP A B k m))[k]? = some (.int .i64 (nb 27 (postS (A k) B m))) := by
  rw [relC_get _ _ hk]
  simp [compP, setR]
theorem compP_set {A B : Nat → Nat → Bool} {k m n : Nat} (hk : k < 27) : (relC .i64 (compP A B k m)).setIfInBounds k (.int .i64 (nb 27 (postS (A k) B n))) = relC .i64 (compP A B k n) := by
  rw [relC_set hk]
  refine relC_congr fun i _ j _ => ?_
  unfold compP setR
  by_cases e : i = k
  · rw [if_pos e, if_pos e]
  · rw [if_neg e, if_neg e, if_neg e]
theorem compP_done {A B : Nat → Nat → Bool} {k : Nat} : relC .i64 (compP A B k 27) = relC .i64 (mixR (k + 1) (compR A B) noR) := relC_congr fun i _ j _ => by
  unfold compP setR mixR
  by_cases e : i = k
  · subst e; simp [compR_post]
  · rw [if_neg e]
    by_cases h : i < k
    · have h2 : i < k + 1 := by omega
      simp [h, h2]
    · have h2 : ¬ i < k + 1 := by omega
      simp [h, h2]

set_option maxRecDepth 100000 in
set_option maxHeartbeats 4000000 in
theorem specComp (A B : Nat → Nat → Bool) (w : World) : Calls Try.prog 29 #[.agg (relC .i64 A), .agg (relC .i64 B)] w (MPost (compR A B) w) := by
  obtain ⟨k0, k1, k2, kb, kz⟩ := three_blk w (relC .i64 A) (relC .i64 B) (relC .i64 noR) 57 57 57
  obtain ⟨l3, lb, lz⟩ := one_blk (((w.alloc (.cells (relC .i64 A) 57)).alloc (.cells (relC .i64 B) 57)).alloc (.cells (relC .i64 noR) 57)) (relC .i64 noR) 57
  rw [kz] at l3
  have L3 := Lib.hid l3
  have K0 := Lib.hid ((k0.kept lb).rowOther (g := w.heap.size + 3) (by omega) (relC .i64 noR))
  have K1 := Lib.hid ((k1.kept lb).rowOther (g := w.heap.size + 3) (by omega) (relC .i64 noR))
  have K2 := Lib.hid ((k2.kept lb).rowOther (g := w.heap.size + 3) (by omega) (relC .i64 noR))
  have K3 := Lib.hid (l3.row (relC .i64 noR))
  have KB := Lib.hid (Below.setRow (bnext kb lb) (g := w.heap.size + 3) (by omega) (relC .i64 noR))
  have KZ := Lib.hid kz
  clear k0 k1 k2 kb kz l3 lb lz
  go_enter Try.func29, Try.ntmps29
  go_wp2_with (first
    | (refine wpList_boxTo rfl 57 _ rfl (some 2) rfl w.heap.size rfl (relC .i64 A) (by rfl) ?_)
    | (refine wpList_boxTo rfl 57 _ rfl (some 3) rfl (w.heap.size + 1) (by simp) (relC .i64 B) (by rfl) ?_)
    | (refine m_alloc rfl rfl (some 4) rfl (w.heap.size + 2) (by simp) ?_)
    | (refine m_alloc rfl rfl (some 5) rfl (w.heap.size + 3) KZ.out ?_)
    | (refine wpList_buildTo rfl 57 _ rfl _ rfl (relC .i64 noR) (by kernel_rfl) ?_)
    | (refine wpList_store_row rfl 57 _ _ rfl (w.heap.size + 3) (relC .i64 noR) (by rfl) (by rfl) 57 (relC .i64 noR) L3.out (infoM _) (by first | rw [relC_size, relC_size] | rw [relC_size]) (relC_one _ _) ?_))
  clear L3 KZ
  generalize ((((w.alloc (.cells (relC .i64 A) 57)).alloc (.cells (relC .i64 B) 57)).alloc (.cells (relC .i64 noR) 57)).alloc (.cells (relC .i64 noR) 57)).setRow (w.heap.size + 3) (relC .i64 noR) = w0 at *
  go_loopw [6, 7] (fun i _ wr => ∃ k : Nat, k ≤ 27 ∧ i = .int .i64 k ∧ Hid (Blk wr (w.heap.size + 3) (relC .i64 (mixR k (compR A B) noR)) 57) ∧ Hid (Blk wr (w.heap.size + 2) (relC .i64 noR) 57) ∧ Hid (Blk wr w.heap.size (relC .i64 A) 57) ∧ Hid (Blk wr (w.heap.size + 1) (relC .i64 B) 57) ∧ Hid (Below w.heap.size w wr)) (fun i _ _ => 27 - (intOf i).toNat)
  case atStart => exact ⟨0, by omega, rfl, by rw [mixR_zero]; exact K3, K2, K0, K1, KB⟩
  case round =>
    clear K0 K1 K2 K3 KB
    obtain ⟨k, hk, rfl, R3, R2, R0, R1, RB⟩ := hrel
    by_cases hlt : k < 27
    · have RX := R3.out
      rw [← compP_zero] at RX
      replace R3 := Lib.hid RX
      clear RX
      go_wp2_with fail
      simp only [show decide ((k : Int) < 27) = true from decide_eq_true (by omega)]
      obtain ⟨wo, rfl⟩ : ∃ wo : World, wo = wr := ⟨_, rfl⟩
      go_loopw [7] (fun i wr => ∃ m : Nat, m ≤ 27 ∧ i = .int .i64 m ∧ Hid (Blk wr (w.heap.size + 3) (relC .i64 (compP A B k m)) 57) ∧ Hid (Blk wr (w.heap.size + 2) (relC .i64 noR) 57) ∧ Hid (Blk wr w.heap.size (relC .i64 A) 57) ∧ Hid (Blk wr (w.heap.size + 1) (relC .i64 B) 57) ∧ Hid (Below w.heap.size w wr)) (fun i _ => 27 - (intOf i).toNat)
      case atStart => exact ⟨0, by omega, rfl, R3, R2, R0, R1, RB⟩
      case round =>
        clear R3 R2 R0 R1 RB
        obtain ⟨m, hm, rfl, R3, R2, R0, R1, RB⟩ := hrel
        by_cases hlm : m < 27
        · have C := fun w => Lib.hid (specInS (A k) m hlm w)
          have a0 := mrel_cell R0.out hlt
          cases hF : A k m <;> rw [hF] at C
          · go_wp2_with fail
            refine (C _).out.mono ?_
            rintro e w2 ⟨rfl, rfl⟩
            go_wp2_with fail
            refine ⟨⟨m + 1, by omega, by go_num, ?_, R2, R0, R1, RB⟩, by simp [intOf]; omega⟩
            have e2 : compP A B k m = compP A B k (m + 1) := by unfold compP; rw [postS_no hF]
            rw [← e2]
            exact R3
          · have RP := R3.out.set k (.int .i64 (nb 27 (postS (A k) B (m + 1))))
            rw [compP_set hlt] at RP
            replace RP := Lib.hid RP.drew
            have HO := Lib.hid (s_or (postS (A k) B m) (B m))
            have HP := Lib.hid (postS_yes (B := B) hF)
            go_wp2_with fail
            refine (C _).out.mono ?_
            rintro e w2 ⟨rfl, rfl⟩
            go_wp2_with fail
            have c0 : wr.cell? ⟨w.heap.size + 3, k, none⟩ = some (.int .i64 (nb 27 (postS (A k) B m))) := (R3.out.cell k).trans (compP_at hlt)
            have c1 := R3.out.free k
            have c2 := mrel_cell R1.out hlm
            go_region
            rw [HO.out, HP.out]
            clear c0 c1 c2 a0
            go_wp2_with fail
            exact ⟨⟨m + 1, by omega, by go_num, RP, Lib.hid (R2.out.setOther (p := ⟨w.heap.size + 3, k, none⟩) (by show w.heap.size + 2 ≠ w.heap.size + 3; omega) _).drew, Lib.hid (R0.out.setOther (p := ⟨w.heap.size + 3, k, none⟩) (by show w.heap.size ≠ w.heap.size + 3; omega) _).drew, Lib.hid (R1.out.setOther (p := ⟨w.heap.size + 3, k, none⟩) (by show w.heap.size + 1 ≠ w.heap.size + 3; omega) _).drew, Lib.hid (RB.out.setCell (p := ⟨w.heap.size + 3, k, none⟩) (by show w.heap.size ≤ w.heap.size + 3; omega) _).drew⟩, by simp [intOf]; omega⟩
        · have hm2 : m = 27 := by omega
          subst hm2
          have RP := R3.out
          rw [compP_done] at RP
          replace RP := Lib.hid RP
          go_wp2_with fail
          exact ⟨⟨k + 1, by omega, by go_num, RP, R2, R0, R1, RB⟩, by simp [intOf]; omega⟩
    · have hk2 : k = 27 := by omega
      subst hk2
      have RP := R3.out
      rw [mixR_all] at RP
      replace RP := Lib.hid RP
      go_wp2_with (first
        | (refine wpList_load_row rfl 57 _ rfl (w.heap.size + 3) (by rfl) 57 (relC .i64 (compR A B)) (0, 0) _ RP.out undM rfl (infoM _) ?_)
        | (refine wpList_store_row rfl 57 _ _ rfl (w.heap.size + 2) (relC .i64 (compR A B)) (by rfl) (by rfl) 57 (relC .i64 noR) R2.out (infoM _) (by first | rw [relC_size, relC_size] | rw [relC_size]) (relC_one _ _) ?_))
      exact bodyPost_ret (v := .agg (relC .i64 (compR A B))) (results_cell_row rfl _ _ (w.heap.size + 2) 57 _ (0, 0) _ (by rfl) (R2.out.row _) undM rfl (infoM _)) rfl ⟨rfl, Below.setRow RB.out (by omega) _⟩
end Go.Proofs.Ytheclmdpiijakaa
