/-
  spec.l6Of: the relation of a test of two states.
-/
import Derived.Test.YtinjmdjnkneidaaGreatDoorTopR1
import Derived.Test.YtinjmdjnkneidaaGreatDoorWn
namespace Go.Proofs.YtinjmdjnkneidaaGreatDoor
open Go.RowKit Go.Great

/-- The rows before k, and row k up to m. -/
def lowR (T : Nat → Nat → Bool) (k m : Nat) : Nat → Nat → Bool := fun i j => if i < k then T i j else if i = k then decide (j < m) && T i j else false
theorem lowR_zero (T : Nat → Nat → Bool) : relC .i64 (lowR T 0 0) = relC .i64 noR := relC_congr fun i _ j _ => by simp [lowR, noR]
theorem lowR_all (T : Nat → Nat → Bool) : relC .i64 (lowR T 27 0) = relC .i64 T := relC_congr fun i hi j _ => by simp [lowR, hi]
theorem lowR_row (T : Nat → Nat → Bool) (k : Nat) : relC .i64 (lowR T k 27) = relC .i64 (lowR T (k + 1) 0) := relC_congr fun i _ j hj => by
  unfold lowR
  by_cases h1 : i < k
  · rw [if_pos h1, if_pos (by omega)]
  · rw [if_neg h1]
    by_cases h2 : i = k
    · rw [if_pos h2, if_pos (by omega)]; simp [hj]
    · rw [if_neg h2, if_neg (by omega)]; simp
theorem lowR_no {T : Nat → Nat → Bool} {k m : Nat} (h : T k m = false) : relC .i64 (lowR T k m) = relC .i64 (lowR T k (m + 1)) := relC_congr fun i _ j _ => by
  unfold lowR
  by_cases h1 : i < k
  · rw [if_pos h1, if_pos h1]
  · rw [if_neg h1, if_neg h1]
    by_cases h2 : i = k
    · subst h2
      rw [if_pos rfl, if_pos rfl]
      by_cases e : j = m
      · subst e; simp [h]
      · have : decide (j < m) = decide (j < m + 1) := by rw [Bool.eq_iff_iff, decide_eq_true_eq, decide_eq_true_eq]; omega
        rw [this]
    · rw [if_neg h2, if_neg h2]
theorem lowR_yes {T : Nat → Nat → Bool} {k m : Nat} (h : T k m = true) : relC .i64 (setR (lowR T k m) k (fun j => lowR T k m k j || j == m)) = relC .i64 (lowR T k (m + 1)) := relC_congr fun i _ j _ => by
  unfold setR lowR
  by_cases h2 : i = k
  · subst h2
    by_cases e : j = m
    · subst e; simp [h]
    · have : decide (j < m) = decide (j < m + 1) := by rw [Bool.eq_iff_iff, decide_eq_true_eq, decide_eq_true_eq]; omega
      have e2 : (j == m) = false := by simpa using e
      simp [this, e2]
  · rw [if_neg h2]
    by_cases h1 : i < k
    · rw [if_pos h1, if_pos h1]
    · rw [if_neg h1, if_neg h2, if_neg h1, if_neg h2]
theorem lowR_at {T : Nat → Nat → Bool} {k m : Nat} (hk : k < 27) : (relC .i64 (lowR T k m))[k]? = some (.int .i64 (nb 27 (lowR T k m k))) := relC_get _ _ hk

set_option maxHeartbeats 2000000 in
theorem specEnv2 (i j : Nat) (w : World) : Calls Tryz.prog 120 #[.agg #[.int .i64 (ax i), .int .i64 (ay i), .int .i64 (az i)], .agg #[.int .i64 (ax j), .int .i64 (ay j), .int .i64 (az j)]] w fun e w' => e = .returned (envV (env2 i j)) ∧ Below w.heap.size w w' := by
  go_enter Tryz.func120, Tryz.ntmps120
  go_wp2_with fail
  exact bodyPost_ret (v := envV (env2 i j)) (by simp [results, Tryz.results120, go_sem, envV, env2, env, one]) rfl ⟨rfl, (((Below.refl _ _).alloc (Nat.le_refl _) _).alloc (by simp) _).alloc (by simp; omega) _⟩

set_option maxRecDepth 100000 in
set_option maxHeartbeats 4000000 in
theorem specOf6 (s : ByteArray) (t : Tm) (w : World) (ht0 : Ok true true t) (hs : s.data.toList = t.ser) (hl0 : s.size ≤ 1000000) : Calls Tryz.prog 74 #[.string s] w (MPost (wdR t) w) := by
  obtain ⟨k0, k1, kb, kz⟩ := two_blk w (relC .i64 noR) (relC .i64 noR) 52 52
  have L1 := Lib.hid k1
  have K0 := Lib.hid (k0.rowOther (g := w.heap.size + 1) (by omega) (relC .i64 noR))
  have K1 := Lib.hid (k1.row (relC .i64 noR))
  have KB := Lib.hid (Below.setRow kb (g := w.heap.size + 1) (by omega) (relC .i64 noR))
  have H := fun k m (hk : k < 27) (hm : m < 27) w => Lib.hid (sph_any (env2 k m) (env2_bd hk hm) s hl0 t 0 [] w ht0 (by rw [List.drop_zero, List.append_nil]; exact hs))
  clear k0 k1 kb kz hs
  go_enter Tryz.func74, Tryz.ntmps74
  go_wp2_with (first
    | (refine m_alloc rfl rfl (some 2) rfl w.heap.size rfl ?_)
    | (refine m_alloc rfl rfl (some 3) rfl (w.heap.size + 1) (by simp) ?_)
    | (refine wpList_buildTo rfl 52 _ rfl _ rfl (relC .i64 noR) (by kernel_rfl) ?_)
    | (refine wpList_store_row rfl 52 _ _ rfl (w.heap.size + 1) (relC .i64 noR) (by rfl) (by rfl) 52 (relC .i64 noR) L1.out (infoM _) (by first | rw [relC_size, relC_size] | rw [relC_size]) (relC_one _ _) ?_))
  clear L1
  generalize ((w.alloc (.cells (relC .i64 noR) 52)).alloc (.cells (relC .i64 noR) 52)).setRow (w.heap.size + 1) (relC .i64 noR) = w0 at *
  go_loopw [4, 5, 6, 7] (fun i _ _ _ wr => ∃ k : Nat, k ≤ 27 ∧ i = .int .i64 k ∧ Hid (Blk wr (w.heap.size + 1) (relC .i64 (lowR (wdR t) k 0)) 52) ∧ Hid (Blk wr w.heap.size (relC .i64 noR) 52) ∧ Hid (Below w.heap.size w wr)) (fun i _ _ _ _ => 27 - (intOf i).toNat)
  case atStart => exact ⟨0, by omega, rfl, by rw [lowR_zero]; exact K1, K0, KB⟩
  case round =>
    clear K0 K1 KB
    obtain ⟨k, hk, rfl, R1, R0, RB⟩ := hrel
    by_cases hlt : k < 27
    · go_wp2_with fail
      simp only [show decide ((k : Int) < 27) = true from decide_eq_true (by omega)]
      obtain ⟨wo, rfl⟩ : ∃ wo : World, wo = wr := ⟨_, rfl⟩
      go_loopw [5, 6, 7] (fun i _ _ wr => ∃ m : Nat, m ≤ 27 ∧ i = .int .i64 m ∧ Hid (Blk wr (w.heap.size + 1) (relC .i64 (lowR (wdR t) k m)) 52) ∧ Hid (Blk wr w.heap.size (relC .i64 noR) 52) ∧ Hid (Below w.heap.size w wr)) (fun i _ _ _ => 27 - (intOf i).toNat)
      case atStart => exact ⟨0, by omega, rfl, R1, R0, RB⟩
      case round =>
        clear R1 R0 RB
        obtain ⟨m, hm, rfl, R1, R0, RB⟩ := hrel
        by_cases hlm : m < 27
        · have C1 := fun w => Lib.hid (specAt0 k w (by omega) (by omega))
          have C2 := fun w => Lib.hid (specAt0 m w (by omega) (by omega))
          have C3 := fun w => Lib.hid (specEnv2 k m w)
          have C4 := H k m hlt hlm
          go_wp2_with fail
          refine (C1 _).out.mono ?_
          rintro e w1 ⟨rfl, hb⟩
          replace R1 := Lib.hid (R1.out.kept hb)
          replace R0 := Lib.hid (R0.out.kept hb)
          replace RB := Lib.hid (bnext RB.out hb)
          clear hb
          go_wp2_with fail
          refine (C2 _).out.mono ?_
          rintro e w2 ⟨rfl, hb⟩
          replace R1 := Lib.hid (R1.out.kept hb)
          replace R0 := Lib.hid (R0.out.kept hb)
          replace RB := Lib.hid (bnext RB.out hb)
          clear hb
          go_wp2_with fail
          refine (C3 _).out.mono ?_
          rintro e w3 ⟨rfl, hb⟩
          replace R1 := Lib.hid (R1.out.kept hb)
          replace R0 := Lib.hid (R0.out.kept hb)
          replace RB := Lib.hid (bnext RB.out hb)
          clear hb
          go_wp2_with fail
          refine (C4 _).out.mono ?_
          rintro e w4 ⟨rfl, hb⟩
          replace R1 := Lib.hid (R1.out.kept hb)
          replace R0 := Lib.hid (R0.out.kept hb)
          replace RB := Lib.hid (bnext RB.out hb)
          clear hb C1 C2 C3 C4
          cases hF : wdR t k m
          · have HN := Lib.hid (lowR_no hF)
            rw [show tru (env2 k m) t = false from hF]
            clear hF
            go_wp2_with fail
            exact ⟨⟨m + 1, by omega, by go_num, by rw [← HN.out]; exact R1, R0, RB⟩, by simp [intOf]; omega⟩
          · have HN := Lib.hid (lowR_yes hF)
            rw [show tru (env2 k m) t = true from hF]
            clear hF
            have c0 := (R1.out.cell k).trans (lowR_at (T := wdR t) (m := m) hlt)
            have c1 := R1.out.free k
            have RP := R1.out.set k (.int .i64 (nb 27 (fun j => lowR (wdR t) k m k j || j == m)))
            rw [relC_set hlt, HN.out] at RP
            replace RP := Lib.hid RP
            have HO := Lib.hid (s_bit hlm (lowR (wdR t) k m k))
            clear HN
            go_wp2_with fail
            rw [HO.out]
            exact ⟨⟨m + 1, by omega, by go_num, RP, Lib.hid (R0.out.setOther (p := ⟨w.heap.size + 1, k, none⟩) (by show w.heap.size ≠ w.heap.size + 1; omega) _), Lib.hid (RB.out.setCell (p := ⟨w.heap.size + 1, k, none⟩) (by show w.heap.size ≤ w.heap.size + 1; omega) _)⟩, by simp [intOf]; omega⟩
        · have hm2 : m = 27 := by omega
          subst hm2
          have RP := R1.out
          rw [lowR_row] at RP
          replace RP := Lib.hid RP
          go_wp2_with fail
          exact ⟨⟨k + 1, by omega, by go_num, RP, R0, RB⟩, by simp [intOf]; omega⟩
    · have hk2 : k = 27 := by omega
      subst hk2
      have RP := R1.out
      rw [lowR_all] at RP
      replace RP := Lib.hid RP
      go_wp2_with (first
        | (refine wpList_load_row rfl 52 _ rfl (w.heap.size + 1) (by rfl) 52 (relC .i64 (wdR t)) (0, 0) _ RP.out undM rfl (infoM _) ?_)
        | (refine wpList_store_row rfl 52 _ _ rfl w.heap.size (relC .i64 (wdR t)) (by rfl) (by rfl) 52 (relC .i64 noR) R0.out (infoM _) (by first | rw [relC_size, relC_size] | rw [relC_size]) (relC_one _ _) ?_))
      exact bodyPost_ret (v := .agg (relC .i64 (wdR t))) (results_cell_row rfl _ _ w.heap.size 52 _ (0, 0) _ (by rfl) (R0.out.row _) undM rfl (infoM _)) rfl ⟨rfl, Below.setRow RB.out (Nat.le_refl _) _⟩
end Go.Proofs.YtinjmdjnkneidaaGreatDoor
