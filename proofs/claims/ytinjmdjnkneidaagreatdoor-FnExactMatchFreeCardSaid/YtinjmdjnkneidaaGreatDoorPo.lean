/-
  RelOf: the program (pairsOf, over the numbers of pairs) and the model.
-/
import Derived.Test.YtinjmdjnkneidaaGreatDoorTopR1
import Derived.Test.YtinjmdjnkneidaaGreatDoorLo
import Derived.Test.YtinjmdjnkneidaaGreatDoorTopB
import Derived.Test.YtinjmdjnkneidaaGreatDoorWv
import Derived.Test.YtinjmdjnkneidaaGreatDoorPa
import Derived.Deep.RegionHeld3
import Derived.Deep.MidRow
namespace Go.Proofs.YtinjmdjnkneidaaGreatDoor
open Go.RowKit Go.Great Tm

/-- The pairs of a relation whose numbers are below n. -/
def lowN (T : Nat → Nat → Bool) (n : Nat) : Nat → Nat → Bool := fun i j => decide (i + 27 * j < n) && T i j
theorem lowN_zero (T : Nat → Nat → Bool) : relC .u32 (lowN T 0) = relC .u32 noR := relC_congr fun i _ j _ => by simp [lowN, noR]
theorem lowN_all (T : Nat → Nat → Bool) : relC .u32 (lowN T 729) = relC .u32 T := relC_congr fun i hi j hj => by
  have : i + 27 * j < 729 := by omega
  simp [lowN, this]
theorem lowN_no {T : Nat → Nat → Bool} {i j : Nat} (hi : i < 27) (h : T i j = false) : relC .u32 (lowN T (i + 27 * j)) = relC .u32 (lowN T (i + 27 * j + 1)) := relC_congr fun a ha b _ => by
  unfold lowN
  by_cases e : a + 27 * b = i + 27 * j
  · have e1 : a = i := by omega
    have e2 : b = j := by omega
    subst e1 e2
    rw [h]; simp
  · by_cases h1 : a + 27 * b < i + 27 * j
    · rw [decide_eq_true h1, decide_eq_true (show a + 27 * b < i + 27 * j + 1 by omega)]
    · rw [decide_eq_false h1, decide_eq_false (show ¬ a + 27 * b < i + 27 * j + 1 by omega)]
theorem lowN_yes {T : Nat → Nat → Bool} {i j : Nat} (hi : i < 27) (h : T i j = true) : relC .u32 (setR (lowN T (i + 27 * j)) i (fun k => lowN T (i + 27 * j) i k || k == j)) = relC .u32 (lowN T (i + 27 * j + 1)) := relC_congr fun a ha b _ => by
  unfold setR
  by_cases ea : a = i
  · subst ea
    rw [if_pos rfl]
    unfold lowN
    by_cases eb : b = j
    · subst eb
      rw [h, decide_eq_true (show a + 27 * b < a + 27 * b + 1 by omega)]
      simp
    · have hb : (b == j) = false := by rw [beq_eq_false_iff_ne]; exact eb
      rw [hb, Bool.or_false]
      by_cases h1 : a + 27 * b < a + 27 * j
      · rw [decide_eq_true h1, decide_eq_true (show a + 27 * b < a + 27 * j + 1 by omega)]
      · rw [decide_eq_false h1, decide_eq_false (show ¬ a + 27 * b < a + 27 * j + 1 by omega)]
  · rw [if_neg ea]
    unfold lowN
    by_cases h1 : a + 27 * b < i + 27 * j
    · rw [decide_eq_true h1, decide_eq_true (show a + 27 * b < i + 27 * j + 1 by omega)]
    · rw [decide_eq_false h1, decide_eq_false (show ¬ a + 27 * b < i + 27 * j + 1 by omega)]

set_option maxRecDepth 100000 in
set_option maxHeartbeats 4000000 in
theorem rel_with (A : Nat → Nat → Bool) (i j : Nat) (hi : i < 27) (hj : j < 27) (w : World) : Calls Tryz.prog 62 #[.agg (relC .u32 A), .int .i64 (i + 27 * j : Nat)] w (RelPost (setR A i (fun k => A i k || k == j)) w) := by
  obtain ⟨k0, k1, kb, kz⟩ := two_blk w (relC .u32 A) (relC .u32 noR) 46 46
  have c0 := rel_cell k0 hi
  have c1 := k0.free i
  have K0 := Lib.hid k0
  have K1 := Lib.hid k1
  have KB := Lib.hid kb
  have C := fun w => Lib.hid (implWithB (A i) j w hj)
  have h1 : (0 : Int) ≤ (i : Int) := by omega
  have h2 : (i : Int) < 27 := by omega
  obtain ⟨n, hn⟩ : ∃ n : Nat, n = i + 27 * j := ⟨_, rfl⟩
  have hr : ((n : Int)).tmod 27 = (i : Int) := by rw [Int.tmod_eq_emod_of_nonneg (by omega)]; omega
  have hq : ((n : Int)).tdiv 27 = (j : Int) := by rw [Int.tdiv_eq_ediv_of_nonneg (by omega)]; omega
  have hr' : ((n : Int)) % 27 = (i : Int) := by omega
  have hq' : ((n : Int)) / 27 = (j : Int) := by omega
  have hn0 : (0 : Int) ≤ (n : Int) := by omega
  rw [← hn]
  clear k0 k1 kb kz hn
  go_enter Tryz.func62, Tryz.ntmps62
  go_wp2_with (first
    | (refine wpList_boxTo rfl 46 _ rfl (some 2) rfl w.heap.size rfl (relC .u32 A) (by rfl) ?_)
    | (refine r_alloc rfl rfl (some 4) rfl (w.heap.size + 1) (by simp) ?_))
  generalize (w.alloc (.cells (relC .u32 A) 46)).alloc (.cells (relC .u32 noR) 46) = w0 at *
  go_wp2_with fail
  refine (C _).out.mono ?_
  rintro e w2 ⟨rfl, rfl⟩
  have R0 := K0.out.set i (.int .u32 (nb 27 (fun k => A i k || k == j)))
  rw [relC_set hi] at R0
  replace R0 := Lib.hid R0
  have R1 := Lib.hid (K1.out.setOther (p := ⟨w.heap.size, i, none⟩) (by show w.heap.size + 1 ≠ w.heap.size; omega) (.int .u32 (nb 27 (fun k => A i k || k == j))))
  have RB := Lib.hid (KB.out.setCell (p := ⟨w.heap.size, i, none⟩) (Nat.le_refl _) (.int .u32 (nb 27 (fun k => A i k || k == j))))
  go_wp2_with (first
    | (refine wpList_load_row rfl 46 _ rfl w.heap.size (by rfl) 46 (relC .u32 (setR A i (fun k => A i k || k == j))) (0, 0) _ R0.out undR rfl (infoR _) ?_)
    | (refine wpList_store_row rfl 46 _ _ rfl (w.heap.size + 1) (relC .u32 (setR A i (fun k => A i k || k == j))) (by rfl) (by rfl) 46 (relC .u32 noR) R1.out (infoR _) (by rw [relC_size, relC_size]) (relC_one _ _) ?_))
  exact bodyPost_ret (v := .agg (relC .u32 (setR A i (fun k => A i k || k == j)))) (results_cell_row rfl _ _ (w.heap.size + 1) 46 _ (0, 0) _ (by rfl) (R1.out.row _) undR rfl (infoR _)) rfl ⟨rfl, Below.setRow RB.out (by omega) _⟩

theorem holds_two (t : Tm) (ht : Ok true true t) (i j : Nat) (hi : i < 27) (hj : j < 27) (B : Nat) (x y : Value) (w : World) (hr : RepT w B t x y) :
    Calls Tryz.prog 162 #[.agg #[x, y], .agg #[.int .i64 (ax i), .int .i64 (ay i), .int .i64 (az i), .int .i64 (ax j), .int .i64 (ay j), .int .i64 (az j)]] w fun e w' => e = .returned (.bool (wdR t i j)) ∧ Below w.heap.size w w' :=
  holds_any (env2 i j) (env2_bd hi hj) t B x y w ht hr

set_option maxRecDepth 100000 in
set_option maxHeartbeats 8000000 in
theorem pairs_of (t : Tm) (ht : Ok true true t) (B : Nat) (xc : Int) (ya : Option Addr) (yn ym : Nat) (w : World) (hr : RepT w B t (.int .u8 xc) (.slice ya yn ym)) :
    Calls Tryz.prog 126 #[.agg #[.int .u8 xc, .slice ya yn ym]] w (RelPost (wdR t) w) := by
  have HT := fun i j hi hj w' hb => Lib.hid (holds_two t ht i j hi hj B _ _ w' (hr.below hb : RepT w' B t (.int .u8 xc) (.slice ya yn ym)))
  obtain ⟨k0, k1, k2, kb, kz⟩ := three_blk w #[.int .u8 xc, .slice ya yn ym] (relC .u32 noR) (relC .u32 noR) 139 46 46
  have K0 := Lib.hid k0
  have K1 := Lib.hid k1
  have K2 := Lib.hid k2
  have KB := Lib.hid kb
  clear k0 k1 k2 kb kz hr
  go_enter Tryz.func126, Tryz.ntmps126
  go_wp2_with (first
    | (refine r_alloc rfl rfl (some 2) rfl (w.heap.size + 1) (by simp) ?_)
    | (refine r_alloc rfl rfl (some 3) rfl (w.heap.size + 2) (by simp) ?_))
  generalize ((w.alloc (.cells #[.int .u8 xc, .slice ya yn ym] 139)).alloc (.cells (relC .u32 noR) 46)).alloc (.cells (relC .u32 noR) 46) = w0 at *
  rw [← lowN_zero (wdR t)] at K2
  go_loopw [4, 5] (fun _ i wr => ∃ k : Nat, k ≤ 729 ∧ i = .int .i64 k ∧ Hid (Blk wr w.heap.size #[.int .u8 xc, .slice ya yn ym] 139) ∧ Hid (Blk wr (w.heap.size + 1) (relC .u32 noR) 46) ∧ Hid (Blk wr (w.heap.size + 2) (relC .u32 (lowN (wdR t) k)) 46) ∧ Hid (Below w.heap.size w wr)) (fun _ i _ => 729 - (intOf i).toNat)
  case atStart => exact ⟨0, by omega, rfl, K0, K1, K2, KB⟩
  case round =>
    clear K0 K1 K2 KB
    obtain ⟨n, hn, rfl, R0, R1, R2, RB⟩ := hrel
    by_cases hlt : n < 729
    · obtain ⟨i, j, hi, hj, hne⟩ : ∃ i j, i < 27 ∧ j < 27 ∧ n = i + 27 * j := ⟨n % 27, n / 27, by omega, by omega, by omega⟩
      have P1 := fun w => Lib.hid (pair_at i j hi hj w)
      have P2 := HT i j hi hj
      have P3 := fun w => Lib.hid (rel_with (lowN (wdR t) (i + 27 * j)) i j hi hj w)
      have LN := fun h => Lib.hid (lowN_no (T := wdR t) hi (j := j) h)
      have LY := fun h => Lib.hid (lowN_yes (T := wdR t) hi (j := j) h)
      rw [← hne] at P1 P3 LN LY
      have hl : (n : Int) < 729 := by omega
      have q0 := R0.out.cell 0
      have q1 := R0.out.cell 1
      simp at q0 q1
      clear HT hne
      go_wp2_with fail
      have hbb := (Below.refl wr.heap.size wr).drew
      have RG : ∀ w', Below wr.heap.size wr w' → Below wr.heap.size wr w' ∧ w'.cell? ⟨w.heap.size, 0, none⟩ = some (.int .u8 xc) ∧ w'.cell? ⟨w.heap.size, 1, none⟩ = some (.slice ya yn ym) := fun w' h => ⟨h, ckeep h q0, ckeep h q1⟩
      have RG' := Lib.hid RG
      have RH : ∀ w', Below wr.heap.size wr w' → Below w.heap.size w w' := fun w' h => bnext RB.out h
      have RH' := Lib.hid RH
      clear RG RH q0 q1
      go_region_held3 (fun w' => Below wr.heap.size wr w' ∧ w'.cell? ⟨w.heap.size, 0, none⟩ = some (.int .u8 xc) ∧ w'.cell? ⟨w.heap.size, 1, none⟩ = some (.slice ya yn ym))
        ((first
          | assumption
          | exact RG'.out _ (by assumption)
          | (go_split_ands; exact RG'.out _ (by assumption))
          | (go_split_ands; exact RG'.out _ (bnext (by assumption) hq))))
        (first
          | ((with_reducible refine (P1 _).out.mono ?_); rintro e w5 ⟨rfl, hq⟩)
          | ((with_reducible refine (P2 _ (RH'.out _ (by first | assumption | (go_split_ands; assumption)))).out.mono ?_); rintro e w5 ⟨rfl, hq⟩))
      all_goals
        go_split_ands
        rename_i hbw _ _
        replace R0 := Lib.hid (R0.out.kept hbw)
        replace R1 := Lib.hid (R1.out.kept hbw)
        replace R2 := Lib.hid (R2.out.kept hbw)
        replace RB := Lib.hid (bnext RB.out hbw)
        clear RG' RH' hbb hbw P1 P2
        cases hF : wdR t i j
        · have HN := LN hF
          go_wp2_with fail
          exact ⟨⟨n + 1, by omega, by go_num, R0, R1, by rw [← HN.out]; exact R2, RB⟩, by simp [intOf]; omega⟩
        · have HN := LY hF
          go_wp2_with (refine wpList_load_row rfl 46 _ rfl (w.heap.size + 2) (by rfl) 46 (relC .u32 (lowN (wdR t) n)) (0, 0) _ R2.out undR rfl (infoR _) ?_)
          refine (P3 _).out.mono ?_
          rintro e w7 ⟨rfl, hb⟩
          replace R0 := Lib.hid (R0.out.kept hb)
          replace R1 := Lib.hid (R1.out.kept hb)
          replace R2 := Lib.hid (R2.out.kept hb)
          replace RB := Lib.hid (bnext RB.out hb)
          clear hb
          rw [HN.out]
          go_wp2_with (refine wpList_store_row rfl 46 _ _ rfl (w.heap.size + 2) (relC .u32 (lowN (wdR t) (n + 1))) (by rfl) (by rfl) 46 (relC .u32 (lowN (wdR t) n)) R2.out (infoR _) (by rw [relC_size, relC_size]) (relC_one _ _) ?_)
          exact ⟨⟨n + 1, by omega, by go_num, Lib.hid (R0.out.rowOther (by omega) _), Lib.hid (R1.out.rowOther (by omega) _), Lib.hid (R2.out.row _), Lib.hid (Below.setRow RB.out (by omega) _)⟩, by simp [intOf]; omega⟩
    · have hk2 : n = 729 := by omega
      subst hk2
      have R := R2.out
      rw [lowN_all] at R
      replace R2 := Lib.hid R
      clear R
      go_wp2_with (first
        | (refine wpList_load_row rfl 46 _ rfl (w.heap.size + 2) (by rfl) 46 (relC .u32 (wdR t)) (0, 0) _ R2.out undR rfl (infoR _) ?_)
        | (refine wpList_store_row rfl 46 _ _ rfl (w.heap.size + 1) (relC .u32 (wdR t)) (by rfl) (by rfl) 46 (relC .u32 noR) R1.out (infoR _) (by rw [relC_size, relC_size]) (relC_one _ _) ?_))
      exact bodyPost_ret (v := .agg (relC .u32 (wdR t))) (results_cell_row rfl _ _ (w.heap.size + 1) 46 _ (0, 0) _ (by rfl) (R1.out.row _) undR rfl (infoR _)) rfl ⟨rfl, Below.setRow RB.out (by omega) _⟩

set_option maxHeartbeats 2000000 in
theorem specRelOf_yes (s : ByteArray) (w : World) {t : Tm} (ht : Ok true true t) (hs : s.data.toList = t.ser) (hl : s.size ≤ 200) :
    Calls Tryz.prog 114 #[.string s] w fun e w' => e = .returned (.tuple #[.string (bs (relT (wdR t))), .bool true]) ∧ Below w.heap.size w w' := by
  have HC := fun w => Lib.hid (specWide_yes s w ⟨t, ht, hs⟩ hl)
  have HP := fun w => Lib.hid (specOf6 s t w ht hs (by omega))
  have HT := fun w => Lib.hid (specRText (wdR t) w)
  clear hs
  go_enter Tryz.func114, Tryz.ntmps114
  go_wp2_with fail
  refine (HC _).out.mono ?_
  rintro e w1 ⟨rfl, n, rfl⟩
  have HB := Lib.hid (below_of_drewN (Below.refl w.heap.size w) n)
  generalize w.drewN n = w1 at *
  go_wp2_with fail
  refine (HP _).out.mono ?_
  rintro e w3 ⟨rfl, hb⟩
  have HB2 := Lib.hid (bnext HB.out hb)
  clear hb
  go_wp2_with fail
  refine (HT _).out.mono ?_
  rintro e w4 ⟨rfl, hb⟩
  have HB3 := Lib.hid (bnext HB2.out hb)
  clear hb
  go_wp2_with fail
  go_ret2
  exact ⟨rfl, HB3.out⟩

set_option maxHeartbeats 2000000 in
theorem specRelOf_no (s : ByteArray) (w : World) (h : ¬ (Valid true true s.data.toList ∧ s.size ≤ 200)) :
    Calls Tryz.prog 114 #[.string s] w fun e w' => e = .returned (.tuple #[.string ⟨#[]⟩, .bool false]) ∧ Below w.heap.size w w' := by
  have HC := fun w => Lib.hid (specWide_no s w h)
  clear h
  go_enter Tryz.func114, Tryz.ntmps114
  go_wp2_with fail
  refine (HC _).out.mono ?_
  rintro e w1 ⟨rfl, n, rfl⟩
  go_wp2_with fail
  go_ret2
  exact ⟨rfl, below_of_drewN (Below.refl _ _) n⟩
end Go.Proofs.YtinjmdjnkneidaaGreatDoor
