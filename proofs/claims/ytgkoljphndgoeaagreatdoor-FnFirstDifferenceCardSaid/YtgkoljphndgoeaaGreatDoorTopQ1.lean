import Derived.Test.YtgkoljphndgoeaaGreatDoorTopR1
import Derived.Test.YtgkoljphndgoeaaGreatDoorTopG
import Derived.Test.YtgkoljphndgoeaaGreatDoorTopW1
import Derived.Deep.RegionHeld3
import Derived.Deep.MidRow
import Derived.Test.YtgkoljphndgoeaaGreatDoorTopT
import Derived.Test.YtgkoljphndgoeaaGreatDoorTopU
import Derived.Test.YtgkoljphndgoeaaGreatDoorTopB
namespace Go.Proofs.YtgkoljphndgoeaaGreatDoor
open Go.RowKit Go.Great
set_option maxRecDepth 100000 in
set_option maxHeartbeats 4000000 in
theorem rel_hasn (A : Nat → Nat → Bool) (i j : Nat) (hi : i < 27) (hj : j < 27) (w : World) : Calls Tryz.prog 200 #[.agg (relC .u32 A), .int .i64 (i + 27 * j : Nat)] w fun e w' => e = .returned (.bool (A i j)) ∧ Below w.heap.size w w' := by
 obtain ⟨k0, kb, kz⟩ := one_blk w (relC .u32 A) 68
 have c0 := rel_cell k0 hi
 have KB := Lib.hid kb
 have C := fun w => Lib.hid (implHasB (A i) j w hj)
 have h1 : (0 : Int) ≤ (i : Int) := by omega
 have h2 : (i : Int) < 27 := by omega
 obtain ⟨n, hn⟩ : ∃ n : Nat, n = i + 27 * j := ⟨_, rfl⟩
 have hr : ((n : Int)).tmod 27 = (i : Int) := by rw [Int.tmod_eq_emod_of_nonneg (by omega)]; omega
 have hq : ((n : Int)).tdiv 27 = (j : Int) := by rw [Int.tdiv_eq_ediv_of_nonneg (by omega)]; omega
 have hr' : ((n : Int)) % 27 = (i : Int) := by omega
 have hq' : ((n : Int)) / 27 = (j : Int) := by omega
 have hn0 : (0 : Int) ≤ (n : Int) := by omega
 rw [← hn]
 clear k0 kb kz hn
 go_enter Tryz.func200, Tryz.ntmps200
 go_wp2_with (refine wpList_boxTo rfl 68 _ rfl (some 2) rfl w.heap.size rfl (relC .u32 A) (by rfl) ?_)
 generalize w.alloc (.cells (relC .u32 A) 68) = w0 at *
 go_wp2_with fail
 refine (C _).out.mono ?_
 rintro e w2 ⟨rfl, rfl⟩
 go_wp2_with fail
 go_ret
 exact ⟨rfl, KB.out⟩
def lowR (T : Nat → Nat → Bool) (k m : Nat) : Nat → Nat → Bool := fun i j => if i < k then T i j else if i = k then decide (j < m) && T i j else false
theorem lowR_zero (T : Nat → Nat → Bool) : relC .i64 (lowR T 0 0) = relC .i64 noR := relC_congr fun i _ j _ => by simp [lowR, noR]
theorem lowR_all (T : Nat → Nat → Bool) : relC .i64 (lowR T 27 0) = relC .i64 T := relC_congr fun i hi j _ => by simp [lowR, hi]
theorem lowR_row (T : Nat → Nat → Bool) (k : Nat) : relC .i64 (lowR T k 27) = relC .i64 (lowR T (k + 1) 0) := relC_congr fun i _ j hj => by
 unfold lowR
 by_cases h1 : i < k
 ·rw [if_pos h1, if_pos (by omega)]
 ·rw [if_neg h1]
  by_cases h2 : i = k
  ·rw [if_pos h2, if_pos (by omega)]; simp [hj]
  ·rw [if_neg h2, if_neg (by omega)]; simp
theorem lowR_no {T : Nat → Nat → Bool} {k m : Nat} (h : T k m = false) : relC .i64 (lowR T k m) = relC .i64 (lowR T k (m + 1)) := relC_congr fun i _ j _ => by
 unfold lowR
 by_cases h1 : i < k
 ·rw [if_pos h1, if_pos h1]
 ·rw [if_neg h1, if_neg h1]
  by_cases h2 : i = k
  ·subst h2
   rw [if_pos rfl, if_pos rfl]
   by_cases e : j = m
   ·subst e; simp [h]
   ·have : decide (j < m) = decide (j < m + 1) := by rw [Bool.eq_iff_iff, decide_eq_true_eq, decide_eq_true_eq]; omega
    rw [this]
  ·rw [if_neg h2, if_neg h2]
theorem lowR_yes {T : Nat → Nat → Bool} {k m : Nat} (h : T k m = true) : relC .i64 (setR (lowR T k m) k (fun j => lowR T k m k j || j == m)) = relC .i64 (lowR T k (m + 1)) := relC_congr fun i _ j _ => by
 unfold setR lowR
 by_cases h2 : i = k
 ·subst h2
  by_cases e : j = m
  ·subst e; simp [h]
  ·have : decide (j < m) = decide (j < m + 1) := by rw [Bool.eq_iff_iff, decide_eq_true_eq, decide_eq_true_eq]; omega
   have e2 : (j == m) = false := by simpa using e
   simp [this, e2]
 ·rw [if_neg h2]
  by_cases h1 : i < k
  ·rw [if_pos h1, if_pos h1]
  ·rw [if_neg h1, if_neg h2, if_neg h1, if_neg h2]
theorem lowR_at {T : Nat → Nat → Bool} {k m : Nat} (hk : k < 27) : (relC .i64 (lowR T k m))[k]? = some (.int .i64 (nb 27 (lowR T k m k))) := relC_get _ _ hk
set_option maxHeartbeats 2000000 in
theorem specEnv2 (i j : Nat) (w : World) : Calls Tryz.prog 241 #[.agg #[.int .i64 (ax i), .int .i64 (ay i), .int .i64 (az i)], .agg #[.int .i64 (ax j), .int .i64 (ay j), .int .i64 (az j)]] w fun e w' => e = .returned (envV (env2 i j)) ∧ Below w.heap.size w w' := by
 go_enter Tryz.func241, Tryz.ntmps241
 go_wp2_with fail
 exact bodyPost_ret (v := envV (env2 i j)) (by simp [results, Tryz.results241, go_sem, envV, env2, env, one]) rfl ⟨rfl, (((Below.refl _ _).alloc (Nat.le_refl _) _).alloc (by simp) _).alloc (by simp; omega) _⟩
set_option maxRecDepth 100000 in
set_option maxHeartbeats 4000000 in
theorem specOf6 (s : ByteArray) (t : Tm) (w : World) (ht0 : Ok true true t) (hs : s.data.toList = t.ser) (hl0 : s.size ≤ 1000000) : Calls Tryz.prog 193 #[.string s] w (MPost (wdR t) w) := by
 obtain ⟨k0, k1, kb, kz⟩ := two_blk w (relC .i64 noR) (relC .i64 noR) 83 83
 have L1 := Lib.hid k1
 have K0 := Lib.hid (k0.rowOther (g := w.heap.size + 1) (by omega) (relC .i64 noR))
 have K1 := Lib.hid (k1.row (relC .i64 noR))
 have KB := Lib.hid (Below.setRow kb (g := w.heap.size + 1) (by omega) (relC .i64 noR))
 have H := fun k m (hk : k < 27) (hm : m < 27) w => Lib.hid (sph_any (env2 k m) (env2_bd hk hm) s hl0 t 0 [] w ht0 (by rw [List.drop_zero, List.append_nil]; exact hs))
 clear k0 k1 kb kz hs
 go_enter Tryz.func193, Tryz.ntmps193
 go_wp2_with (first
  | (refine m_alloc rfl rfl (some 2) rfl w.heap.size rfl ?_)
  | (refine m_alloc rfl rfl (some 3) rfl (w.heap.size + 1) (by simp) ?_)
  | (refine wpList_buildTo rfl 83 _ rfl _ rfl (relC .i64 noR) (by kernel_rfl) ?_)
  | (refine wpList_store_row rfl 83 _ _ rfl (w.heap.size + 1) (relC .i64 noR) (by rfl) (by rfl) 83 (relC .i64 noR) L1.out (infoM _) (by first | rw [relC_size, relC_size] | rw [relC_size]) (relC_one _ _) ?_))
 clear L1
 generalize ((w.alloc (.cells (relC .i64 noR) 83)).alloc (.cells (relC .i64 noR) 83)).setRow (w.heap.size + 1) (relC .i64 noR) = w0 at *
 go_loopw [4, 5, 6, 7] (fun i _ _ _ wr => ∃ k : Nat, k ≤ 27 ∧ i = .int .i64 k ∧ Hid (Blk wr (w.heap.size + 1) (relC .i64 (lowR (wdR t) k 0)) 83) ∧ Hid (Blk wr w.heap.size (relC .i64 noR) 83) ∧ Hid (Below w.heap.size w wr)) (fun i _ _ _ _ => 27 - (intOf i).toNat)
 case atStart => exact ⟨0, by omega, rfl, by rw [lowR_zero]; exact K1, K0, KB⟩
 case round =>
  clear K0 K1 KB
  obtain ⟨k, hk, rfl, R1, R0, RB⟩ := hrel
  by_cases hlt : k < 27
  ·go_wp2_with fail
   simp only [show decide ((k : Int) < 27) = true from decide_eq_true (by omega)]
   obtain ⟨wo, rfl⟩ : ∃ wo : World, wo = wr := ⟨_, rfl⟩
   go_loopw [5, 6, 7] (fun i _ _ wr => ∃ m : Nat, m ≤ 27 ∧ i = .int .i64 m ∧ Hid (Blk wr (w.heap.size + 1) (relC .i64 (lowR (wdR t) k m)) 83) ∧ Hid (Blk wr w.heap.size (relC .i64 noR) 83) ∧ Hid (Below w.heap.size w wr)) (fun i _ _ _ => 27 - (intOf i).toNat)
   case atStart => exact ⟨0, by omega, rfl, R1, R0, RB⟩
   case round =>
    clear R1 R0 RB
    obtain ⟨m, hm, rfl, R1, R0, RB⟩ := hrel
    by_cases hlm : m < 27
    ·have C1 := fun w => Lib.hid (specAt0 k w (by omega) (by omega))
     have C2 := fun w => Lib.hid (specAt0 m w (by omega) (by omega))
     have C3 := fun w => Lib.hid (specEnv2 k m w)
     have C4 := H k m hlt hlm
     go_wp2_with fail
     refine (C1 _).out.mono ?_
     rintro e w1 ⟨rfl, hb⟩
     replace R1 := Lib.hid (R1.out.kept hb)
     replace R0 := Lib.hid (R0.out.kept hb)
     replace RB := Lib.hid (bnext RB.out hb)
     clear hb
     go_wp2_with fail
     refine (C2 _).out.mono ?_
     rintro e w2 ⟨rfl, hb⟩
     replace R1 := Lib.hid (R1.out.kept hb)
     replace R0 := Lib.hid (R0.out.kept hb)
     replace RB := Lib.hid (bnext RB.out hb)
     clear hb
     go_wp2_with fail
     refine (C3 _).out.mono ?_
     rintro e w3 ⟨rfl, hb⟩
     replace R1 := Lib.hid (R1.out.kept hb)
     replace R0 := Lib.hid (R0.out.kept hb)
     replace RB := Lib.hid (bnext RB.out hb)
     clear hb
     go_wp2_with fail
     refine (C4 _).out.mono ?_
     rintro e w4 ⟨rfl, hb⟩
     replace R1 := Lib.hid (R1.out.kept hb)
     replace R0 := Lib.hid (R0.out.kept hb)
     replace RB := Lib.hid (bnext RB.out hb)
     clear hb C1 C2 C3 C4
     cases hF : wdR t k m
     ·have HN := Lib.hid (lowR_no hF)
      rw [show tru (env2 k m) t = false from hF]
      clear hF
      go_wp2_with fail
      exact ⟨⟨m + 1, by omega, by go_num, by rw [← HN.out]; exact R1, R0, RB⟩, by simp [intOf]; omega⟩
     ·have HN := Lib.hid (lowR_yes hF)
      rw [show tru (env2 k m) t = true from hF]
      clear hF
      have c0 := (R1.out.cell k).trans (lowR_at (T := wdR t) (m := m) hlt)
      have c1 := R1.out.free k
      have RP := R1.out.set k (.int .i64 (nb 27 (fun j => lowR (wdR t) k m k j || j == m)))
      rw [relC_set hlt, HN.out] at RP
      replace RP := Lib.hid RP
      have HO := Lib.hid (s_bit hlm (lowR (wdR t) k m k))
      clear HN
      go_wp2_with fail
      rw [HO.out]
      exact ⟨⟨m + 1, by omega, by go_num, RP, Lib.hid (R0.out.setOther (p := ⟨w.heap.size + 1, k, none⟩) (by show w.heap.size ≠ w.heap.size + 1; omega) _), Lib.hid (RB.out.setCell (p := ⟨w.heap.size + 1, k, none⟩) (by show w.heap.size ≤ w.heap.size + 1; omega) _)⟩, by simp [intOf]; omega⟩
    ·have hm2 : m = 27 := by omega
     subst hm2
     have RP := R1.out
     rw [lowR_row] at RP
     replace RP := Lib.hid RP
     go_wp2_with fail
     exact ⟨⟨k + 1, by omega, by go_num, RP, R0, RB⟩, by simp [intOf]; omega⟩
  ·have hk2 : k = 27 := by omega
   subst hk2
   have RP := R1.out
   rw [lowR_all] at RP
   replace RP := Lib.hid RP
   go_wp2_with (first
    | (refine wpList_load_row rfl 83 _ rfl (w.heap.size + 1) (by rfl) 83 (relC .i64 (wdR t)) (0, 0) _ RP.out undM rfl (infoM _) ?_)
    | (refine wpList_store_row rfl 83 _ _ rfl w.heap.size (relC .i64 (wdR t)) (by rfl) (by rfl) 83 (relC .i64 noR) R0.out (infoM _) (by first | rw [relC_size, relC_size] | rw [relC_size]) (relC_one _ _) ?_))
   exact bodyPost_ret (v := .agg (relC .i64 (wdR t))) (results_cell_row rfl _ _ w.heap.size 83 _ (0, 0) _ (by rfl) (R0.out.row _) undM rfl (infoM _)) rfl ⟨rfl, Below.setRow RB.out (Nat.le_refl _) _⟩
end Go.Proofs.YtgkoljphndgoeaaGreatDoor
namespace Go.Proofs.YtgkoljphndgoeaaGreatDoor
open Go.RowKit Tm
set_option maxHeartbeats 1000000 in
theorem specWide_yes (s : ByteArray) (w : World) (hv : Valid true true s.data.toList) (hs : s.size ≤ 200) : Calls Tryz.prog 192 #[.string s] w (Quiet (.bool true) w) := by
 obtain ⟨r, hr⟩ := PrefAt.exists true true s.data.toList 0
 have he : r = (s.size : Int) := (valid_iff_at hr).2 hv
 subst he
 have HC := fun w => Lib.hid (test_any true s (by omega) 0 _ w hr)
 clear hr hv
 go_enter Tryz.func192, Tryz.ntmps192
 go_wp2_with fail
 refine (HC _).out.mono ?_
 rintro e w' ⟨rfl, n, rfl⟩
 go_wp2_with fail
 go_ret
 exact ⟨rfl, n, rfl⟩
end Go.Proofs.YtgkoljphndgoeaaGreatDoor
namespace Go.Proofs.YtgkoljphndgoeaaGreatDoor
open Go.RowKit Go.Great Tm
def lowN (T : Nat → Nat → Bool) (n : Nat) : Nat → Nat → Bool := fun i j => decide (i + 27 * j < n) && T i j
theorem lowN_zero (T : Nat → Nat → Bool) : relC .u32 (lowN T 0) = relC .u32 noR := relC_congr fun i _ j _ => by simp [lowN, noR]
theorem lowN_all (T : Nat → Nat → Bool) : relC .u32 (lowN T 729) = relC .u32 T := relC_congr fun i hi j hj => by
 have : i + 27 * j < 729 := by omega
 simp [lowN, this]
theorem lowN_no {T : Nat → Nat → Bool} {i j : Nat} (hi : i < 27) (h : T i j = false) : relC .u32 (lowN T (i + 27 * j)) = relC .u32 (lowN T (i + 27 * j + 1)) := relC_congr fun a ha b _ => by
 unfold lowN
 by_cases e : a + 27 * b = i + 27 * j
 ·have e1 : a = i := by omega
  have e2 : b = j := by omega
  subst e1 e2
  rw [h]; simp
 ·by_cases h1 : a + 27 * b < i + 27 * j
  ·rw [decide_eq_true h1, decide_eq_true (show a + 27 * b < i + 27 * j + 1 by omega)]
  ·rw [decide_eq_false h1, decide_eq_false (show ¬ a + 27 * b < i + 27 * j + 1 by omega)]
theorem lowN_yes {T : Nat → Nat → Bool} {i j : Nat} (hi : i < 27) (h : T i j = true) : relC .u32 (setR (lowN T (i + 27 * j)) i (fun k => lowN T (i + 27 * j) i k || k == j)) = relC .u32 (lowN T (i + 27 * j + 1)) := relC_congr fun a ha b _ => by
 unfold setR
 by_cases ea : a = i
 ·subst ea
  rw [if_pos rfl]
  unfold lowN
  by_cases eb : b = j
  ·subst eb
   rw [h, decide_eq_true (show a + 27 * b < a + 27 * b + 1 by omega)]
   simp
  ·have hb : (b == j) = false := by rw [beq_eq_false_iff_ne]; exact eb
   rw [hb, Bool.or_false]
   by_cases h1 : a + 27 * b < a + 27 * j
   ·rw [decide_eq_true h1, decide_eq_true (show a + 27 * b < a + 27 * j + 1 by omega)]
   ·rw [decide_eq_false h1, decide_eq_false (show ¬ a + 27 * b < a + 27 * j + 1 by omega)]
 ·rw [if_neg ea]
  unfold lowN
  by_cases h1 : a + 27 * b < i + 27 * j
  ·rw [decide_eq_true h1, decide_eq_true (show a + 27 * b < i + 27 * j + 1 by omega)]
  ·rw [decide_eq_false h1, decide_eq_false (show ¬ a + 27 * b < i + 27 * j + 1 by omega)]
set_option maxRecDepth 100000 in
set_option maxHeartbeats 4000000 in
theorem rel_with (A : Nat → Nat → Bool) (i j : Nat) (hi : i < 27) (hj : j < 27) (w : World) : Calls Tryz.prog 222 #[.agg (relC .u32 A), .int .i64 (i + 27 * j : Nat)] w (RelPost (setR A i (fun k => A i k || k == j)) w) := by
 obtain ⟨k0, k1, kb, kz⟩ := two_blk w (relC .u32 A) (relC .u32 noR) 68 68
 have c0 := rel_cell k0 hi
 have c1 := k0.free i
 have K0 := Lib.hid k0
 have K1 := Lib.hid k1
 have KB := Lib.hid kb
 have C := fun w => Lib.hid (implWithB (A i) j w hj)
 have h1 : (0 : Int) ≤ (i : Int) := by omega
 have h2 : (i : Int) < 27 := by omega
 obtain ⟨n, hn⟩ : ∃ n : Nat, n = i + 27 * j := ⟨_, rfl⟩
 have hr : ((n : Int)).tmod 27 = (i : Int) := by rw [Int.tmod_eq_emod_of_nonneg (by omega)]; omega
 have hq : ((n : Int)).tdiv 27 = (j : Int) := by rw [Int.tdiv_eq_ediv_of_nonneg (by omega)]; omega
 have hr' : ((n : Int)) % 27 = (i : Int) := by omega
 have hq' : ((n : Int)) / 27 = (j : Int) := by omega
 have hn0 : (0 : Int) ≤ (n : Int) := by omega
 rw [← hn]
 clear k0 k1 kb kz hn
 go_enter Tryz.func222, Tryz.ntmps222
 go_wp2_with (first
  | (refine wpList_boxTo rfl 68 _ rfl (some 2) rfl w.heap.size rfl (relC .u32 A) (by rfl) ?_)
  | (refine r_alloc rfl rfl (some 4) rfl (w.heap.size + 1) (by simp) ?_))
 generalize (w.alloc (.cells (relC .u32 A) 68)).alloc (.cells (relC .u32 noR) 68) = w0 at *
 go_wp2_with fail
 refine (C _).out.mono ?_
 rintro e w2 ⟨rfl, rfl⟩
 have R0 := K0.out.set i (.int .u32 (nb 27 (fun k => A i k || k == j)))
 rw [relC_set hi] at R0
 replace R0 := Lib.hid R0
 have R1 := Lib.hid (K1.out.setOther (p := ⟨w.heap.size, i, none⟩) (by show w.heap.size + 1 ≠ w.heap.size; omega) (.int .u32 (nb 27 (fun k => A i k || k == j))))
 have RB := Lib.hid (KB.out.setCell (p := ⟨w.heap.size, i, none⟩) (Nat.le_refl _) (.int .u32 (nb 27 (fun k => A i k || k == j))))
 go_wp2_with (first
  | (refine wpList_load_row rfl 68 _ rfl w.heap.size (by rfl) 68 (relC .u32 (setR A i (fun k => A i k || k == j))) (0, 0) _ R0.out undR rfl (infoR _) ?_)
  | (refine wpList_store_row rfl 68 _ _ rfl (w.heap.size + 1) (relC .u32 (setR A i (fun k => A i k || k == j))) (by rfl) (by rfl) 68 (relC .u32 noR) R1.out (infoR _) (by rw [relC_size, relC_size]) (relC_one _ _) ?_))
 exact bodyPost_ret (v := .agg (relC .u32 (setR A i (fun k => A i k || k == j)))) (results_cell_row rfl _ _ (w.heap.size + 1) 68 _ (0, 0) _ (by rfl) (R1.out.row _) undR rfl (infoR _)) rfl ⟨rfl, Below.setRow RB.out (by omega) _⟩
theorem holds_two (t : Tm) (ht : Ok true true t) (i j : Nat) (hi : i < 27) (hj : j < 27) (B : Nat) (x y : Value) (w : World) (hr : RepT w B t x y) :
  Calls Tryz.prog 220 #[.agg #[x, y], .agg #[.int .i64 (ax i), .int .i64 (ay i), .int .i64 (az i), .int .i64 (ax j), .int .i64 (ay j), .int .i64 (az j)]] w fun e w' => e = .returned (.bool (wdR t i j)) ∧ Below w.heap.size w w' :=
 holds_any (env2 i j) (env2_bd hi hj) t B x y w ht hr
set_option maxRecDepth 100000 in
set_option maxHeartbeats 8000000 in
theorem pairs_of (t : Tm) (ht : Ok true true t) (B : Nat) (xc : Int) (ya : Option Addr) (yn ym : Nat) (w : World) (hr : RepT w B t (.int .u8 xc) (.slice ya yn ym)) :
  Calls Tryz.prog 167 #[.agg #[.int .u8 xc, .slice ya yn ym]] w (RelPost (wdR t) w) := by
 have HT := fun i j hi hj w' hb => Lib.hid (holds_two t ht i j hi hj B _ _ w' (hr.below hb : RepT w' B t (.int .u8 xc) (.slice ya yn ym)))
 obtain ⟨k0, k1, k2, kb, kz⟩ := three_blk w #[.int .u8 xc, .slice ya yn ym] (relC .u32 noR) (relC .u32 noR) 110 68 68
 have K0 := Lib.hid k0
 have K1 := Lib.hid k1
 have K2 := Lib.hid k2
 have KB := Lib.hid kb
 clear k0 k1 k2 kb kz hr
 go_enter Tryz.func167, Tryz.ntmps167
 go_wp2_with (first
  | (refine r_alloc rfl rfl (some 2) rfl (w.heap.size + 1) (by simp) ?_)
  | (refine r_alloc rfl rfl (some 3) rfl (w.heap.size + 2) (by simp) ?_))
 generalize ((w.alloc (.cells #[.int .u8 xc, .slice ya yn ym] 110)).alloc (.cells (relC .u32 noR) 68)).alloc (.cells (relC .u32 noR) 68) = w0 at *
 rw [← lowN_zero (wdR t)] at K2
 go_loopw [4, 5] (fun _ i wr => ∃ k : Nat, k ≤ 729 ∧ i = .int .i64 k ∧ Hid (Blk wr w.heap.size #[.int .u8 xc, .slice ya yn ym] 110) ∧ Hid (Blk wr (w.heap.size + 1) (relC .u32 noR) 68) ∧ Hid (Blk wr (w.heap.size + 2) (relC .u32 (lowN (wdR t) k)) 68) ∧ Hid (Below w.heap.size w wr)) (fun _ i _ => 729 - (intOf i).toNat)
 case atStart => exact ⟨0, by omega, rfl, K0, K1, K2, KB⟩
 case round =>
  clear K0 K1 K2 KB
  obtain ⟨n, hn, rfl, R0, R1, R2, RB⟩ := hrel
  by_cases hlt : n < 729
  ·obtain ⟨i, j, hi, hj, hne⟩ : ∃ i j, i < 27 ∧ j < 27 ∧ n = i + 27 * j := ⟨n % 27, n / 27, by omega, by omega, by omega⟩
   have P1 := fun w => Lib.hid (pair_at i j hi hj w)
   have P2 := HT i j hi hj
   have P3 := fun w => Lib.hid (rel_with (lowN (wdR t) (i + 27 * j)) i j hi hj w)
   have LN := fun h => Lib.hid (lowN_no (T := wdR t) hi (j := j) h)
   have LY := fun h => Lib.hid (lowN_yes (T := wdR t) hi (j := j) h)
   rw [← hne] at P1 P3 LN LY
   have hl : (n : Int) < 729 := by omega
   have q0 := R0.out.cell 0
   have q1 := R0.out.cell 1
   simp at q0 q1
   clear HT hne
   go_wp2_with fail
   have hbb := (Below.refl wr.heap.size wr).drew
   have RG : ∀ w', Below wr.heap.size wr w' → Below wr.heap.size wr w' ∧ w'.cell? ⟨w.heap.size, 0, none⟩ = some (.int .u8 xc) ∧ w'.cell? ⟨w.heap.size, 1, none⟩ = some (.slice ya yn ym) := fun w' h => ⟨h, ckeep h q0, ckeep h q1⟩
   have RG' := Lib.hid RG
   have RH : ∀ w', Below wr.heap.size wr w' → Below w.heap.size w w' := fun w' h => bnext RB.out h
   have RH' := Lib.hid RH
   clear RG RH q0 q1
   go_region_held3 (fun w' => Below wr.heap.size wr w' ∧ w'.cell? ⟨w.heap.size, 0, none⟩ = some (.int .u8 xc) ∧ w'.cell? ⟨w.heap.size, 1, none⟩ = some (.slice ya yn ym))
    ((first
     | assumption
     | exact RG'.out _ (by assumption)
     | (go_split_ands; exact RG'.out _ (by assumption))
     | (go_split_ands; exact RG'.out _ (bnext (by assumption) hq))))
    (first
     | ((with_reducible refine (P1 _).out.mono ?_); rintro e w5 ⟨rfl, hq⟩)
     | ((with_reducible refine (P2 _ (RH'.out _ (by first | assumption | (go_split_ands; assumption)))).out.mono ?_); rintro e w5 ⟨rfl, hq⟩))
   all_goals
    go_split_ands
    rename_i hbw _ _
    replace R0 := Lib.hid (R0.out.kept hbw)
    replace R1 := Lib.hid (R1.out.kept hbw)
    replace R2 := Lib.hid (R2.out.kept hbw)
    replace RB := Lib.hid (bnext RB.out hbw)
    clear RG' RH' hbb hbw P1 P2
    cases hF : wdR t i j
    ·have HN := LN hF
     go_wp2_with fail
     exact ⟨⟨n + 1, by omega, by go_num, R0, R1, by rw [← HN.out]; exact R2, RB⟩, by simp [intOf]; omega⟩
    ·have HN := LY hF
     go_wp2_with (refine wpList_load_row rfl 68 _ rfl (w.heap.size + 2) (by rfl) 68 (relC .u32 (lowN (wdR t) n)) (0, 0) _ R2.out undR rfl (infoR _) ?_)
     refine (P3 _).out.mono ?_
     rintro e w7 ⟨rfl, hb⟩
     replace R0 := Lib.hid (R0.out.kept hb)
     replace R1 := Lib.hid (R1.out.kept hb)
     replace R2 := Lib.hid (R2.out.kept hb)
     replace RB := Lib.hid (bnext RB.out hb)
     clear hb
     rw [HN.out]
     go_wp2_with (refine wpList_store_row rfl 68 _ _ rfl (w.heap.size + 2) (relC .u32 (lowN (wdR t) (n + 1))) (by rfl) (by rfl) 68 (relC .u32 (lowN (wdR t) n)) R2.out (infoR _) (by rw [relC_size, relC_size]) (relC_one _ _) ?_)
     exact ⟨⟨n + 1, by omega, by go_num, Lib.hid (R0.out.rowOther (by omega) _), Lib.hid (R1.out.rowOther (by omega) _), Lib.hid (R2.out.row _), Lib.hid (Below.setRow RB.out (by omega) _)⟩, by simp [intOf]; omega⟩
  ·have hk2 : n = 729 := by omega
   subst hk2
   have R := R2.out
   rw [lowN_all] at R
   replace R2 := Lib.hid R
   clear R
   go_wp2_with (first
    | (refine wpList_load_row rfl 68 _ rfl (w.heap.size + 2) (by rfl) 68 (relC .u32 (wdR t)) (0, 0) _ R2.out undR rfl (infoR _) ?_)
    | (refine wpList_store_row rfl 68 _ _ rfl (w.heap.size + 1) (relC .u32 (wdR t)) (by rfl) (by rfl) 68 (relC .u32 noR) R1.out (infoR _) (by rw [relC_size, relC_size]) (relC_one _ _) ?_))
   exact bodyPost_ret (v := .agg (relC .u32 (wdR t))) (results_cell_row rfl _ _ (w.heap.size + 1) 68 _ (0, 0) _ (by rfl) (R1.out.row _) undR rfl (infoR _)) rfl ⟨rfl, Below.setRow RB.out (by omega) _⟩
set_option maxRecDepth 100000 in
set_option maxHeartbeats 4000000 in
theorem implRelOf_yes (s : ByteArray) (w : World) {t : Tm} (ht : Ok true true t) (hs : s.data.toList = t.ser) (hl : s.size ≤ 200) :
  Calls Tryz.prog 89 #[.string s] w fun e w' => e = .returned (.tuple #[.string (bs (relT (wdR t))), .bool true]) ∧ Below w.heap.size w w' := by
 have HC := fun w => Lib.hid (readw_yes true s w ht hs hl)
 simp only [wcode, if_true] at HC
 have HP := Lib.hid (pairs_of t ht)
 have HT := fun w => Lib.hid (rel_text (wdR t) w)
 clear hs
 go_enter Tryz.func89, Tryz.ntmps89
 go_wp2_with fail
 refine (HC _).out.mono ?_
 rintro e w1 ⟨xc, ya, yn, ym, rfl, hr, hb⟩
 have hb1 : Below w1.heap.size w1 (w1.alloc (.cells #[.int .u8 xc, .slice ya yn ym] 110)) := (Below.refl _ _).alloc (Nat.le_refl _) _
 have HR := Lib.hid (hr.below hb1)
 have HB := Lib.hid (bnext hb hb1)
 clear hr hb hb1
 go_wp2_with fail
 generalize w1.alloc (.cells #[.int .u8 xc, .slice ya yn ym] 110) = w2 at *
 refine (HP.out _ _ _ _ _ w2 HR.out).mono ?_
 rintro e w3 ⟨rfl, hb⟩
 have HB2 := Lib.hid (bnext HB.out hb)
 clear hb
 go_wp2_with fail
 refine (HT _).out.mono ?_
 rintro e w4 ⟨rfl, hb⟩
 have HB3 := Lib.hid (bnext HB2.out hb)
 clear hb
 go_wp2_with fail
 go_ret2
 exact ⟨rfl, HB3.out⟩
set_option maxHeartbeats 2000000 in
theorem specRelOf_yes (s : ByteArray) (w : World) {t : Tm} (ht : Ok true true t) (hs : s.data.toList = t.ser) (hl : s.size ≤ 200) :
  Calls Tryz.prog 137 #[.string s] w fun e w' => e = .returned (.tuple #[.string (bs (relT (wdR t))), .bool true]) ∧ Below w.heap.size w w' := by
 have HC := fun w => Lib.hid (specWide_yes s w ⟨t, ht, hs⟩ hl)
 have HP := fun w => Lib.hid (specOf6 s t w ht hs (by omega))
 have HT := fun w => Lib.hid (specRText (wdR t) w)
 clear hs
 go_enter Tryz.func137, Tryz.ntmps137
 go_wp2_with fail
 refine (HC _).out.mono ?_
 rintro e w1 ⟨rfl, n, rfl⟩
 have HB := Lib.hid (below_of_drewN (Below.refl w.heap.size w) n)
 generalize w.drewN n = w1 at *
 go_wp2_with fail
 refine (HP _).out.mono ?_
 rintro e w3 ⟨rfl, hb⟩
 have HB2 := Lib.hid (bnext HB.out hb)
 clear hb
 go_wp2_with fail
 refine (HT _).out.mono ?_
 rintro e w4 ⟨rfl, hb⟩
 have HB3 := Lib.hid (bnext HB2.out hb)
 clear hb
 go_wp2_with fail
 go_ret2
 exact ⟨rfl, HB3.out⟩
end Go.Proofs.YtgkoljphndgoeaaGreatDoor
