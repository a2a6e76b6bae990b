/-
  Several small texts in one: Wv Po Hq EvW R10.
-/
import Derived.Test.YtheclmdpiijakaaTopT
import Derived.Test.YtheclmdpiijakaaRo
import Derived.Test.YtheclmdpiijakaaLo
import Derived.Test.YtheclmdpiijakaaTopB
import Derived.Deep.RegionHeld3
import Derived.Deep.MidRow
import Derived.Test.YtheclmdpiijakaaRt
import Derived.Test.YtheclmdpiijakaaSetJ
import Derived.Test.YtheclmdpiijakaaTopG
import Derived.Test.YtheclmdpiijakaaR8
namespace Go.Proofs.Ytheclmdpiijakaa
open Go.RowKit Tm

set_option maxHeartbeats 1000000 in
theorem specWide_yes (s : ByteArray) (w : World) (hv : Valid true true s.data.toList) (hs : s.size ≤ 200) : Calls Try.prog 61 #[.string s] w (Quiet (.bool true) w) := by
  obtain ⟨r, hr⟩ := PrefAt.exists true true s.data.toList 0
  have he : r = (s.size : Int) := (valid_iff_at hr).2 hv
  subst he
  have HC := fun w => Lib.hid (test_any true s (by omega) 0 _ w hr)
  clear hr hv
  go_enter Try.func61, Try.ntmps61
  go_wp2_with fail
  refine (HC _).out.mono ?_
  rintro e w' ⟨rfl, n, rfl⟩
  go_wp2_with fail
  go_ret
  exact ⟨rfl, n, rfl⟩

set_option maxHeartbeats 1000000 in
theorem specWide_no (s : ByteArray) (w : World) (hv : ¬ (Valid true true s.data.toList ∧ s.size ≤ 200)) : Calls Try.prog 61 #[.string s] w (Quiet (.bool false) w) := by
  by_cases hs : s.size ≤ 200
  · obtain ⟨r, hr⟩ := PrefAt.exists true true s.data.toList 0
    have he : ¬ r = (s.size : Int) := fun e => hv ⟨(valid_iff_at hr).1 e, hs⟩
    have hne : (r == (s.size : Int)) = false := by rw [beq_eq_false_iff_ne]; exact he
    have HC := fun w => Lib.hid (test_any true s (by omega) 0 _ w hr)
    clear hr hv he
    go_enter Try.func61, Try.ntmps61
    go_wp2_with fail
    refine (HC _).out.mono ?_
    rintro e w' ⟨rfl, n, rfl⟩
    go_wp2_with fail
    go_ret
    exact ⟨rfl, n, rfl⟩
  · go_enter Try.func61, Try.ntmps61
    go_wp2_with fail
    go_ret
    exact ⟨rfl, 0, rfl⟩
end Go.Proofs.Ytheclmdpiijakaa

namespace Go.Proofs.Ytheclmdpiijakaa
open Go.RowKit Go.Great Tm

set_option maxRecDepth 100000 in
set_option maxHeartbeats 4000000 in
theorem pair_at (i j : Nat) (hi : i < 27) (hj : j < 27) (w : World) : Calls Try.prog 102 #[.int .i64 (i + 27 * j : Nat)] w fun e w' => e = .returned (.agg #[.int .i64 (ax i), .int .i64 (ay i), .int .i64 (az i), .int .i64 (ax j), .int .i64 (ay j), .int .i64 (az j)]) ∧ Below w.heap.size w w' := by
  have A1 := fun w => Lib.hid (implAt_yes i w (by omega) (by omega))
  have A2 := fun w => Lib.hid (implAt_yes j w (by omega) (by omega))
  obtain ⟨n, hn⟩ : ∃ n : Nat, n = i + 27 * j := ⟨_, rfl⟩
  have hr : ((n : Int)).tmod 27 = (i : Int) := by rw [Int.tmod_eq_emod_of_nonneg (by omega)]; omega
  have hq : ((n : Int)).tdiv 27 = (j : Int) := by rw [Int.tdiv_eq_ediv_of_nonneg (by omega)]; omega
  have hr' : ((n : Int)) % 27 = (i : Int) := by omega
  have hq' : ((n : Int)) / 27 = (j : Int) := by omega
  have hn0 : (0 : Int) ≤ (n : Int) := by omega
  rw [← hn]
  clear hn
  generalize ax i = a0 at *
  generalize ay i = a1 at *
  generalize az i = a2 at *
  generalize ax j = b0 at *
  generalize ay j = b1 at *
  generalize az j = b2 at *
  go_enter Try.func102, Try.ntmps102
  go_wp2_with fail
  refine (A1 _).out.mono ?_
  rintro e w1 ⟨rfl, hb⟩
  have z0 := (Blk.new w #[.int .i64 0, .int .i64 0, .int .i64 0, .int .i64 0, .int .i64 0, .int .i64 0] 66).kept hb
  have KB := bnext ((Below.refl w.heap.size w).alloc (Nat.le_refl _) (.cells #[.int .i64 0, .int .i64 0, .int .i64 0, .int .i64 0, .int .i64 0, .int .i64 0] 66)) hb
  have b1 := Blk.new w1 #[.int .i64 a0, .int .i64 a1, .int .i64 a2] 32
  replace z0 := z0.alloc (.cells #[.int .i64 a0, .int .i64 a1, .int .i64 a2] 32)
  replace KB := KB.alloc KB.size (.cells #[.int .i64 a0, .int .i64 a1, .int .i64 a2] 32)
  have Z0 := Lib.hid z0
  have B1 := Lib.hid b1
  have HB := Lib.hid KB
  clear hb z0 b1 KB
  go_wp2_with fail
  generalize w1.alloc (.cells #[.int .i64 a0, .int .i64 a1, .int .i64 a2] 32) = w2 at *
  refine (A2 _).out.mono ?_
  rintro e w3 ⟨rfl, hb⟩
  obtain ⟨q0, q1, q2⟩ := ((B1.out.kept hb).alloc (.cells #[.int .i64 b0, .int .i64 b1, .int .i64 b2] 32)).c3
  obtain ⟨q3, q4, q5⟩ := (Blk.new w3 #[.int .i64 b0, .int .i64 b1, .int .i64 b2] 32).c3
  have z0 := (Z0.out.kept hb).alloc (.cells #[.int .i64 b0, .int .i64 b1, .int .i64 b2] 32)
  have zi := z0.cell
  have i0 := zi 0; have i1 := zi 1; have i2 := zi 2; have i3 := zi 3; have i4 := zi 4; have i5 := zi 5
  have f0 := z0.free 0; have f1 := z0.free 1; have f2 := z0.free 2; have f3 := z0.free 3; have f4 := z0.free 4; have f5 := z0.free 5
  have KB := bnext HB.out hb
  have HB2 := Lib.hid (KB.alloc KB.size (.cells #[.int .i64 b0, .int .i64 b1, .int .i64 b2] 32))
  replace Z0 := Lib.hid z0
  clear hb z0 zi KB B1
  go_wp2_with fail
  exact bodyPost_ret (v := .agg #[.int .i64 a0, .int .i64 a1, .int .i64 a2, .int .i64 b0, .int .i64 b1, .int .i64 b2]) (results_cell_row rfl _ _ w.heap.size 66 _ (0, 0) _ (by rfl) ((((((Z0.out.set 0 (.int .i64 a0)).set 1 (.int .i64 a1)).set 2 (.int .i64 a2)).set 3 (.int .i64 b0)).set 4 (.int .i64 b1)).set 5 (.int .i64 b2)) Try.underlying66 rfl (by kernel_rfl)) rfl
    ⟨rfl, (((((HB2.out.setCell (p := ⟨w.heap.size, 0, none⟩) (Nat.le_refl _) _).setCell (p := ⟨w.heap.size, 1, none⟩) (Nat.le_refl _) _).setCell (p := ⟨w.heap.size, 2, none⟩) (Nat.le_refl _) _).setCell (p := ⟨w.heap.size, 3, none⟩) (Nat.le_refl _) _).setCell (p := ⟨w.heap.size, 4, none⟩) (Nat.le_refl _) _).setCell (p := ⟨w.heap.size, 5, none⟩) (Nat.le_refl _) _⟩

/-- The pairs of a relation whose numbers are below n. -/
def lowN (T : Nat → Nat → Bool) (n : Nat) : Nat → Nat → Bool := fun i j => decide (i + 27 * j < n) && T i j
theorem lowN_zero (T : Nat → Nat → Bool) : relC .u32 (lowN T 0) = relC .u32 noR := relC_congr fun i _ j _ => by simp [lowN, noR]
theorem lowN_all (T : Nat → Nat → Bool) : relC .u32 (lowN T 729) = relC .u32 T := relC_congr fun i hi j hj => by
  have : i + 27 * j < 729 := by omega
  simp [lowN, this]
theorem lowN_no {T : Nat → Nat → Bool} {i j : Nat} (hi : i < 27) (h : T i j = false) : relC .u32 (lowN T (i + 27 * j)) = relC .u32 (lowN T (i + 27 * j + 1)) := relC_congr fun a ha b _ => by
  unfold lowN
  by_cases e : a + 27 * b = i + 27 * j
  · have e1 : a = i := by omega
    have e2 : b = j := by omega
    subst e1 e2
    rw [h]; simp
  · by_cases h1 : a + 27 * b < i + 27 * j
    · rw [decide_eq_true h1, decide_eq_true (show a + 27 * b < i + 27 * j + 1 by omega)]
    · rw [decide_eq_false h1, decide_eq_false (show ¬ a + 27 * b < i + 27 * j + 1 by omega)]
theorem lowN_yes {T : Nat → Nat → Bool} {i j : Nat} (hi : i < 27) (h : T i j = true) : relC .u32 (setR (lowN T (i + 27 * j)) i (fun k => lowN T (i + 27 * j) i k || k == j)) = relC .u32 (lowN T (i + 27 * j + 1)) := relC_congr fun a ha b _ => by
  unfold setR
  by_cases ea : a = i
  · subst ea
    rw [if_pos rfl]
    unfold lowN
    by_cases eb : b = j
    · subst eb
      rw [h, decide_eq_true (show a + 27 * b < a + 27 * b + 1 by omega)]
      simp
    · have hb : (b == j) = false := by rw [beq_eq_false_iff_ne]; exact eb
      rw [hb, Bool.or_false]
      by_cases h1 : a + 27 * b < a + 27 * j
      · rw [decide_eq_true h1, decide_eq_true (show a + 27 * b < a + 27 * j + 1 by omega)]
      · rw [decide_eq_false h1, decide_eq_false (show ¬ a + 27 * b < a + 27 * j + 1 by omega)]
  · rw [if_neg ea]
    unfold lowN
    by_cases h1 : a + 27 * b < i + 27 * j
    · rw [decide_eq_true h1, decide_eq_true (show a + 27 * b < i + 27 * j + 1 by omega)]
    · rw [decide_eq_false h1, decide_eq_false (show ¬ a + 27 * b < i + 27 * j + 1 by omega)]

set_option maxRecDepth 100000 in
set_option maxHeartbeats 4000000 in
theorem rel_with (A : Nat → Nat → Bool) (i j : Nat) (hi : i < 27) (hj : j < 27) (w : World) : Calls Try.prog 136 #[.agg (relC .u32 A), .int .i64 (i + 27 * j : Nat)] w (RelPost (setR A i (fun k => A i k || k == j)) w) := by
  obtain ⟨k0, k1, kb, kz⟩ := two_blk w (relC .u32 A) (relC .u32 noR) 50 50
  have c0 := rel_cell k0 hi
  have c1 := k0.free i
  have K0 := Lib.hid k0
  have K1 := Lib.hid k1
  have KB := Lib.hid kb
  have C := fun w => Lib.hid (implWithB (A i) j w hj)
  have h1 : (0 : Int) ≤ (i : Int) := by omega
  have h2 : (i : Int) < 27 := by omega
  obtain ⟨n, hn⟩ : ∃ n : Nat, n = i + 27 * j := ⟨_, rfl⟩
  have hr : ((n : Int)).tmod 27 = (i : Int) := by rw [Int.tmod_eq_emod_of_nonneg (by omega)]; omega
  have hq : ((n : Int)).tdiv 27 = (j : Int) := by rw [Int.tdiv_eq_ediv_of_nonneg (by omega)]; omega
  have hr' : ((n : Int)) % 27 = (i : Int) := by omega
  have hq' : ((n : Int)) / 27 = (j : Int) := by omega
  have hn0 : (0 : Int) ≤ (n : Int) := by omega
  rw [← hn]
  clear k0 k1 kb kz hn
  go_enter Try.func136, Try.ntmps136
  go_wp2_with (first
    | (refine wpList_boxTo rfl 50 _ rfl (some 2) rfl w.heap.size rfl (relC .u32 A) (by rfl) ?_)
    | (refine r_alloc rfl rfl (some 4) rfl (w.heap.size + 1) (by simp) ?_))
  generalize (w.alloc (.cells (relC .u32 A) 50)).alloc (.cells (relC .u32 noR) 50) = w0 at *
  go_wp2_with fail
  refine (C _).out.mono ?_
  rintro e w2 ⟨rfl, rfl⟩
  have R0 := K0.out.set i (.int .u32 (nb 27 (fun k => A i k || k == j)))
  rw [relC_set hi] at R0
  replace R0 := Lib.hid R0
  have R1 := Lib.hid (K1.out.setOther (p := ⟨w.heap.size, i, none⟩) (by show w.heap.size + 1 ≠ w.heap.size; omega) (.int .u32 (nb 27 (fun k => A i k || k == j))))
  have RB := Lib.hid (KB.out.setCell (p := ⟨w.heap.size, i, none⟩) (Nat.le_refl _) (.int .u32 (nb 27 (fun k => A i k || k == j))))
  go_wp2_with (first
    | (refine wpList_load_row rfl 50 _ rfl w.heap.size (by rfl) 50 (relC .u32 (setR A i (fun k => A i k || k == j))) (0, 0) _ R0.out undR rfl (infoR _) ?_)
    | (refine wpList_store_row rfl 50 _ _ rfl (w.heap.size + 1) (relC .u32 (setR A i (fun k => A i k || k == j))) (by rfl) (by rfl) 50 (relC .u32 noR) R1.out (infoR _) (by rw [relC_size, relC_size]) (relC_one _ _) ?_))
  exact bodyPost_ret (v := .agg (relC .u32 (setR A i (fun k => A i k || k == j)))) (results_cell_row rfl _ _ (w.heap.size + 1) 50 _ (0, 0) _ (by rfl) (R1.out.row _) undR rfl (infoR _)) rfl ⟨rfl, Below.setRow RB.out (by omega) _⟩

set_option maxHeartbeats 2000000 in
theorem specRelOf_yes (s : ByteArray) (w : World) {t : Tm} (ht : Ok true true t) (hs : s.data.toList = t.ser) (hl : s.size ≤ 200) :
    Calls Try.prog 38 #[.string s] w fun e w' => e = .returned (.tuple #[.string (bs (relT (wdR t))), .bool true]) ∧ Below w.heap.size w w' := by
  have HC := fun w => Lib.hid (specWide_yes s w ⟨t, ht, hs⟩ hl)
  have HP := fun w => Lib.hid (specOf6 s t w ht hs (by omega))
  have HT := fun w => Lib.hid (specRText (wdR t) w)
  clear hs
  go_enter Try.func38, Try.ntmps38
  go_wp2_with fail
  refine (HC _).out.mono ?_
  rintro e w1 ⟨rfl, n, rfl⟩
  have HB := Lib.hid (below_of_drewN (Below.refl w.heap.size w) n)
  generalize w.drewN n = w1 at *
  go_wp2_with fail
  refine (HP _).out.mono ?_
  rintro e w3 ⟨rfl, hb⟩
  have HB2 := Lib.hid (bnext HB.out hb)
  clear hb
  go_wp2_with fail
  refine (HT _).out.mono ?_
  rintro e w4 ⟨rfl, hb⟩
  have HB3 := Lib.hid (bnext HB2.out hb)
  clear hb
  go_wp2_with fail
  go_ret2
  exact ⟨rfl, HB3.out⟩

set_option maxHeartbeats 2000000 in
theorem specRelOf_no (s : ByteArray) (w : World) (h : ¬ (Valid true true s.data.toList ∧ s.size ≤ 200)) :
    Calls Try.prog 38 #[.string s] w fun e w' => e = .returned (.tuple #[.string ⟨#[]⟩, .bool false]) ∧ Below w.heap.size w w' := by
  have HC := fun w => Lib.hid (specWide_no s w h)
  clear h
  go_enter Try.func38, Try.ntmps38
  go_wp2_with fail
  refine (HC _).out.mono ?_
  rintro e w1 ⟨rfl, n, rfl⟩
  go_wp2_with fail
  go_ret2
  exact ⟨rfl, below_of_drewN (Below.refl _ _) n⟩
end Go.Proofs.Ytheclmdpiijakaa

namespace Go.Proofs.Ytheclmdpiijakaa
open Go.RowKit Go.Great

set_option maxRecDepth 100000 in
set_option maxHeartbeats 4000000 in
theorem pair_num (x y z x' y' z' : Int) (h : st3 x y z = true) (h' : st3 x' y' z' = true) (w : World) : Calls Try.prog 35 #[.agg #[.int .i64 x, .int .i64 y, .int .i64 z, .int .i64 x', .int .i64 y', .int .i64 z']] w fun e w' => e = .returned (.int .i64 ((ixs x y z + 27 * ixs x' y' z' : Nat) : Int)) ∧ Below w.heap.size w w' := by
  have hi := ixs_lt h
  have hi' := ixs_lt h'
  have I := fun w => Lib.hid (implIx_yes x y z w h)
  rw [← hi.2] at I
  have I' := fun w => Lib.hid (implIx_yes x' y' z' w h')
  rw [← hi'.2] at I'
  have l1 := hi.1
  have l2 := hi'.1
  clear hi hi' h h'
  generalize ixs x y z = i at *
  generalize ixs x' y' z' = j at *
  have ew1 : IntKind.i64.wrap (27 * (j : Int)) = 27 * (j : Int) := IntWalk.i64_in _ (by omega)
  have ew2 : IntKind.i64.wrap ((i : Int) + 27 * (j : Int)) = ((i + 27 * j : Nat) : Int) := (IntWalk.i64_in _ (by omega)).trans (by omega)
  obtain ⟨k0, kb, kz⟩ := one_blk w #[.int .i64 x, .int .i64 y, .int .i64 z, .int .i64 x', .int .i64 y', .int .i64 z'] 66
  have K0 := Lib.hid k0
  have KB := Lib.hid kb
  clear k0 kb kz l1 l2
  go_enter Try.func35, Try.ntmps35
  go_wp2_with fail
  generalize w.alloc (.cells #[.int .i64 x, .int .i64 y, .int .i64 z, .int .i64 x', .int .i64 y', .int .i64 z'] 66) = wx at *
  have q0 := K0.out.cell 0
  have q1 := K0.out.cell 1
  have q2 := K0.out.cell 2
  have q3 := K0.out.cell 3
  have q4 := K0.out.cell 4
  have q5 := K0.out.cell 5
  simp at q0 q1 q2 q3 q4 q5
  have hbb := (Below.refl wx.heap.size wx).drew
  have RG : ∀ w', Below wx.heap.size wx w' → Below wx.heap.size wx w' ∧ w'.cell? ⟨w.heap.size, 0, none⟩ = some (.int .i64 x) ∧ w'.cell? ⟨w.heap.size, 1, none⟩ = some (.int .i64 y) ∧ w'.cell? ⟨w.heap.size, 2, none⟩ = some (.int .i64 z) ∧ w'.cell? ⟨w.heap.size, 3, none⟩ = some (.int .i64 x') ∧ w'.cell? ⟨w.heap.size, 4, none⟩ = some (.int .i64 y') ∧ w'.cell? ⟨w.heap.size, 5, none⟩ = some (.int .i64 z') := fun w' h => ⟨h, ckeep h q0, ckeep h q1, ckeep h q2, ckeep h q3, ckeep h q4, ckeep h q5⟩
  have RG' := Lib.hid RG
  clear RG
  go_region_held3 (fun w' => Below wx.heap.size wx w' ∧ w'.cell? ⟨w.heap.size, 0, none⟩ = some (.int .i64 x) ∧ w'.cell? ⟨w.heap.size, 1, none⟩ = some (.int .i64 y) ∧ w'.cell? ⟨w.heap.size, 2, none⟩ = some (.int .i64 z) ∧ w'.cell? ⟨w.heap.size, 3, none⟩ = some (.int .i64 x') ∧ w'.cell? ⟨w.heap.size, 4, none⟩ = some (.int .i64 y') ∧ w'.cell? ⟨w.heap.size, 5, none⟩ = some (.int .i64 z'))
    ((first
      | exact RG'.out _ (by assumption)
      | (go_split_ands; exact RG'.out _ (by assumption))
      | (go_split_ands; exact RG'.out _ (bnext (by assumption) hq))))
    (first
      | (go_at_call 58; (with_reducible refine (I _).out.mono ?_); rintro e w5 ⟨rfl, hq⟩)
      | (go_at_call 58; (with_reducible refine (I' _).out.mono ?_); rintro e w5 ⟨rfl, hq⟩))
  all_goals
    go_split_ands
    have HF := Lib.hid (bnext KB.out (by assumption))
    go_wp2_with fail
    go_ret
    exact ⟨rfl, HF.out⟩

set_option maxRecDepth 100000 in
set_option maxHeartbeats 4000000 in
theorem rel_hasn (A : Nat → Nat → Bool) (i j : Nat) (hi : i < 27) (hj : j < 27) (w : World) : Calls Try.prog 34 #[.agg (relC .u32 A), .int .i64 (i + 27 * j : Nat)] w fun e w' => e = .returned (.bool (A i j)) ∧ Below w.heap.size w w' := by
  obtain ⟨k0, kb, kz⟩ := one_blk w (relC .u32 A) 50
  have c0 := rel_cell k0 hi
  have KB := Lib.hid kb
  have C := fun w => Lib.hid (implHasB (A i) j w hj)
  have h1 : (0 : Int) ≤ (i : Int) := by omega
  have h2 : (i : Int) < 27 := by omega
  obtain ⟨n, hn⟩ : ∃ n : Nat, n = i + 27 * j := ⟨_, rfl⟩
  have hr : ((n : Int)).tmod 27 = (i : Int) := by rw [Int.tmod_eq_emod_of_nonneg (by omega)]; omega
  have hq : ((n : Int)).tdiv 27 = (j : Int) := by rw [Int.tdiv_eq_ediv_of_nonneg (by omega)]; omega
  have hr' : ((n : Int)) % 27 = (i : Int) := by omega
  have hq' : ((n : Int)) / 27 = (j : Int) := by omega
  have hn0 : (0 : Int) ≤ (n : Int) := by omega
  rw [← hn]
  clear k0 kb kz hn
  go_enter Try.func34, Try.ntmps34
  go_wp2_with (refine wpList_boxTo rfl 50 _ rfl (some 2) rfl w.heap.size rfl (relC .u32 A) (by rfl) ?_)
  generalize w.alloc (.cells (relC .u32 A) 50) = w0 at *
  go_wp2_with fail
  refine (C _).out.mono ?_
  rintro e w2 ⟨rfl, rfl⟩
  go_wp2_with fail
  go_ret
  exact ⟨rfl, KB.out⟩

set_option maxRecDepth 100000 in
set_option maxHeartbeats 8000000 in
theorem implHasPair (s : ByteArray) (x y z x' y' z' : Int) (hs : Rel729 s) (h : st3 x y z = true) (h' : st3 x' y' z' = true) (w : World) : Calls Try.prog 12 #[.string s, .agg #[.int .i64 x, .int .i64 y, .int .i64 z], .agg #[.int .i64 x', .int .i64 y', .int .i64 z']] w (BoolIs (relS s.data.toList (ixs x y z) (ixs x' y' z')) w) := by
  have C1 := Lib.hid (readRel_yes s hs)
  have V := fun w => Lib.hid (implStateValid x y z w)
  rw [h] at V
  have V' := fun w => Lib.hid (implStateValid x' y' z' w)
  rw [h'] at V'
  have hi := ixs_lt h
  have hi' := ixs_lt h'
  have PN := fun w => Lib.hid (pair_num x y z x' y' z' h h' w)
  have HH := fun w => rel_hasn (relS s.data.toList) _ _ hi.1 hi'.1 w
  have HH2 : ∀ w, Calls Try.prog 34 #[.agg (relC .u32 (relS s.data.toList)).toList.toArray, .int .i64 (ixs x y z + 27 * ixs x' y' z' : Nat)] w fun e w' => e = .returned (.bool (relS s.data.toList (ixs x y z) (ixs x' y' z'))) ∧ Below w.heap.size w w' := fun w => by rw [Array.toArray_toList]; exact HH w
  replace HH := fun w => Lib.hid (HH w)
  replace HH2 := fun w => Lib.hid (HH2 w)
  clear hi hi' hs h h'
  generalize hb0 : relS s.data.toList (ixs x y z) (ixs x' y' z') = b at *
  generalize ixs x y z + 27 * ixs x' y' z' = n at *
  clear hb0
  obtain ⟨b1, b2, bb, bz⟩ := two_blk w #[.int .i64 x, .int .i64 y, .int .i64 z] #[.int .i64 x', .int .i64 y', .int .i64 z'] 32 32
  have B1 := Lib.hid b1
  have B2 := Lib.hid b2
  have KB := Lib.hid bb
  have BZ := Lib.hid bz
  clear b1 b2 bb bz
  go_enter Try.func12, Try.ntmps12
  go_wp2_with fail
  generalize (w.alloc (.cells #[.int .i64 x, .int .i64 y, .int .i64 z] 32)).alloc (.cells #[.int .i64 x', .int .i64 y', .int .i64 z'] 32) = w0 at *
  refine (C1.out _).mono ?_
  rintro e w1 ⟨rfl, hb⟩
  replace KB := Lib.hid (bnext KB.out hb)
  obtain ⟨p0, pb⟩ := push_blk w1 (relC .u32 noR) (relC .u32 (relS s.data.toList)) 50
  have P0 := Lib.hid p0
  replace B1 := Lib.hid ((B1.out.kept hb).kept pb)
  replace B2 := Lib.hid ((B2.out.kept hb).kept pb)
  replace KB := Lib.hid (bnext KB.out pb)
  have L0 := Lib.hid (one_blk w1 (relC .u32 noR) 50).1
  clear p0 pb hb
  go_wp2_with (first
    | (refine r_alloc rfl rfl (some 7) rfl w1.heap.size rfl ?_)
    | (refine wpList_store_row rfl 50 _ _ rfl w1.heap.size (relC .u32 (relS s.data.toList)) (by rfl) (by rfl) 50 (relC .u32 noR) L0.out (infoR _) (by first | rw [relC_size, relC_size] | rw [relC_size]) (relC_one _ _) ?_))
  clear L0
  generalize hwx : (w1.alloc (.cells (relC .u32 noR) 50)).setRow w1.heap.size (relC .u32 (relS s.data.toList)) = wx at *
  clear hwx
  obtain ⟨g, hg⟩ : ∃ g, w1.heap.size = g := ⟨_, rfl⟩
  rw [hg] at P0 ⊢
  clear hg
  obtain ⟨q0, q1, q2⟩ := B1.out.c3
  obtain ⟨q3, q4, q5⟩ := B2.out.c3
  have qr : wx.rangeAt g 0 (relC .u32 (relS s.data.toList)).toList := fun j v hv => by
    rw [Nat.zero_add, P0.out.cell j]
    simpa using hv
  have hu := undR
  have hinf : (Try.prog.info? 50).map (·.size) = some (relC .u32 (relS s.data.toList)).toList.length := by rw [Array.length_toList]; exact infoR _
  have hbb := (Below.refl wx.heap.size wx).drew
  have RG : ∀ w', Below wx.heap.size wx w' → Below wx.heap.size wx w' ∧ w'.cell? ⟨w.heap.size, 0, none⟩ = some (.int .i64 x) ∧ w'.cell? ⟨w.heap.size, 1, none⟩ = some (.int .i64 y) ∧ w'.cell? ⟨w.heap.size, 2, none⟩ = some (.int .i64 z) ∧ w'.cell? ⟨w.heap.size + 1, 0, none⟩ = some (.int .i64 x') ∧ w'.cell? ⟨w.heap.size + 1, 1, none⟩ = some (.int .i64 y') ∧ w'.cell? ⟨w.heap.size + 1, 2, none⟩ = some (.int .i64 z') ∧ w'.rangeAt g 0 (relC .u32 (relS s.data.toList)).toList := fun w' h => ⟨h, ckeep h q0, ckeep h q1, ckeep h q2, ckeep h q3, ckeep h q4, ckeep h q5, fun j v hv => ckeep h (qr j v hv)⟩
  have RG' := Lib.hid RG
  clear RG q0 q1 q2 q3 q4 q5 qr
  go_region_held3 (fun w' => Below wx.heap.size wx w' ∧ w'.cell? ⟨w.heap.size, 0, none⟩ = some (.int .i64 x) ∧ w'.cell? ⟨w.heap.size, 1, none⟩ = some (.int .i64 y) ∧ w'.cell? ⟨w.heap.size, 2, none⟩ = some (.int .i64 z) ∧ w'.cell? ⟨w.heap.size + 1, 0, none⟩ = some (.int .i64 x') ∧ w'.cell? ⟨w.heap.size + 1, 1, none⟩ = some (.int .i64 y') ∧ w'.cell? ⟨w.heap.size + 1, 2, none⟩ = some (.int .i64 z') ∧ w'.rangeAt g 0 (relC .u32 (relS s.data.toList)).toList)
    ((first
      | exact RG'.out _ (by assumption)
      | (go_split_ands; exact RG'.out _ (bnext (by assumption) hq))))
    (first
      | (go_at_call 33; (with_reducible refine (V _).out.mono ?_); rintro e w5 ⟨rfl, hq⟩)
      | (go_at_call 33; (with_reducible refine (V' _).out.mono ?_); rintro e w5 ⟨rfl, hq⟩)
      | (go_at_call 35; (with_reducible refine (PN _).out.mono ?_); rintro e w5 ⟨rfl, hq⟩)
      | (go_at_call 34; (with_reducible refine (HH _).out.mono ?_); rintro e w5 ⟨rfl, hq⟩)
      | (go_at_call 34; (with_reducible refine (HH2 _).out.mono ?_); rintro e w5 ⟨rfl, hq⟩))
  all_goals
    go_split_ands
    have HF := Lib.hid (bnext KB.out (by assumption))
    go_wp2_with fail
    go_ret
    exact ⟨rfl, HF.out⟩
end Go.Proofs.Ytheclmdpiijakaa

namespace Go.Proofs.Ytheclmdpiijakaa
open Go.RowKit Tm

/-- The values of the variables of two states. -/
def two3 (x y z X Y Z : Int) : Nat → Int
  | 0 => x
  | 1 => y
  | 2 => z
  | 3 => X
  | 4 => Y
  | 5 => Z
  | _ => 0
theorem two3_bd {x y z X Y Z : Int} (h : st3 x y z = true) (k : st3 X Y Z = true) : ∀ i, 0 ≤ two3 x y z X Y Z i ∧ two3 x y z X Y Z i ≤ 2 := by
  have a := st3_bd h; have b := st3_bd k
  intro i
  unfold two3
  split
  · exact a.1
  · exact a.2.1
  · exact a.2.2
  · exact b.1
  · exact b.2.1
  · exact b.2.2
  · exact ⟨Int.le_refl _, by decide⟩

theorem drewN_below (w : World) (n : Nat) : Below w.heap.size w (w.drewN n) := below_of_drewN (Below.refl _ _) n
set_option maxHeartbeats 2000000 in
theorem specEnvW (x y z X Y Z : Int) (w : World) : Calls Try.prog 80 #[.agg #[.int .i64 x, .int .i64 y, .int .i64 z], .agg #[.int .i64 X, .int .i64 Y, .int .i64 Z]] w fun e w' => e = .returned (envV (two3 x y z X Y Z)) ∧ Below w.heap.size w w' := by
  go_enter Try.func80, Try.ntmps80
  go_wp2_with fail
  exact bodyPost_ret (v := envV (two3 x y z X Y Z)) (by simp [results, Try.results80, go_sem, envV, two3]) rfl ⟨rfl, (((Below.refl _ _).alloc (Nat.le_refl _) _).alloc (by simp) _).alloc (by simp; omega) _⟩

end Go.Proofs.Ytheclmdpiijakaa

namespace Go.Proofs.Ytheclmdpiijakaa
open Go.RowKit Go.Great Tm

/-- The test that two states are equal. -/
def sameT : Tm := .bin 38 (.bin 61 (.leaf 120) (.leaf 88)) (.bin 38 (.bin 61 (.leaf 121) (.leaf 89)) (.bin 61 (.leaf 122) (.leaf 90)))
theorem sameT_ok : Ok true true sameT := ⟨true, true, rfl, ⟨false, false, rfl, rfl, rfl⟩, ⟨true, true, rfl, ⟨false, false, rfl, rfl, rfl⟩, ⟨false, false, rfl, rfl, rfl⟩⟩⟩
theorem wd_same : ∀ i, i < 27 → ∀ j, j < 27 → wdR sameT i j = idR i j := by decide +kernel
theorem comp_turn (R Q : Nat → Nat → Bool) : bs (relT (turnR (compR R Q))) = bs (relT (compR (turnR Q) (turnR R))) := rb_congr fun i _ j _ => by
  show compR R Q j i = _
  rw [Bool.eq_iff_iff, compR_iff, compR_iff]
  exact ⟨fun ⟨q, hq, h1, h2⟩ => ⟨q, hq, h2, h1⟩, fun ⟨q, hq, h1, h2⟩ => ⟨q, hq, h2, h1⟩⟩
theorem comp_idr (R : Nat → Nat → Bool) : bs (relT (compR R idR)) = bs (relT R) := rb_congr fun i _ j hj => by
  rw [Bool.eq_iff_iff, compR_iff]
  constructor
  · rintro ⟨q, _, h1, h2⟩
    rw [← eq_of_beq h2]; exact h1
  · intro h
    exact ⟨j, hj, h, by simp [idR]⟩
theorem comp_idl (R : Nat → Nat → Bool) : bs (relT (compR idR R)) = bs (relT R) := rb_congr fun i hi j _ => by
  rw [Bool.eq_iff_iff, compR_iff]
  constructor
  · rintro ⟨q, _, h1, h2⟩
    rw [eq_of_beq h1]; exact h2
  · intro h
    exact ⟨i, hi, by simp [idR], h⟩

/-- The pairs of the first k rows and m columns. -/
def cntX (T : Nat → Nat → Bool) (m : Nat) : Nat → Nat
  | 0 => 0
  | k + 1 => cntX T m k + cnt m (T k)
theorem cntX_R (T : Nat → Nat → Bool) (k : Nat) : cntR T k = cntX T 27 k := by
  induction k with
  | zero => rfl
  | succ k ih =>
    unfold cntR cntX
    rw [ih]
theorem cntX_none (T : Nat → Nat → Bool) (k : Nat) : cntX T 0 k = 0 := by
  induction k with
  | zero => rfl
  | succ k ih =>
    unfold cntX
    rw [ih]; rfl
theorem cntX_col (T : Nat → Nat → Bool) (m k : Nat) : cntX T (m + 1) k = cntX T m k + cnt k (fun i => T i m) := by
  induction k with
  | zero => rfl
  | succ k ih =>
    show cntX T (m + 1) k + cnt (m + 1) (T k) = cntX T m k + cnt m (T k) + cnt (k + 1) (fun i => T i m)
    have e1 : cnt (m + 1) (T k) = cnt m (T k) + (if T k m then 1 else 0) := rfl
    have e2 : cnt (k + 1) (fun i => T i m) = cnt k (fun i => T i m) + (if T k m then 1 else 0) := rfl
    rw [ih, e1, e2]
    omega
theorem cntX_turn (T : Nat → Nat → Bool) (m k : Nat) : cntX T m k = cntX (turnR T) k m := by
  induction m with
  | zero => rw [cntX_none]; rfl
  | succ m ih =>
    rw [cntX_col, ih]
    rfl
theorem cntR_turn (T : Nat → Nat → Bool) : cntR (turnR T) 27 = cntR T 27 := by
  rw [cntX_R, cntX_R, ← cntX_turn]

/-- The pairs that are joined by at most n steps. -/
def stp (T : Nat → Nat → Bool) : Nat → Nat → Nat → Bool
  | 0 => idR
  | n + 1 => fun i j => idR i j || compR (stp T n) T i j
theorem stp_iff {T : Nat → Nat → Bool} {n i j : Nat} : stp T (n + 1) i j = true ↔ i = j ∨ ∃ q, q < 27 ∧ stp T n i q = true ∧ T q j = true := by
  show (idR i j || compR (stp T n) T i j) = true ↔ _
  rw [Bool.or_eq_true_iff, compR_iff]
  unfold idR
  rw [beq_iff_eq]
theorem stp_self (T : Nat → Nat → Bool) (n i : Nat) : stp T n i i = true := by
  cases n with
  | zero => simp [stp, idR]
  | succ n => exact stp_iff.2 (.inl rfl)
theorem stp_sub {T : Nat → Nat → Bool} {n i j : Nat} (hj : j < 27) (h : stp T n i j = true) : Cl T i j := by
  induction n generalizing j with
  | zero => rw [← eq_of_beq (show (i == j) = true from h)]; exact .refl _
  | succ n ih =>
    rcases stp_iff.1 h with rfl | ⟨q, hq, h1, h2⟩
    · exact .refl _
    · exact cl_snoc (ih hq h1) hj h2
theorem stp_mono {T : Nat → Nat → Bool} {n i j : Nat} (h : stp T n i j = true) : stp T (n + 1) i j = true := by
  induction n generalizing j with
  | zero => exact stp_iff.2 (.inl (eq_of_beq (show (i == j) = true from h)))
  | succ n ih =>
    rcases stp_iff.1 h with rfl | ⟨q, hq, h1, h2⟩
    · exact stp_self T _ _
    · exact stp_iff.2 (.inr ⟨q, hq, ih h1, h2⟩)
theorem stp_still {T : Nat → Nat → Bool} {n i : Nat} (h : ∀ j, j < 27 → stp T (n + 1) i j = true → stp T n i j = true) : ∀ j, j < 27 → stp T (n + 1 + 1) i j = true → stp T (n + 1) i j = true := by
  intro j _ hs
  rcases stp_iff.1 hs with rfl | ⟨q, hq, h1, h2⟩
  · exact stp_self T _ _
  · exact stp_iff.2 (.inr ⟨q, hq, h q hq h1, h2⟩)
theorem cnt_up {m : Nat} {F G : Nat → Bool} (h : ∀ j, j < m → F j = true → G j = true) : cnt m F ≤ cnt m G := by
  induction m with
  | zero => exact Nat.le_refl _
  | succ m ih =>
    have h1 := ih fun j hj => h j (by omega)
    have h2 := h m (by omega)
    unfold cnt
    cases hF : F m
    · simp; omega
    · rw [h2 hF]; simp; omega
theorem cnt_grow {m : Nat} {F G : Nat → Bool} (h : ∀ j, j < m → F j = true → G j = true) (k : Nat) (hk : k < m) (hf : F k = false) (hg : G k = true) : cnt m F < cnt m G := by
  induction m with
  | zero => omega
  | succ m ih =>
    unfold cnt
    by_cases e : k = m
    · subst e
      have h1 := cnt_up (m := k) (F := F) (G := G) fun j hj => h j (by omega)
      rw [hf, hg]; simp; omega
    · have h1 := ih (fun j hj => h j (by omega)) (by omega)
      have h2 := h m (by omega)
      cases hF : F m
      · simp; omega
      · rw [h2 hF]; simp; omega
theorem stp_grows (T : Nat → Nat → Bool) {i : Nat} (hi : i < 27) (n : Nat) : n + 1 ≤ cnt 27 (stp T n i) ∨ ∀ j, j < 27 → stp T (n + 1) i j = true → stp T n i j = true := by
  induction n with
  | zero =>
    left
    refine Decidable.byContradiction fun hn => ?_
    have := (cnt_nil (n := 27) (F := stp T 0 i)).1 (by omega) i hi
    rw [stp_self] at this; cases this
  | succ n ih =>
    rcases ih with h | h
    · by_cases hc : ∀ j, j < 27 → stp T (n + 1) i j = true → stp T n i j = true
      · exact .inr (stp_still hc)
      · left
        obtain ⟨j, hj⟩ := Classical.not_forall.1 hc
        obtain ⟨h1, hj⟩ := Classical.not_forall.1 hj
        obtain ⟨h2, h3⟩ := Classical.not_forall.1 hj
        have := cnt_grow (m := 27) (F := stp T n i) (G := stp T (n + 1) i) (fun _ _ => stp_mono) j h1 (by simpa using h3) h2
        omega
    · exact .inr (stp_still h)
theorem stp_clo (R : Nat → Nat → Bool) : bs (relT (stp R 27)) = bs (relT (cloR R)) := rb_congr fun i hi j hj => by
  rw [Bool.eq_iff_iff, cloR_iff]
  refine ⟨stp_sub hj, fun hc => ?_⟩
  have hs : ∀ j, j < 27 → stp R 28 i j = true → stp R 27 i j = true := by
    rcases stp_grows R hi 27 with h | h
    · have := cnt_le 27 (stp R 27 i)
      omega
    · exact h
  have : ∀ a b, Cl R a b → b < 27 → stp R 27 i a = true → a < 27 → stp R 27 i b = true := by
    intro a b hab
    induction hab with
    | refl a => exact fun _ h _ => h
    | head h0 h1 hr ih =>
      rename_i x y z
      intro hz hx hx27
      exact ih hz (hs y h0 (stp_iff.2 (.inr ⟨x, hx27, hx, h1⟩))) h0
  exact this i j hc hj (stp_self R 27 i) hi
theorem in_clo (R : Nat → Nat → Bool) : inR R (cloR R) = true := inR_iff.2 fun _ _ _ hj h => cloR_iff.2 (cl_one hj h)
theorem id_clo (R : Nat → Nat → Bool) : inR idR (cloR R) = true := inR_iff.2 fun i _ j _ h => by
  rw [← eq_of_beq (show (i == j) = true from h)]; exact cloR_iff.2 (.refl _)
theorem clo_comp (R : Nat → Nat → Bool) : bs (relT (compR (cloR R) (cloR R))) = bs (relT (cloR R)) := rb_congr fun i hi j _ => by
  rw [Bool.eq_iff_iff, compR_iff]
  exact ⟨fun ⟨_, _, h1, h2⟩ => cloR_iff.2 ((cloR_iff.1 h1).trans (cloR_iff.1 h2)), fun h => ⟨i, hi, cloR_iff.2 (.refl _), h⟩⟩
theorem clo_clo (R : Nat → Nat → Bool) : bs (relT (cloR (cloR R))) = bs (relT (cloR R)) := (rb_congr (relEq_iff.1 (clo_idem R))).symm

/-! ### Pairs by the numbers of states -/
theorem ixs_at {k : Nat} (hk : k < 27) : ixs (ax k) (ay k) (az k) = k := by
  unfold ixs ax ay az; omega
theorem hasp_at (T : Nat → Nat → Bool) (i j : Nat) (hi : i < 27) (hj : j < 27) (w : World) : Calls Try.prog 12 #[.string (bs (relT T)), .agg #[.int .i64 (ax i), .int .i64 (ay i), .int .i64 (az i)], .agg #[.int .i64 (ax j), .int .i64 (ay j), .int .i64 (az j)]] w fun e w' => e = .returned (.bool (T i j)) ∧ Below w.heap.size w w' := by
  have h := implHasPair (bs (relT T)) (ax i) (ay i) (az i) (ax j) (ay j) (az j) (rel729_bs T) (at_st3 (i := (i : Int)) (by omega) (by omega)) (at_st3 (i := (j : Int)) (by omega) (by omega)) w
  rw [ixs_at hi, ixs_at hj, relS_bs T hi hj] at h
  exact h
theorem two_env2 (i j : Nat) : two3 (ax i) (ay i) (az i) (ax j) (ay j) (az j) = env2 i j := by
  funext k
  match k with
  | 0 => rfl
  | 1 => rfl
  | 2 => rfl
  | 3 => rfl
  | 4 => rfl
  | 5 => rfl
  | n + 6 => rfl
theorem wd_not (t : Tm) : wdR (.un 33 t) = fun i j => !wdR t i j := by
  funext i j
  simp [wdR, tru]
end Go.Proofs.Ytheclmdpiijakaa
