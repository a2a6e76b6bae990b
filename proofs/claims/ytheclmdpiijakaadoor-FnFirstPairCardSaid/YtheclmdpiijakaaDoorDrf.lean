/-
  The draw of FirstPair; the number of a state with a number; pairs of the text of a relation.
-/
import Derived.Test.YtheclmdpiijakaaDoorDr6
import Derived.Test.YtheclmdpiijakaaDoorTopX
import Derived.Test.YtheclmdpiijakaaDoorFpP
namespace Go.Proofs.YtheclmdpiijakaaDoor
open Go.RowKit Go.Great

set_option maxRecDepth 100000 in
set_option maxHeartbeats 4000000 in
theorem dFirstPair {a : Option Addr} {len cap : Nat} {zs : List Int} {w : World} (h : IsRow w a len cap zs) :
    Calls Tryd.prog 20 #[.slice a len cap] w fun e w' => ∃ t : ByteArray, t.size ≤ 730 ∧ e = .returned (.string t) ∧ Below w.heap.size w w' := by
  have HO := Lib.hid (open_any h)
  clear h
  go_enter Tryd.func20, Tryd.ntmps20
  go_wp2_with fail
  refine HO.out.mono ?_
  rintro e w1 ⟨rfl, hr, hb⟩
  have HW1 := Lib.hid hb
  have C := Lib.hid (pick_any 10 hr (by omega) (by omega) (by omega))
  clear hr hb
  go_wp2_with fail
  refine C.out.mono ?_
  rintro e w2 ⟨k, k0, k1, rfl, hr, hk⟩
  have HW2 := Lib.hid (HW1.out.trans (hk.below (Nat.le_refl _) HW1.out.size))
  have HR := Lib.hid hr
  clear hr hk C
  by_cases e0 : k = 0
  · subst e0
    go_wp2_with (refine wpList_buildTo rfl 62 _ rfl _ rfl (relC .i64 noR) (by kernel_rfl) ?_)
    refine (specRText noR _).mono ?_
    rintro e w3 ⟨rfl, hb⟩
    have HB3 := Lib.hid (bnext HW2.out hb)
    have HZ := Lib.hid (relT_size noR)
    clear hb
    generalize bs (relT noR) = r at *
    go_wp2_with fail
    go_ret
    exact ⟨_, by rw [HZ.out]; omega, rfl, HB3.out⟩
  · have g0 : (k == 0) = false := by rw [beq_eq_false_iff_ne]; exact e0
    clear e0
    have HC := Lib.hid (open6_any HR.out (by omega))
    go_wp2_with fail
    refine HC.out.mono ?_
    rintro e w3 ⟨t, q, t1, t2, hq, rfl, hr, hk⟩
    have HB3 := Lib.hid (HW2.out.trans (hk.below (Nat.le_refl _) HW2.out.size))
    clear hr hk
    go_wp2_with fail
    go_ret
    exact ⟨t, by omega, rfl, HB3.out⟩

theorem ix_of (k : Nat) (hk : k < 27) (w : World) : Calls Tryd.prog 23 #[.agg #[.int .i64 (ax k), .int .i64 (ay k), .int .i64 (az k)]] w fun e w' => e = .returned (.int .i64 (k : Int)) ∧ Below w.heap.size w w' := by
  have h := implIx_yes (ax k) (ay k) (az k) w (at_st3 (i := (k : Int)) (by omega) (by omega))
  rwa [show ax (k : Int) + 3 * ay (k : Int) + 9 * az (k : Int) = (k : Int) by unfold ax ay az; omega] at h
theorem hasr_at (s : ByteArray) (hs : Rel729 s) (i j : Nat) (hi : i < 27) (hj : j < 27) (w : World) : Calls Tryd.prog 14 #[.string s, .agg #[.int .i64 (ax i), .int .i64 (ay i), .int .i64 (az i)], .agg #[.int .i64 (ax j), .int .i64 (ay j), .int .i64 (az j)]] w fun e w' => e = .returned (.bool (relS s.data.toList i j)) ∧ Below w.heap.size w w' := by
  have h := implHasPair s (ax i) (ay i) (az i) (ax j) (ay j) (az j) hs (at_st3 (i := (i : Int)) (by omega) (by omega)) (at_st3 (i := (j : Int)) (by omega) (by omega)) w
  rw [ixs_at hi, ixs_at hj] at h
  exact h
theorem cntX_le (T : Nat → Nat → Bool) (k : Nat) : cntX T 27 k ≤ 27 * k := by
  induction k with
  | zero => exact Nat.le_refl _
  | succ k ih =>
    have := cnt_le 27 (T k)
    show cntX T 27 k + cnt 27 (T k) ≤ _
    omega
end Go.Proofs.YtheclmdpiijakaaDoor
