/-
  EvalExpr, of the program and of the model: the value and true where the text is an expression and the state is valid; zero and false elsewhere.
-/
import Derived.Test.YtpdepihggpfmiaaDoorSpv
namespace Go.Proofs.YtpdepihggpfmiaaDoor
open Go.RowKit Tm

theorem st3_bd {x y z : Int} (h : st3 x y z = true) : (0 ≤ x ∧ x ≤ 2) ∧ (0 ≤ y ∧ y ≤ 2) ∧ (0 ≤ z ∧ z ≤ 2) := by
  unfold st3 at h
  simp only [Bool.and_eq_true] at h
  have a := val3_bd h.1.1; have b := val3_bd h.1.2; have c := val3_bd h.2
  omega
theorem one_bd {x y z : Int} (h : st3 x y z = true) : ∀ i, 0 ≤ one x y z i ∧ one x y z i ≤ 2 := by
  have hb := st3_bd h
  intro i
  unfold one
  split
  · exact hb.1
  · exact hb.2.1
  · exact hb.2.2
  · exact ⟨Int.le_refl _, by decide⟩

set_option maxHeartbeats 1000000 in
theorem specOne (x y z : Int) (w : World) : Calls Tryd.prog 42 #[.agg #[.int .i64 x, .int .i64 y, .int .i64 z]] w fun e w' => e = .returned (envV (one x y z)) ∧ Below w.heap.size w w' := by
  go_enter Tryd.func42, Tryd.ntmps42
  go_wp2_with fail
  exact bodyPost_ret (v := envV (one x y z)) (by simp [results, Tryd.results42, go_sem, envV, one]) rfl ⟨rfl, ((Below.refl _ _).alloc (Nat.le_refl _) _).alloc (by simp) _⟩

set_option maxHeartbeats 2000000 in
theorem specEvalE_yes (s : ByteArray) (x y z : Int) (w : World) {t : Tm} (ht : Ok false false t) (hs : s.data.toList = t.ser) (hl : s.size ≤ 200) (hst : st3 x y z = true) :
    Calls Tryd.prog 18 #[.string s, .agg #[.int .i64 x, .int .i64 y, .int .i64 z]] w fun e w' => e = .returned (.tuple #[.int .i64 (val (one x y z) t), .bool true]) ∧ Below w.heap.size w w' := by
  have HC := fun w => Lib.hid (specExpr_yes s w ⟨t, ht, hs⟩ hl)
  have HV := fun w => Lib.hid (spv_any (one x y z) (one_bd hst) s (by omega) t 0 [] w (ok_wide ht) (by simp [hs]))
  clear hs
  go_enter Tryd.func18, Tryd.ntmps18
  go_wp2_with fail
  have t3 := Box3.new w x y z 27
  have hB := (Below.refl w.heap.size w).alloc (Nat.le_refl _) (.cells #[.int .i64 x, .int .i64 y, .int .i64 z] 27)
  generalize w.alloc (.cells #[.int .i64 x, .int .i64 y, .int .i64 z] 27) = w0 at *
  refine (HC _).out.mono ?_
  rintro e w1 ⟨rfl, n, rfl⟩
  have q0 := t3.1; have q1 := t3.2.1; have q2 := t3.2.2
  clear t3
  go_wp2_with fail
  refine (specStateValid _ _ _ _).mono ?_
  rintro e w3 ⟨rfl, hb⟩
  have n0 := cell_keep hb q0; have n1 := cell_keep hb q1; have n2 := cell_keep hb q2
  have HB3 := Lib.hid ((below_of_drewN hB n).trans (hb.mono hB.size))
  clear hb q0 q1 q2 hB
  go_wp2_with fail
  refine (specOne _ _ _ _).mono ?_
  rintro e w4 ⟨rfl, hb⟩
  have HB4 := Lib.hid (HB3.out.trans (hb.mono HB3.out.size))
  clear hb
  go_wp2_with fail
  refine (HV _).out.mono ?_
  rintro e w5 ⟨rfl, hb⟩
  have HB5 := Lib.hid (HB4.out.trans (hb.mono HB4.out.size))
  clear hb
  go_wp2_with fail
  go_ret2
  exact ⟨rfl, HB5.out⟩

set_option maxHeartbeats 2000000 in
theorem specEvalE_st (s : ByteArray) (x y z : Int) (w : World) {t : Tm} (ht : Ok false false t) (hs : s.data.toList = t.ser) (hl : s.size ≤ 200) (hst : st3 x y z = false) :
    Calls Tryd.prog 18 #[.string s, .agg #[.int .i64 x, .int .i64 y, .int .i64 z]] w fun e w' => e = .returned (.tuple #[.int .i64 0, .bool false]) ∧ Below w.heap.size w w' := by
  have HC := fun w => Lib.hid (specExpr_yes s w ⟨t, ht, hs⟩ hl)
  clear hs
  go_enter Tryd.func18, Tryd.ntmps18
  go_wp2_with fail
  have t3 := Box3.new w x y z 27
  have hB := (Below.refl w.heap.size w).alloc (Nat.le_refl _) (.cells #[.int .i64 x, .int .i64 y, .int .i64 z] 27)
  generalize w.alloc (.cells #[.int .i64 x, .int .i64 y, .int .i64 z] 27) = w0 at *
  refine (HC _).out.mono ?_
  rintro e w1 ⟨rfl, n, rfl⟩
  have q0 := t3.1; have q1 := t3.2.1; have q2 := t3.2.2
  clear t3
  go_wp2_with fail
  refine (specStateValid _ _ _ _).mono ?_
  rintro e w3 ⟨rfl, hb⟩
  have HB3 := Lib.hid ((below_of_drewN hB n).trans (hb.mono hB.size))
  clear hb q0 q1 q2 hB
  go_wp2_with fail
  go_ret2
  exact ⟨rfl, HB3.out⟩

set_option maxHeartbeats 2000000 in
theorem specEvalE_no (s : ByteArray) (x y z : Int) (w : World) (h : ¬ (Valid false false s.data.toList ∧ s.size ≤ 200)) :
    Calls Tryd.prog 18 #[.string s, .agg #[.int .i64 x, .int .i64 y, .int .i64 z]] w fun e w' => e = .returned (.tuple #[.int .i64 0, .bool false]) ∧ Below w.heap.size w w' := by
  have HC := fun w => Lib.hid (specExpr_no s w h)
  clear h
  go_enter Tryd.func18, Tryd.ntmps18
  go_wp2_with fail
  have hB := (Below.refl w.heap.size w).alloc (Nat.le_refl _) (.cells #[.int .i64 x, .int .i64 y, .int .i64 z] 27)
  generalize w.alloc (.cells #[.int .i64 x, .int .i64 y, .int .i64 z] 27) = w0 at *
  refine (HC _).out.mono ?_
  rintro e w1 ⟨rfl, n, rfl⟩
  go_wp2_with fail
  go_ret2
  exact ⟨rfl, below_of_drewN hB n⟩
end Go.Proofs.YtpdepihggpfmiaaDoor
