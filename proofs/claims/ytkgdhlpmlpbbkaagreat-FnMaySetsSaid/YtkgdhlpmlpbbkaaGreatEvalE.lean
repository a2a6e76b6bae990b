/-
  EvalExpr, of the program and of the model: the value and true where the text is an expression and the state is valid; zero and false elsewhere.
-/
import Derived.Test.YtkgdhlpmlpbbkaaGreatSpv
namespace Go.Proofs.YtkgdhlpmlpbbkaaGreat
open Go.RowKit Tm

theorem st3_bd {x y z : Int} (h : st3 x y z = true) : (0 ≤ x ∧ x ≤ 2) ∧ (0 ≤ y ∧ y ≤ 2) ∧ (0 ≤ z ∧ z ≤ 2) := by
  unfold st3 at h
  simp only [Bool.and_eq_true] at h
  have a := val3_bd h.1.1; have b := val3_bd h.1.2; have c := val3_bd h.2
  omega
theorem one_bd {x y z : Int} (h : st3 x y z = true) : ∀ i, 0 ≤ one x y z i ∧ one x y z i ≤ 2 := by
  have hb := st3_bd h
  intro i
  unfold one
  split
  · exact hb.1
  · exact hb.2.1
  · exact hb.2.2
  · exact ⟨Int.le_refl _, by decide⟩

set_option maxHeartbeats 2000000 in
theorem implEvalE_yes (s : ByteArray) (x y z : Int) (w : World) {t : Tm} (ht : Ok false false t) (hs : s.data.toList = t.ser) (hl : s.size ≤ 200) (hst : st3 x y z = true) :
    Calls Tryz.prog 124 #[.string s, .agg #[.int .i64 x, .int .i64 y, .int .i64 z]] w fun e w' => e = .returned (.tuple #[.int .i64 (val (one x y z) t), .bool true]) ∧ Below w.heap.size w w' := by
  have HC := fun w => Lib.hid (read_yes false s w ht hs hl)
  obtain ⟨bx, by_, bz⟩ := st3_bd hst
  have HV := Lib.hid (value_any x y z bx by_ bz t)
  clear hs bx by_ bz
  go_enter Tryz.func124, Tryz.ntmps124
  go_wp2_with fail
  have t3 := Box3.new w x y z 33
  have hB := (Below.refl w.heap.size w).alloc (Nat.le_refl _) (.cells #[.int .i64 x, .int .i64 y, .int .i64 z] 33)
  generalize w.alloc (.cells #[.int .i64 x, .int .i64 y, .int .i64 z] 33) = w0 at *
  refine (HC _).out.mono ?_
  rintro e w1 ⟨xc, ya, yn, ym, rfl, hr, hb⟩
  have q0 := cell_keep hb t3.1; have q1 := cell_keep hb t3.2.1; have q2 := cell_keep hb t3.2.2
  have HB := Lib.hid (hB.trans (hb.mono hB.size))
  have HR := Lib.hid hr
  have hz0 := cell_lt q0
  clear t3 hB hb hr
  go_wp2_with fail
  have hB1 := HB.out.alloc HB.out.size (.cells #[.int .u8 xc, .slice ya yn ym] 90)
  have m0 : (w1.alloc (.cells #[.int .u8 xc, .slice ya yn ym] 90)).cell? ⟨w1.heap.size, 0, none⟩ = some (.int .u8 xc) := by simp [go_sem]
  have m1 : (w1.alloc (.cells #[.int .u8 xc, .slice ya yn ym] 90)).cell? ⟨w1.heap.size, 1, none⟩ = some (.slice ya yn ym) := by simp [go_sem]
  have hb1 : Below w1.heap.size w1 (w1.alloc (.cells #[.int .u8 xc, .slice ya yn ym] 90)) := (Below.refl _ _).alloc (Nat.le_refl _) _
  have p0 := cell_keep hb1 q0; have p1 := cell_keep hb1 q1; have p2 := cell_keep hb1 q2
  have HR1 := Lib.hid (HR.out.below hb1)
  clear hb1 q0 q1 q2
  generalize w1.alloc (.cells #[.int .u8 xc, .slice ya yn ym] 90) = w2 at *
  refine (implStateValid _ _ _ _).mono ?_
  rintro e w3 ⟨rfl, hb⟩
  have q0 := cell_keep hb p0; have q1 := cell_keep hb p1; have q2 := cell_keep hb p2
  have n0 := cell_keep hb m0; have n1 := cell_keep hb m1
  have HB3 := Lib.hid (hB1.trans (hb.mono hB1.size))
  have HR3 := Lib.hid (HR1.out.below hb)
  clear hb p0 p1 p2 m0 m1 hB1
  go_wp2_with fail
  refine (HV.out _ _ _ _ ht HR3.out).mono ?_
  rintro e w4 ⟨rfl, hb⟩
  have HB4 := Lib.hid (HB3.out.trans (hb.mono HB3.out.size))
  clear hb
  go_wp2_with fail
  go_ret2
  exact ⟨rfl, HB4.out⟩

set_option maxHeartbeats 2000000 in
theorem implEvalE_st (s : ByteArray) (x y z : Int) (w : World) {t : Tm} (ht : Ok false false t) (hs : s.data.toList = t.ser) (hl : s.size ≤ 200) (hst : st3 x y z = false) :
    Calls Tryz.prog 124 #[.string s, .agg #[.int .i64 x, .int .i64 y, .int .i64 z]] w fun e w' => e = .returned (.tuple #[.int .i64 0, .bool false]) ∧ Below w.heap.size w w' := by
  have HC := fun w => Lib.hid (read_yes false s w ht hs hl)
  clear hs
  go_enter Tryz.func124, Tryz.ntmps124
  go_wp2_with fail
  have t3 := Box3.new w x y z 33
  have hB := (Below.refl w.heap.size w).alloc (Nat.le_refl _) (.cells #[.int .i64 x, .int .i64 y, .int .i64 z] 33)
  generalize w.alloc (.cells #[.int .i64 x, .int .i64 y, .int .i64 z] 33) = w0 at *
  refine (HC _).out.mono ?_
  rintro e w1 ⟨xc, ya, yn, ym, rfl, _, hb⟩
  have q0 := cell_keep hb t3.1; have q1 := cell_keep hb t3.2.1; have q2 := cell_keep hb t3.2.2
  have HB := Lib.hid (hB.trans (hb.mono hB.size))
  have hz0 := cell_lt q0
  clear t3 hB hb
  go_wp2_with fail
  have hB1 := HB.out.alloc HB.out.size (.cells #[.int .u8 xc, .slice ya yn ym] 90)
  have hb1 : Below w1.heap.size w1 (w1.alloc (.cells #[.int .u8 xc, .slice ya yn ym] 90)) := (Below.refl _ _).alloc (Nat.le_refl _) _
  generalize w1.alloc (.cells #[.int .u8 xc, .slice ya yn ym] 90) = w2 at *
  refine (implStateValid _ _ _ _).mono ?_
  rintro e w3 ⟨rfl, hb⟩
  have HB3 := Lib.hid (hB1.trans (hb.mono hB1.size))
  clear hb hb1 hB1
  go_wp2_with fail
  go_ret2
  exact ⟨rfl, HB3.out⟩

set_option maxHeartbeats 2000000 in
theorem implEvalE_no (s : ByteArray) (x y z : Int) (w : World) (h : ¬ (Valid false false s.data.toList ∧ s.size ≤ 200)) :
    Calls Tryz.prog 124 #[.string s, .agg #[.int .i64 x, .int .i64 y, .int .i64 z]] w fun e w' => e = .returned (.tuple #[.int .i64 0, .bool false]) ∧ Below w.heap.size w w' := by
  have HC := fun w => Lib.hid (read_no false s w h)
  clear h
  go_enter Tryz.func124, Tryz.ntmps124
  go_wp2_with fail
  have hB := (Below.refl w.heap.size w).alloc (Nat.le_refl _) (.cells #[.int .i64 x, .int .i64 y, .int .i64 z] 33)
  generalize w.alloc (.cells #[.int .i64 x, .int .i64 y, .int .i64 z] 33) = w0 at *
  refine (HC _).out.mono ?_
  rintro e w1 ⟨rfl, hb⟩
  have HB := Lib.hid (hB.trans (hb.mono hB.size))
  clear hB hb
  go_wp2_with fail
  go_ret2
  exact ⟨rfl, HB.out.alloc HB.out.size _⟩

set_option maxHeartbeats 1000000 in
theorem specOne (x y z : Int) (w : World) : Calls Tryz.prog 115 #[.agg #[.int .i64 x, .int .i64 y, .int .i64 z]] w fun e w' => e = .returned (envV (one x y z)) ∧ Below w.heap.size w w' := by
  go_enter Tryz.func115, Tryz.ntmps115
  go_wp2_with fail
  exact bodyPost_ret (v := envV (one x y z)) (by simp [results, Tryz.results115, go_sem, envV, one]) rfl ⟨rfl, ((Below.refl _ _).alloc (Nat.le_refl _) _).alloc (by simp) _⟩

end Go.Proofs.YtkgdhlpmlpbbkaaGreat
