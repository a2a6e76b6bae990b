/-
  EvalWide, of the program and of the model: the truth of two states, where the text is a wide test and both states are valid; false and false elsewhere.
-/
import Derived.Test.YtinillnccfgooaaDoorEvalT
import Derived.Test.YtinillnccfgooaaDoorWv
namespace Go.Proofs.YtinillnccfgooaaDoor
open Go.RowKit Tm

/-- The values of the variables of two states. -/
def two3 (x y z X Y Z : Int) : Nat → Int
  | 0 => x
  | 1 => y
  | 2 => z
  | 3 => X
  | 4 => Y
  | 5 => Z
  | _ => 0
theorem two3_bd {x y z X Y Z : Int} (h : st3 x y z = true) (k : st3 X Y Z = true) : ∀ i, 0 ≤ two3 x y z X Y Z i ∧ two3 x y z X Y Z i ≤ 2 := by
  have a := st3_bd h; have b := st3_bd k
  intro i
  unfold two3
  split
  · exact a.1
  · exact a.2.1
  · exact a.2.2
  · exact b.1
  · exact b.2.1
  · exact b.2.2
  · exact ⟨Int.le_refl _, by decide⟩

theorem drewN_below (w : World) (n : Nat) : Below w.heap.size w (w.drewN n) := below_of_drewN (Below.refl _ _) n
set_option maxHeartbeats 2000000 in
theorem specEnvW (x y z X Y Z : Int) (w : World) : Calls Tryd.prog 59 #[.agg #[.int .i64 x, .int .i64 y, .int .i64 z], .agg #[.int .i64 X, .int .i64 Y, .int .i64 Z]] w fun e w' => e = .returned (envV (two3 x y z X Y Z)) ∧ Below w.heap.size w w' := by
  go_enter Tryd.func59, Tryd.ntmps59
  go_wp2_with fail
  exact bodyPost_ret (v := envV (two3 x y z X Y Z)) (by simp [results, Tryd.results59, go_sem, envV, two3]) rfl ⟨rfl, (((Below.refl _ _).alloc (Nat.le_refl _) _).alloc (by simp) _).alloc (by simp; omega) _⟩

set_option maxRecDepth 100000 in
set_option maxHeartbeats 4000000 in
theorem implEvalW_yes (s : ByteArray) (x y z X Y Z : Int) (w : World) {t : Tm} (ht : Ok true true t) (hs : s.data.toList = t.ser) (hl : s.size ≤ 200) (hst : st3 x y z = true) (hsu : st3 X Y Z = true) :
    Calls Tryd.prog 30 #[.string s, .agg #[.int .i64 x, .int .i64 y, .int .i64 z], .agg #[.int .i64 X, .int .i64 Y, .int .i64 Z]] w fun e w' => e = .returned (.tuple #[.bool (tru (two3 x y z X Y Z) t), .bool true]) ∧ Below w.heap.size w w' := by
  have HC := fun w => Lib.hid (readw_yes true s w ht hs hl)
  simp only [wcode, if_true] at HC
  have HV := Lib.hid (holds_any (two3 x y z X Y Z) (two3_bd hst hsu) t)
  simp only [two3] at HV
  clear hs
  go_enter Tryd.func30, Tryd.ntmps30
  go_wp2_with fail
  have t3 := Box3.new w x y z 32
  have u3 : Box3 ((w.alloc (.cells #[.int .i64 x, .int .i64 y, .int .i64 z] 32)).alloc (.cells #[.int .i64 X, .int .i64 Y, .int .i64 Z] 32)) (w.heap.size + 1) X Y Z := by
    have := Box3.new (w.alloc (.cells #[.int .i64 x, .int .i64 y, .int .i64 z] 32)) X Y Z 32
    rwa [World.size_alloc] at this
  replace t3 := t3.alloc (by simp) (.cells #[.int .i64 X, .int .i64 Y, .int .i64 Z] 32)
  have hB := ((Below.refl w.heap.size w).alloc (Nat.le_refl _) (.cells #[.int .i64 x, .int .i64 y, .int .i64 z] 32)).alloc (by simp) (.cells #[.int .i64 X, .int .i64 Y, .int .i64 Z] 32)
  generalize (w.alloc (.cells #[.int .i64 x, .int .i64 y, .int .i64 z] 32)).alloc (.cells #[.int .i64 X, .int .i64 Y, .int .i64 Z] 32) = w0 at *
  refine (HC _).out.mono ?_
  rintro e w1 ⟨xc, ya, yn, ym, rfl, hr, hb⟩
  have q0 := cell_keep hb t3.1; have q1 := cell_keep hb t3.2.1; have q2 := cell_keep hb t3.2.2; have q3 := cell_keep hb u3.1; have q4 := cell_keep hb u3.2.1; have q5 := cell_keep hb u3.2.2
  have HB := Lib.hid (hB.trans (hb.mono hB.size))
  have HR := Lib.hid hr
  have hz0 := cell_lt q0; have hz1 := cell_lt q3
  clear t3 u3 hB hb hr
  go_wp2_with fail
  have hB1 := HB.out.alloc HB.out.size (.cells #[.int .u8 xc, .slice ya yn ym] 56)
  have m0 : (w1.alloc (.cells #[.int .u8 xc, .slice ya yn ym] 56)).cell? ⟨w1.heap.size, 0, none⟩ = some (.int .u8 xc) := by simp [go_sem]
  have m1 : (w1.alloc (.cells #[.int .u8 xc, .slice ya yn ym] 56)).cell? ⟨w1.heap.size, 1, none⟩ = some (.slice ya yn ym) := by simp [go_sem]
  have hb : Below w1.heap.size w1 (w1.alloc (.cells #[.int .u8 xc, .slice ya yn ym] 56)) := (Below.refl _ _).alloc (Nat.le_refl _) _
  have p0 := cell_keep hb q0; have p1 := cell_keep hb q1; have p2 := cell_keep hb q2; have p3 := cell_keep hb q3; have p4 := cell_keep hb q4; have p5 := cell_keep hb q5
  have HR1 := Lib.hid (HR.out.below hb)
  clear hb q0 q1 q2 q3 q4 q5
  generalize w1.alloc (.cells #[.int .u8 xc, .slice ya yn ym] 56) = w2 at *
  refine (implStateValid _ _ _ _).mono ?_
  rintro e w3 ⟨rfl, hb⟩
  have q0 := cell_keep hb p0; have q1 := cell_keep hb p1; have q2 := cell_keep hb p2; have q3 := cell_keep hb p3; have q4 := cell_keep hb p4; have q5 := cell_keep hb p5
  have n0 := cell_keep hb m0; have n1 := cell_keep hb m1
  have HB3 := Lib.hid (hB1.trans (hb.mono hB1.size))
  have HR3 := Lib.hid (HR1.out.below hb)
  clear hb p0 p1 p2 p3 p4 p5 m0 m1 hB1
  go_wp2_with fail
  refine (implStateValid _ _ _ _).mono ?_
  rintro e w4 ⟨rfl, hb⟩
  have p0 := cell_keep hb q0; have p1 := cell_keep hb q1; have p2 := cell_keep hb q2; have p3 := cell_keep hb q3; have p4 := cell_keep hb q4; have p5 := cell_keep hb q5
  have m0 := cell_keep hb n0; have m1 := cell_keep hb n1
  have HB4 := Lib.hid (HB3.out.trans (hb.mono HB3.out.size))
  have HR4 := Lib.hid (HR3.out.below hb)
  clear hb q0 q1 q2 q3 q4 q5 n0 n1
  go_wp2_with fail
  refine (HV.out _ _ _ _ ht HR4.out).mono ?_
  rintro e w5 ⟨rfl, hb⟩
  have HB5 := Lib.hid (HB4.out.trans (hb.mono HB4.out.size))
  clear hb
  go_wp2_with fail
  go_ret2
  exact ⟨rfl, HB5.out⟩

set_option maxRecDepth 100000 in
set_option maxHeartbeats 4000000 in
theorem implEvalW_sa (s : ByteArray) (x y z X Y Z : Int) (w : World) {t : Tm} (ht : Ok true true t) (hs : s.data.toList = t.ser) (hl : s.size ≤ 200) (hst : st3 x y z = false) :
    Calls Tryd.prog 30 #[.string s, .agg #[.int .i64 x, .int .i64 y, .int .i64 z], .agg #[.int .i64 X, .int .i64 Y, .int .i64 Z]] w fun e w' => e = .returned (.tuple #[.bool false, .bool false]) ∧ Below w.heap.size w w' := by
  have HC := fun w => Lib.hid (readw_yes true s w ht hs hl)
  simp only [wcode, if_true] at HC
  clear hs
  go_enter Tryd.func30, Tryd.ntmps30
  go_wp2_with fail
  have t3 := Box3.new w x y z 32
  have u3 : Box3 ((w.alloc (.cells #[.int .i64 x, .int .i64 y, .int .i64 z] 32)).alloc (.cells #[.int .i64 X, .int .i64 Y, .int .i64 Z] 32)) (w.heap.size + 1) X Y Z := by
    have := Box3.new (w.alloc (.cells #[.int .i64 x, .int .i64 y, .int .i64 z] 32)) X Y Z 32
    rwa [World.size_alloc] at this
  replace t3 := t3.alloc (by simp) (.cells #[.int .i64 X, .int .i64 Y, .int .i64 Z] 32)
  have hB := ((Below.refl w.heap.size w).alloc (Nat.le_refl _) (.cells #[.int .i64 x, .int .i64 y, .int .i64 z] 32)).alloc (by simp) (.cells #[.int .i64 X, .int .i64 Y, .int .i64 Z] 32)
  generalize (w.alloc (.cells #[.int .i64 x, .int .i64 y, .int .i64 z] 32)).alloc (.cells #[.int .i64 X, .int .i64 Y, .int .i64 Z] 32) = w0 at *
  refine (HC _).out.mono ?_
  rintro e w1 ⟨xc, ya, yn, ym, rfl, hr, hb⟩
  have q0 := cell_keep hb t3.1; have q1 := cell_keep hb t3.2.1; have q2 := cell_keep hb t3.2.2; have q3 := cell_keep hb u3.1; have q4 := cell_keep hb u3.2.1; have q5 := cell_keep hb u3.2.2
  have HB := Lib.hid (hB.trans (hb.mono hB.size))
  have HR := Lib.hid hr
  have hz0 := cell_lt q0; have hz1 := cell_lt q3
  clear t3 u3 hB hb hr
  go_wp2_with fail
  have hB1 := HB.out.alloc HB.out.size (.cells #[.int .u8 xc, .slice ya yn ym] 56)
  have m0 : (w1.alloc (.cells #[.int .u8 xc, .slice ya yn ym] 56)).cell? ⟨w1.heap.size, 0, none⟩ = some (.int .u8 xc) := by simp [go_sem]
  have m1 : (w1.alloc (.cells #[.int .u8 xc, .slice ya yn ym] 56)).cell? ⟨w1.heap.size, 1, none⟩ = some (.slice ya yn ym) := by simp [go_sem]
  have hb : Below w1.heap.size w1 (w1.alloc (.cells #[.int .u8 xc, .slice ya yn ym] 56)) := (Below.refl _ _).alloc (Nat.le_refl _) _
  have p0 := cell_keep hb q0; have p1 := cell_keep hb q1; have p2 := cell_keep hb q2; have p3 := cell_keep hb q3; have p4 := cell_keep hb q4; have p5 := cell_keep hb q5
  have HR1 := Lib.hid (HR.out.below hb)
  clear hb q0 q1 q2 q3 q4 q5
  generalize w1.alloc (.cells #[.int .u8 xc, .slice ya yn ym] 56) = w2 at *
  refine (implStateValid _ _ _ _).mono ?_
  rintro e w3 ⟨rfl, hb⟩
  have q0 := cell_keep hb p0; have q1 := cell_keep hb p1; have q2 := cell_keep hb p2; have q3 := cell_keep hb p3; have q4 := cell_keep hb p4; have q5 := cell_keep hb p5
  have n0 := cell_keep hb m0; have n1 := cell_keep hb m1
  have HB3 := Lib.hid (hB1.trans (hb.mono hB1.size))
  have HR3 := Lib.hid (HR1.out.below hb)
  clear hb p0 p1 p2 p3 p4 p5 m0 m1 hB1
  go_wp2_with fail
  go_ret2
  exact ⟨rfl, HB3.out⟩

set_option maxRecDepth 100000 in
set_option maxHeartbeats 4000000 in
theorem implEvalW_sb (s : ByteArray) (x y z X Y Z : Int) (w : World) {t : Tm} (ht : Ok true true t) (hs : s.data.toList = t.ser) (hl : s.size ≤ 200) (hst : st3 x y z = true) (hsu : st3 X Y Z = false) :
    Calls Tryd.prog 30 #[.string s, .agg #[.int .i64 x, .int .i64 y, .int .i64 z], .agg #[.int .i64 X, .int .i64 Y, .int .i64 Z]] w fun e w' => e = .returned (.tuple #[.bool false, .bool false]) ∧ Below w.heap.size w w' := by
  have HC := fun w => Lib.hid (readw_yes true s w ht hs hl)
  simp only [wcode, if_true] at HC
  clear hs
  go_enter Tryd.func30, Tryd.ntmps30
  go_wp2_with fail
  have t3 := Box3.new w x y z 32
  have u3 : Box3 ((w.alloc (.cells #[.int .i64 x, .int .i64 y, .int .i64 z] 32)).alloc (.cells #[.int .i64 X, .int .i64 Y, .int .i64 Z] 32)) (w.heap.size + 1) X Y Z := by
    have := Box3.new (w.alloc (.cells #[.int .i64 x, .int .i64 y, .int .i64 z] 32)) X Y Z 32
    rwa [World.size_alloc] at this
  replace t3 := t3.alloc (by simp) (.cells #[.int .i64 X, .int .i64 Y, .int .i64 Z] 32)
  have hB := ((Below.refl w.heap.size w).alloc (Nat.le_refl _) (.cells #[.int .i64 x, .int .i64 y, .int .i64 z] 32)).alloc (by simp) (.cells #[.int .i64 X, .int .i64 Y, .int .i64 Z] 32)
  generalize (w.alloc (.cells #[.int .i64 x, .int .i64 y, .int .i64 z] 32)).alloc (.cells #[.int .i64 X, .int .i64 Y, .int .i64 Z] 32) = w0 at *
  refine (HC _).out.mono ?_
  rintro e w1 ⟨xc, ya, yn, ym, rfl, hr, hb⟩
  have q0 := cell_keep hb t3.1; have q1 := cell_keep hb t3.2.1; have q2 := cell_keep hb t3.2.2; have q3 := cell_keep hb u3.1; have q4 := cell_keep hb u3.2.1; have q5 := cell_keep hb u3.2.2
  have HB := Lib.hid (hB.trans (hb.mono hB.size))
  have HR := Lib.hid hr
  have hz0 := cell_lt q0; have hz1 := cell_lt q3
  clear t3 u3 hB hb hr
  go_wp2_with fail
  have hB1 := HB.out.alloc HB.out.size (.cells #[.int .u8 xc, .slice ya yn ym] 56)
  have m0 : (w1.alloc (.cells #[.int .u8 xc, .slice ya yn ym] 56)).cell? ⟨w1.heap.size, 0, none⟩ = some (.int .u8 xc) := by simp [go_sem]
  have m1 : (w1.alloc (.cells #[.int .u8 xc, .slice ya yn ym] 56)).cell? ⟨w1.heap.size, 1, none⟩ = some (.slice ya yn ym) := by simp [go_sem]
  have hb : Below w1.heap.size w1 (w1.alloc (.cells #[.int .u8 xc, .slice ya yn ym] 56)) := (Below.refl _ _).alloc (Nat.le_refl _) _
  have p0 := cell_keep hb q0; have p1 := cell_keep hb q1; have p2 := cell_keep hb q2; have p3 := cell_keep hb q3; have p4 := cell_keep hb q4; have p5 := cell_keep hb q5
  have HR1 := Lib.hid (HR.out.below hb)
  clear hb q0 q1 q2 q3 q4 q5
  generalize w1.alloc (.cells #[.int .u8 xc, .slice ya yn ym] 56) = w2 at *
  refine (implStateValid _ _ _ _).mono ?_
  rintro e w3 ⟨rfl, hb⟩
  have q0 := cell_keep hb p0; have q1 := cell_keep hb p1; have q2 := cell_keep hb p2; have q3 := cell_keep hb p3; have q4 := cell_keep hb p4; have q5 := cell_keep hb p5
  have n0 := cell_keep hb m0; have n1 := cell_keep hb m1
  have HB3 := Lib.hid (hB1.trans (hb.mono hB1.size))
  have HR3 := Lib.hid (HR1.out.below hb)
  clear hb p0 p1 p2 p3 p4 p5 m0 m1 hB1
  go_wp2_with fail
  refine (implStateValid _ _ _ _).mono ?_
  rintro e w4 ⟨rfl, hb⟩
  have p0 := cell_keep hb q0; have p1 := cell_keep hb q1; have p2 := cell_keep hb q2; have p3 := cell_keep hb q3; have p4 := cell_keep hb q4; have p5 := cell_keep hb q5
  have m0 := cell_keep hb n0; have m1 := cell_keep hb n1
  have HB4 := Lib.hid (HB3.out.trans (hb.mono HB3.out.size))
  have HR4 := Lib.hid (HR3.out.below hb)
  clear hb q0 q1 q2 q3 q4 q5 n0 n1
  go_wp2_with fail
  go_ret2
  exact ⟨rfl, HB4.out⟩

set_option maxHeartbeats 2000000 in
theorem implEvalW_no (s : ByteArray) (x y z X Y Z : Int) (w : World) (h : ¬ (Valid true true s.data.toList ∧ s.size ≤ 200)) :
    Calls Tryd.prog 30 #[.string s, .agg #[.int .i64 x, .int .i64 y, .int .i64 z], .agg #[.int .i64 X, .int .i64 Y, .int .i64 Z]] w fun e w' => e = .returned (.tuple #[.bool false, .bool false]) ∧ Below w.heap.size w w' := by
  have HC := fun w => Lib.hid (readw_no true s w h)
  simp only [wcode, if_true] at HC
  clear h
  go_enter Tryd.func30, Tryd.ntmps30
  go_wp2_with fail
  have t3 := Box3.new w x y z 32
  have u3 : Box3 ((w.alloc (.cells #[.int .i64 x, .int .i64 y, .int .i64 z] 32)).alloc (.cells #[.int .i64 X, .int .i64 Y, .int .i64 Z] 32)) (w.heap.size + 1) X Y Z := by
    have := Box3.new (w.alloc (.cells #[.int .i64 x, .int .i64 y, .int .i64 z] 32)) X Y Z 32
    rwa [World.size_alloc] at this
  replace t3 := t3.alloc (by simp) (.cells #[.int .i64 X, .int .i64 Y, .int .i64 Z] 32)
  have hB := ((Below.refl w.heap.size w).alloc (Nat.le_refl _) (.cells #[.int .i64 x, .int .i64 y, .int .i64 z] 32)).alloc (by simp) (.cells #[.int .i64 X, .int .i64 Y, .int .i64 Z] 32)
  generalize (w.alloc (.cells #[.int .i64 x, .int .i64 y, .int .i64 z] 32)).alloc (.cells #[.int .i64 X, .int .i64 Y, .int .i64 Z] 32) = w0 at *
  refine (HC _).out.mono ?_
  rintro e w1 ⟨rfl, hb⟩
  have HB := Lib.hid (hB.trans (hb.mono hB.size))
  clear t3 u3 hB hb
  go_wp2_with fail
  go_ret2
  exact ⟨rfl, HB.out.alloc HB.out.size _⟩

set_option maxRecDepth 100000 in
set_option maxHeartbeats 4000000 in
theorem specEvalW_yes (s : ByteArray) (x y z X Y Z : Int) (w : World) {t : Tm} (ht : Ok true true t) (hs : s.data.toList = t.ser) (hl : s.size ≤ 200) (hst : st3 x y z = true) (hsu : st3 X Y Z = true) :
    Calls Tryd.prog 28 #[.string s, .agg #[.int .i64 x, .int .i64 y, .int .i64 z], .agg #[.int .i64 X, .int .i64 Y, .int .i64 Z]] w fun e w' => e = .returned (.tuple #[.bool (tru (two3 x y z X Y Z) t), .bool true]) ∧ Below w.heap.size w w' := by
  have HC := fun w => Lib.hid (specWide_yes s w ⟨t, ht, hs⟩ hl)
  have HV := fun w => Lib.hid (sph_any (two3 x y z X Y Z) (two3_bd hst hsu) s (by omega) t 0 [] w ht (by simp [hs]))
  clear hs
  go_enter Tryd.func28, Tryd.ntmps28
  go_wp2_with fail
  have t3 := Box3.new w x y z 32
  have u3 : Box3 ((w.alloc (.cells #[.int .i64 x, .int .i64 y, .int .i64 z] 32)).alloc (.cells #[.int .i64 X, .int .i64 Y, .int .i64 Z] 32)) (w.heap.size + 1) X Y Z := by
    have := Box3.new (w.alloc (.cells #[.int .i64 x, .int .i64 y, .int .i64 z] 32)) X Y Z 32
    rwa [World.size_alloc] at this
  replace t3 := t3.alloc (by simp) (.cells #[.int .i64 X, .int .i64 Y, .int .i64 Z] 32)
  have hB := ((Below.refl w.heap.size w).alloc (Nat.le_refl _) (.cells #[.int .i64 x, .int .i64 y, .int .i64 z] 32)).alloc (by simp) (.cells #[.int .i64 X, .int .i64 Y, .int .i64 Z] 32)
  generalize (w.alloc (.cells #[.int .i64 x, .int .i64 y, .int .i64 z] 32)).alloc (.cells #[.int .i64 X, .int .i64 Y, .int .i64 Z] 32) = w0 at *
  refine (HC _).out.mono ?_
  rintro e w1 ⟨rfl, n, rfl⟩
  have hb := drewN_below w0 n
  replace hB := below_of_drewN hB n
  generalize w0.drewN n = w1 at *
  have q0 := cell_keep hb t3.1; have q1 := cell_keep hb t3.2.1; have q2 := cell_keep hb t3.2.2; have q3 := cell_keep hb u3.1; have q4 := cell_keep hb u3.2.1; have q5 := cell_keep hb u3.2.2
  clear t3 u3 hb
  go_wp2_with fail
  refine (specStateValid _ _ _ _).mono ?_
  rintro e w3 ⟨rfl, hb⟩
  have p0 := cell_keep hb q0; have p1 := cell_keep hb q1; have p2 := cell_keep hb q2; have p3 := cell_keep hb q3; have p4 := cell_keep hb q4; have p5 := cell_keep hb q5
  have HB3 := Lib.hid (hB.trans (hb.mono hB.size))
  clear hb q0 q1 q2 q3 q4 q5 hB
  go_wp2_with fail
  refine (specStateValid _ _ _ _).mono ?_
  rintro e w4 ⟨rfl, hb⟩
  have q0 := cell_keep hb p0; have q1 := cell_keep hb p1; have q2 := cell_keep hb p2; have q3 := cell_keep hb p3; have q4 := cell_keep hb p4; have q5 := cell_keep hb p5
  have HB4 := Lib.hid (HB3.out.trans (hb.mono HB3.out.size))
  clear hb p0 p1 p2 p3 p4 p5
  go_wp2_with fail
  refine (specEnvW _ _ _ _ _ _ _).mono ?_
  rintro e w5 ⟨rfl, hb⟩
  have HB5 := Lib.hid (HB4.out.trans (hb.mono HB4.out.size))
  clear hb
  go_wp2_with fail
  refine (HV _).out.mono ?_
  rintro e w6 ⟨rfl, hb⟩
  have HB6 := Lib.hid (HB5.out.trans (hb.mono HB5.out.size))
  clear hb
  go_wp2_with fail
  go_ret2
  exact ⟨rfl, HB6.out⟩

set_option maxRecDepth 100000 in
set_option maxHeartbeats 4000000 in
theorem specEvalW_sa (s : ByteArray) (x y z X Y Z : Int) (w : World) {t : Tm} (ht : Ok true true t) (hs : s.data.toList = t.ser) (hl : s.size ≤ 200) (hst : st3 x y z = false) :
    Calls Tryd.prog 28 #[.string s, .agg #[.int .i64 x, .int .i64 y, .int .i64 z], .agg #[.int .i64 X, .int .i64 Y, .int .i64 Z]] w fun e w' => e = .returned (.tuple #[.bool false, .bool false]) ∧ Below w.heap.size w w' := by
  have HC := fun w => Lib.hid (specWide_yes s w ⟨t, ht, hs⟩ hl)
  clear hs
  go_enter Tryd.func28, Tryd.ntmps28
  go_wp2_with fail
  have t3 := Box3.new w x y z 32
  have u3 : Box3 ((w.alloc (.cells #[.int .i64 x, .int .i64 y, .int .i64 z] 32)).alloc (.cells #[.int .i64 X, .int .i64 Y, .int .i64 Z] 32)) (w.heap.size + 1) X Y Z := by
    have := Box3.new (w.alloc (.cells #[.int .i64 x, .int .i64 y, .int .i64 z] 32)) X Y Z 32
    rwa [World.size_alloc] at this
  replace t3 := t3.alloc (by simp) (.cells #[.int .i64 X, .int .i64 Y, .int .i64 Z] 32)
  have hB := ((Below.refl w.heap.size w).alloc (Nat.le_refl _) (.cells #[.int .i64 x, .int .i64 y, .int .i64 z] 32)).alloc (by simp) (.cells #[.int .i64 X, .int .i64 Y, .int .i64 Z] 32)
  generalize (w.alloc (.cells #[.int .i64 x, .int .i64 y, .int .i64 z] 32)).alloc (.cells #[.int .i64 X, .int .i64 Y, .int .i64 Z] 32) = w0 at *
  refine (HC _).out.mono ?_
  rintro e w1 ⟨rfl, n, rfl⟩
  have hb := drewN_below w0 n
  replace hB := below_of_drewN hB n
  generalize w0.drewN n = w1 at *
  have q0 := cell_keep hb t3.1; have q1 := cell_keep hb t3.2.1; have q2 := cell_keep hb t3.2.2; have q3 := cell_keep hb u3.1; have q4 := cell_keep hb u3.2.1; have q5 := cell_keep hb u3.2.2
  clear t3 u3 hb
  go_wp2_with fail
  refine (specStateValid _ _ _ _).mono ?_
  rintro e w3 ⟨rfl, hb⟩
  have p0 := cell_keep hb q0; have p1 := cell_keep hb q1; have p2 := cell_keep hb q2; have p3 := cell_keep hb q3; have p4 := cell_keep hb q4; have p5 := cell_keep hb q5
  have HB3 := Lib.hid (hB.trans (hb.mono hB.size))
  clear hb q0 q1 q2 q3 q4 q5 hB
  go_wp2_with fail
  go_ret2
  exact ⟨rfl, HB3.out⟩

set_option maxRecDepth 100000 in
set_option maxHeartbeats 4000000 in
theorem specEvalW_sb (s : ByteArray) (x y z X Y Z : Int) (w : World) {t : Tm} (ht : Ok true true t) (hs : s.data.toList = t.ser) (hl : s.size ≤ 200) (hst : st3 x y z = true) (hsu : st3 X Y Z = false) :
    Calls Tryd.prog 28 #[.string s, .agg #[.int .i64 x, .int .i64 y, .int .i64 z], .agg #[.int .i64 X, .int .i64 Y, .int .i64 Z]] w fun e w' => e = .returned (.tuple #[.bool false, .bool false]) ∧ Below w.heap.size w w' := by
  have HC := fun w => Lib.hid (specWide_yes s w ⟨t, ht, hs⟩ hl)
  clear hs
  go_enter Tryd.func28, Tryd.ntmps28
  go_wp2_with fail
  have t3 := Box3.new w x y z 32
  have u3 : Box3 ((w.alloc (.cells #[.int .i64 x, .int .i64 y, .int .i64 z] 32)).alloc (.cells #[.int .i64 X, .int .i64 Y, .int .i64 Z] 32)) (w.heap.size + 1) X Y Z := by
    have := Box3.new (w.alloc (.cells #[.int .i64 x, .int .i64 y, .int .i64 z] 32)) X Y Z 32
    rwa [World.size_alloc] at this
  replace t3 := t3.alloc (by simp) (.cells #[.int .i64 X, .int .i64 Y, .int .i64 Z] 32)
  have hB := ((Below.refl w.heap.size w).alloc (Nat.le_refl _) (.cells #[.int .i64 x, .int .i64 y, .int .i64 z] 32)).alloc (by simp) (.cells #[.int .i64 X, .int .i64 Y, .int .i64 Z] 32)
  generalize (w.alloc (.cells #[.int .i64 x, .int .i64 y, .int .i64 z] 32)).alloc (.cells #[.int .i64 X, .int .i64 Y, .int .i64 Z] 32) = w0 at *
  refine (HC _).out.mono ?_
  rintro e w1 ⟨rfl, n, rfl⟩
  have hb := drewN_below w0 n
  replace hB := below_of_drewN hB n
  generalize w0.drewN n = w1 at *
  have q0 := cell_keep hb t3.1; have q1 := cell_keep hb t3.2.1; have q2 := cell_keep hb t3.2.2; have q3 := cell_keep hb u3.1; have q4 := cell_keep hb u3.2.1; have q5 := cell_keep hb u3.2.2
  clear t3 u3 hb
  go_wp2_with fail
  refine (specStateValid _ _ _ _).mono ?_
  rintro e w3 ⟨rfl, hb⟩
  have p0 := cell_keep hb q0; have p1 := cell_keep hb q1; have p2 := cell_keep hb q2; have p3 := cell_keep hb q3; have p4 := cell_keep hb q4; have p5 := cell_keep hb q5
  have HB3 := Lib.hid (hB.trans (hb.mono hB.size))
  clear hb q0 q1 q2 q3 q4 q5 hB
  go_wp2_with fail
  refine (specStateValid _ _ _ _).mono ?_
  rintro e w4 ⟨rfl, hb⟩
  have q0 := cell_keep hb p0; have q1 := cell_keep hb p1; have q2 := cell_keep hb p2; have q3 := cell_keep hb p3; have q4 := cell_keep hb p4; have q5 := cell_keep hb p5
  have HB4 := Lib.hid (HB3.out.trans (hb.mono HB3.out.size))
  clear hb p0 p1 p2 p3 p4 p5
  go_wp2_with fail
  go_ret2
  exact ⟨rfl, HB4.out⟩

set_option maxHeartbeats 2000000 in
theorem specEvalW_no (s : ByteArray) (x y z X Y Z : Int) (w : World) (h : ¬ (Valid true true s.data.toList ∧ s.size ≤ 200)) :
    Calls Tryd.prog 28 #[.string s, .agg #[.int .i64 x, .int .i64 y, .int .i64 z], .agg #[.int .i64 X, .int .i64 Y, .int .i64 Z]] w fun e w' => e = .returned (.tuple #[.bool false, .bool false]) ∧ Below w.heap.size w w' := by
  have HC := fun w => Lib.hid (specWide_no s w h)
  clear h
  go_enter Tryd.func28, Tryd.ntmps28
  go_wp2_with fail
  have t3 := Box3.new w x y z 32
  have u3 : Box3 ((w.alloc (.cells #[.int .i64 x, .int .i64 y, .int .i64 z] 32)).alloc (.cells #[.int .i64 X, .int .i64 Y, .int .i64 Z] 32)) (w.heap.size + 1) X Y Z := by
    have := Box3.new (w.alloc (.cells #[.int .i64 x, .int .i64 y, .int .i64 z] 32)) X Y Z 32
    rwa [World.size_alloc] at this
  replace t3 := t3.alloc (by simp) (.cells #[.int .i64 X, .int .i64 Y, .int .i64 Z] 32)
  have hB := ((Below.refl w.heap.size w).alloc (Nat.le_refl _) (.cells #[.int .i64 x, .int .i64 y, .int .i64 z] 32)).alloc (by simp) (.cells #[.int .i64 X, .int .i64 Y, .int .i64 Z] 32)
  generalize (w.alloc (.cells #[.int .i64 x, .int .i64 y, .int .i64 z] 32)).alloc (.cells #[.int .i64 X, .int .i64 Y, .int .i64 Z] 32) = w0 at *
  refine (HC _).out.mono ?_
  rintro e w1 ⟨rfl, n, rfl⟩
  clear t3 u3
  go_wp2_with fail
  go_ret2
  exact ⟨rfl, below_of_drewN hB n⟩
end Go.Proofs.YtinillnccfgooaaDoor
