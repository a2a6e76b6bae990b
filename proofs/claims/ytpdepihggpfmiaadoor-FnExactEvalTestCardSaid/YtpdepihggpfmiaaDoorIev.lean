/-
  EvalExpr and EvalTest of the program.
-/
import Derived.Test.YtpdepihggpfmiaaDoorEvalT
import Derived.Test.YtpdepihggpfmiaaDoorEvalE
namespace Go.Proofs.YtpdepihggpfmiaaDoor
open Go.RowKit Tm

set_option maxHeartbeats 2000000 in
theorem implEvalE_yes (s : ByteArray) (x y z : Int) (w : World) {t : Tm} (ht : Ok false false t) (hs : s.data.toList = t.ser) (hl : s.size ≤ 200) (hst : st3 x y z = true) :
    Calls Tryd.prog 20 #[.string s, .agg #[.int .i64 x, .int .i64 y, .int .i64 z]] w fun e w' => e = .returned (.tuple #[.int .i64 (val (one x y z) t), .bool true]) ∧ Below w.heap.size w w' := by
  have HC := fun w => Lib.hid (read_yes false s w ht hs hl)
  have HV := Lib.hid (value_any (one x y z) (one_bd hst) t)
  simp only [one] at HV
  clear hs
  go_enter Tryd.func20, Tryd.ntmps20
  go_wp2_with fail
  have t3 := Box3.new w x y z 27
  have hB := (Below.refl w.heap.size w).alloc (Nat.le_refl _) (.cells #[.int .i64 x, .int .i64 y, .int .i64 z] 27)
  generalize w.alloc (.cells #[.int .i64 x, .int .i64 y, .int .i64 z] 27) = w0 at *
  refine (HC _).out.mono ?_
  rintro e w1 ⟨xc, ya, yn, ym, rfl, hr, hb⟩
  have q0 := cell_keep hb t3.1; have q1 := cell_keep hb t3.2.1; have q2 := cell_keep hb t3.2.2
  have HB := Lib.hid (hB.trans (hb.mono hB.size))
  have HR := Lib.hid hr
  have hz0 := cell_lt q0
  clear t3 hB hb hr
  go_wp2_with fail
  have hB1 := HB.out.alloc HB.out.size (.cells #[.int .u8 xc, .slice ya yn ym] 40)
  have m0 : (w1.alloc (.cells #[.int .u8 xc, .slice ya yn ym] 40)).cell? ⟨w1.heap.size, 0, none⟩ = some (.int .u8 xc) := by simp [go_sem]
  have m1 : (w1.alloc (.cells #[.int .u8 xc, .slice ya yn ym] 40)).cell? ⟨w1.heap.size, 1, none⟩ = some (.slice ya yn ym) := by simp [go_sem]
  have hb1 : Below w1.heap.size w1 (w1.alloc (.cells #[.int .u8 xc, .slice ya yn ym] 40)) := (Below.refl _ _).alloc (Nat.le_refl _) _
  have p0 := cell_keep hb1 q0; have p1 := cell_keep hb1 q1; have p2 := cell_keep hb1 q2
  have HR1 := Lib.hid (HR.out.below hb1)
  clear hb1 q0 q1 q2
  generalize w1.alloc (.cells #[.int .u8 xc, .slice ya yn ym] 40) = w2 at *
  refine (implStateValid _ _ _ _).mono ?_
  rintro e w3 ⟨rfl, hb⟩
  have q0 := cell_keep hb p0; have q1 := cell_keep hb p1; have q2 := cell_keep hb p2
  have n0 := cell_keep hb m0; have n1 := cell_keep hb m1
  have HB3 := Lib.hid (hB1.trans (hb.mono hB1.size))
  have HR3 := Lib.hid (HR1.out.below hb)
  clear hb p0 p1 p2 m0 m1 hB1
  go_wp2_with fail
  refine (HV.out _ _ _ _ (ok_wide ht) HR3.out).mono ?_
  rintro e w4 ⟨rfl, hb⟩
  have HB4 := Lib.hid (HB3.out.trans (hb.mono HB3.out.size))
  clear hb
  go_wp2_with fail
  go_ret2
  exact ⟨rfl, HB4.out⟩

set_option maxHeartbeats 2000000 in
theorem implEvalE_st (s : ByteArray) (x y z : Int) (w : World) {t : Tm} (ht : Ok false false t) (hs : s.data.toList = t.ser) (hl : s.size ≤ 200) (hst : st3 x y z = false) :
    Calls Tryd.prog 20 #[.string s, .agg #[.int .i64 x, .int .i64 y, .int .i64 z]] w fun e w' => e = .returned (.tuple #[.int .i64 0, .bool false]) ∧ Below w.heap.size w w' := by
  have HC := fun w => Lib.hid (read_yes false s w ht hs hl)
  clear hs
  go_enter Tryd.func20, Tryd.ntmps20
  go_wp2_with fail
  have t3 := Box3.new w x y z 27
  have hB := (Below.refl w.heap.size w).alloc (Nat.le_refl _) (.cells #[.int .i64 x, .int .i64 y, .int .i64 z] 27)
  generalize w.alloc (.cells #[.int .i64 x, .int .i64 y, .int .i64 z] 27) = w0 at *
  refine (HC _).out.mono ?_
  rintro e w1 ⟨xc, ya, yn, ym, rfl, _, hb⟩
  have q0 := cell_keep hb t3.1; have q1 := cell_keep hb t3.2.1; have q2 := cell_keep hb t3.2.2
  have HB := Lib.hid (hB.trans (hb.mono hB.size))
  have hz0 := cell_lt q0
  clear t3 hB hb
  go_wp2_with fail
  have hB1 := HB.out.alloc HB.out.size (.cells #[.int .u8 xc, .slice ya yn ym] 40)
  have hb1 : Below w1.heap.size w1 (w1.alloc (.cells #[.int .u8 xc, .slice ya yn ym] 40)) := (Below.refl _ _).alloc (Nat.le_refl _) _
  generalize w1.alloc (.cells #[.int .u8 xc, .slice ya yn ym] 40) = w2 at *
  refine (implStateValid _ _ _ _).mono ?_
  rintro e w3 ⟨rfl, hb⟩
  have HB3 := Lib.hid (hB1.trans (hb.mono hB1.size))
  clear hb hb1 hB1
  go_wp2_with fail
  go_ret2
  exact ⟨rfl, HB3.out⟩

set_option maxHeartbeats 2000000 in
theorem implEvalE_no (s : ByteArray) (x y z : Int) (w : World) (h : ¬ (Valid false false s.data.toList ∧ s.size ≤ 200)) :
    Calls Tryd.prog 20 #[.string s, .agg #[.int .i64 x, .int .i64 y, .int .i64 z]] w fun e w' => e = .returned (.tuple #[.int .i64 0, .bool false]) ∧ Below w.heap.size w w' := by
  have HC := fun w => Lib.hid (read_no false s w h)
  clear h
  go_enter Tryd.func20, Tryd.ntmps20
  go_wp2_with fail
  have hB := (Below.refl w.heap.size w).alloc (Nat.le_refl _) (.cells #[.int .i64 x, .int .i64 y, .int .i64 z] 27)
  generalize w.alloc (.cells #[.int .i64 x, .int .i64 y, .int .i64 z] 27) = w0 at *
  refine (HC _).out.mono ?_
  rintro e w1 ⟨rfl, hb⟩
  have HB := Lib.hid (hB.trans (hb.mono hB.size))
  clear hB hb
  go_wp2_with fail
  go_ret2
  exact ⟨rfl, HB.out.alloc HB.out.size _⟩

set_option maxRecDepth 100000 in
set_option maxHeartbeats 4000000 in
theorem implEvalT_yes (s : ByteArray) (x y z : Int) (w : World) {t : Tm} (ht : Ok false true t) (hs : s.data.toList = t.ser) (hl : s.size ≤ 200) (hst : st3 x y z = true) :
    Calls Tryd.prog 22 #[.string s, .agg #[.int .i64 x, .int .i64 y, .int .i64 z]] w fun e w' => e = .returned (.tuple #[.bool (tru (one x y z) t), .bool true]) ∧ Below w.heap.size w w' := by
  have HC := fun w => Lib.hid (read_yes true s w ht hs hl)
  have HV := Lib.hid (holds_any (one x y z) (one_bd hst) t)
  simp only [one] at HV
  clear hs
  go_enter Tryd.func22, Tryd.ntmps22
  go_wp2_with fail
  have t3 := Box3.new w x y z 27
  have hB := (Below.refl w.heap.size w).alloc (Nat.le_refl _) (.cells #[.int .i64 x, .int .i64 y, .int .i64 z] 27)
  generalize w.alloc (.cells #[.int .i64 x, .int .i64 y, .int .i64 z] 27) = w0 at *
  refine (HC _).out.mono ?_
  rintro e w1 ⟨xc, ya, yn, ym, rfl, hr, hb⟩
  have q0 := cell_keep hb t3.1; have q1 := cell_keep hb t3.2.1; have q2 := cell_keep hb t3.2.2
  have HB := Lib.hid (hB.trans (hb.mono hB.size))
  have HR := Lib.hid hr
  have hz0 := cell_lt q0
  clear t3 hB hb hr
  go_wp2_with fail
  have hB1 := HB.out.alloc HB.out.size (.cells #[.int .u8 xc, .slice ya yn ym] 40)
  have m0 : (w1.alloc (.cells #[.int .u8 xc, .slice ya yn ym] 40)).cell? ⟨w1.heap.size, 0, none⟩ = some (.int .u8 xc) := by simp [go_sem]
  have m1 : (w1.alloc (.cells #[.int .u8 xc, .slice ya yn ym] 40)).cell? ⟨w1.heap.size, 1, none⟩ = some (.slice ya yn ym) := by simp [go_sem]
  have hb1 : Below w1.heap.size w1 (w1.alloc (.cells #[.int .u8 xc, .slice ya yn ym] 40)) := (Below.refl _ _).alloc (Nat.le_refl _) _
  have p0 := cell_keep hb1 q0; have p1 := cell_keep hb1 q1; have p2 := cell_keep hb1 q2
  have HR1 := Lib.hid (HR.out.below hb1)
  clear hb1 q0 q1 q2
  generalize w1.alloc (.cells #[.int .u8 xc, .slice ya yn ym] 40) = w2 at *
  refine (implStateValid _ _ _ _).mono ?_
  rintro e w3 ⟨rfl, hb⟩
  have q0 := cell_keep hb p0; have q1 := cell_keep hb p1; have q2 := cell_keep hb p2
  have n0 := cell_keep hb m0; have n1 := cell_keep hb m1
  have HB3 := Lib.hid (hB1.trans (hb.mono hB1.size))
  have HR3 := Lib.hid (HR1.out.below hb)
  clear hb p0 p1 p2 m0 m1 hB1
  go_wp2_with fail
  refine (HV.out _ _ _ _ (ok_wide ht) HR3.out).mono ?_
  rintro e w4 ⟨rfl, hb⟩
  have HB4 := Lib.hid (HB3.out.trans (hb.mono HB3.out.size))
  clear hb
  go_wp2_with fail
  go_ret2
  exact ⟨rfl, HB4.out⟩

set_option maxHeartbeats 2000000 in
theorem implEvalT_st (s : ByteArray) (x y z : Int) (w : World) {t : Tm} (ht : Ok false true t) (hs : s.data.toList = t.ser) (hl : s.size ≤ 200) (hst : st3 x y z = false) :
    Calls Tryd.prog 22 #[.string s, .agg #[.int .i64 x, .int .i64 y, .int .i64 z]] w fun e w' => e = .returned (.tuple #[.bool false, .bool false]) ∧ Below w.heap.size w w' := by
  have HC := fun w => Lib.hid (read_yes true s w ht hs hl)
  clear hs
  go_enter Tryd.func22, Tryd.ntmps22
  go_wp2_with fail
  have t3 := Box3.new w x y z 27
  have hB := (Below.refl w.heap.size w).alloc (Nat.le_refl _) (.cells #[.int .i64 x, .int .i64 y, .int .i64 z] 27)
  generalize w.alloc (.cells #[.int .i64 x, .int .i64 y, .int .i64 z] 27) = w0 at *
  refine (HC _).out.mono ?_
  rintro e w1 ⟨xc, ya, yn, ym, rfl, _, hb⟩
  have q0 := cell_keep hb t3.1; have q1 := cell_keep hb t3.2.1; have q2 := cell_keep hb t3.2.2
  have HB := Lib.hid (hB.trans (hb.mono hB.size))
  have hz0 := cell_lt q0
  clear t3 hB hb
  go_wp2_with fail
  have hB1 := HB.out.alloc HB.out.size (.cells #[.int .u8 xc, .slice ya yn ym] 40)
  have hb1 : Below w1.heap.size w1 (w1.alloc (.cells #[.int .u8 xc, .slice ya yn ym] 40)) := (Below.refl _ _).alloc (Nat.le_refl _) _
  generalize w1.alloc (.cells #[.int .u8 xc, .slice ya yn ym] 40) = w2 at *
  refine (implStateValid _ _ _ _).mono ?_
  rintro e w3 ⟨rfl, hb⟩
  have HB3 := Lib.hid (hB1.trans (hb.mono hB1.size))
  clear hb hb1 hB1
  go_wp2_with fail
  go_ret2
  exact ⟨rfl, HB3.out⟩

set_option maxHeartbeats 2000000 in
theorem implEvalT_no (s : ByteArray) (x y z : Int) (w : World) (h : ¬ (Valid false true s.data.toList ∧ s.size ≤ 200)) :
    Calls Tryd.prog 22 #[.string s, .agg #[.int .i64 x, .int .i64 y, .int .i64 z]] w fun e w' => e = .returned (.tuple #[.bool false, .bool false]) ∧ Below w.heap.size w w' := by
  have HC := fun w => Lib.hid (read_no true s w h)
  clear h
  go_enter Tryd.func22, Tryd.ntmps22
  go_wp2_with fail
  have hB := (Below.refl w.heap.size w).alloc (Nat.le_refl _) (.cells #[.int .i64 x, .int .i64 y, .int .i64 z] 27)
  generalize w.alloc (.cells #[.int .i64 x, .int .i64 y, .int .i64 z] 27) = w0 at *
  refine (HC _).out.mono ?_
  rintro e w1 ⟨rfl, hb⟩
  have HB := Lib.hid (hB.trans (hb.mono hB.size))
  clear hB hb
  go_wp2_with fail
  go_ret2
  exact ⟨rfl, HB.out.alloc HB.out.size _⟩

end Go.Proofs.YtpdepihggpfmiaaDoor
