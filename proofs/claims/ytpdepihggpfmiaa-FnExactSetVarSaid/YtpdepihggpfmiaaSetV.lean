/-
  SetVar, of the program and of the model.
-/
import Derived.Test.YtpdepihggpfmiaaVar
import Derived.Test.YtpdepihggpfmiaaPth
namespace Go.Proofs.Ytpdepihggpfmiaa
open Go.RowKit

theorem cell_keep' {w w' : World} {b o : Nat} {v : Value} (hb : Below w.heap.size w w') (h : w.cell? ⟨b, o, none⟩ = some v) : w'.cell? ⟨b, o, none⟩ = some v := (hb.cell (p := ⟨b, o, none⟩) (World.block_lt_of_cell? w ⟨b, o, none⟩ h)).trans h
theorem cell_lt' {w : World} {b o : Nat} {v : Value} (h : w.cell? ⟨b, o, none⟩ = some v) : b < w.heap.size := World.block_lt_of_cell? w ⟨b, o, none⟩ h

theorem pair_first (a b c d e f : Int) (w : World) : (Instr.field 41 (.agg #[.int .i64 a, .int .i64 b, .int .i64 c, .int .i64 d, .int .i64 e, .int .i64 f]) 0).run Try.prog w = .ok (.agg #[.int .i64 a, .int .i64 b, .int .i64 c]) w := by kernel_rfl

set_option maxHeartbeats 2000000 in
theorem implSet_x (x y z n : Int) (w : World) (hst : st3 x y z = true) (hn : val3 n = true) :
    Calls Try.prog 6 #[.agg #[.int .i64 x, .int .i64 y, .int .i64 z], .string ⟨#[120]⟩, .int .i64 n] w fun e w' => e = .returned (.tuple #[.agg #[.int .i64 n, .int .i64 y, .int .i64 z], .bool true]) ∧ Below w.heap.size w w' := by
  have hfl := fun w => pair_first n y z 0 0 0 w
  have P := fun w => Lib.hid (show Calls _ _ #[_, .string ⟨#[120]⟩, _] w _ from pair_with_0 n x y z 0 0 0 w)
  have K := fun w => Lib.hid (implIsVar_yes ⟨#[120]⟩ w (by simp [IsVar]))
  go_enter Try.func6, Try.ntmps6
  go_wp2_with fail
  have t3 : Box3 ((w.alloc (.cells #[.int .i64 x, .int .i64 y, .int .i64 z] 24)).alloc (.cells #[.int .i64 0, .int .i64 0, .int .i64 0] 24)) w.heap.size x y z := (Box3.new w x y z 24).alloc (by simp) _
  have z3 : Box3 ((w.alloc (.cells #[.int .i64 x, .int .i64 y, .int .i64 z] 24)).alloc (.cells #[.int .i64 0, .int .i64 0, .int .i64 0] 24)) (w.heap.size + 1) 0 0 0 := by
    have h := Box3.new (w.alloc (.cells #[.int .i64 x, .int .i64 y, .int .i64 z] 24)) 0 0 0 24
    simpa using h
  have fr : ∀ o, ((w.alloc (.cells #[.int .i64 x, .int .i64 y, .int .i64 z] 24)).alloc (.cells #[.int .i64 0, .int .i64 0, .int .i64 0] 24)).frozen? ⟨w.heap.size, o, none⟩ = false := fun o => by simp [go_sem]
  have fz : ∀ o, ((w.alloc (.cells #[.int .i64 x, .int .i64 y, .int .i64 z] 24)).alloc (.cells #[.int .i64 0, .int .i64 0, .int .i64 0] 24)).frozen? ⟨w.heap.size + 1, o, none⟩ = false := fun o => by simp [go_sem]
  have hB := ((Below.refl w.heap.size w).alloc (Nat.le_refl _) (.cells #[.int .i64 x, .int .i64 y, .int .i64 z] 24)).alloc (by simp) (.cells #[.int .i64 0, .int .i64 0, .int .i64 0] 24)
  generalize (w.alloc (.cells #[.int .i64 x, .int .i64 y, .int .i64 z] 24)).alloc (.cells #[.int .i64 0, .int .i64 0, .int .i64 0] 24) = w0 at *
  refine (implStateValid _ _ _ _).mono ?_
  rintro e w1 ⟨rfl, hb⟩
  have q0 := cell_keep' hb t3.1; have q1 := cell_keep' hb t3.2.1; have q2 := cell_keep' hb t3.2.2
  have r0 := cell_keep' hb z3.1; have r1 := cell_keep' hb z3.2.1; have r2 := cell_keep' hb z3.2.2
  have hl0 := cell_lt' t3.1; have hl1 := cell_lt' z3.1
  have f0 := (hb.frozen (p := ⟨w.heap.size, 0, none⟩) hl0).trans (fr 0); have f1 := (hb.frozen (p := ⟨w.heap.size, 1, none⟩) hl0).trans (fr 1); have f2 := (hb.frozen (p := ⟨w.heap.size, 2, none⟩) hl0).trans (fr 2)
  have g0 := (hb.frozen (p := ⟨w.heap.size + 1, 0, none⟩) hl1).trans (fz 0); have g1 := (hb.frozen (p := ⟨w.heap.size + 1, 1, none⟩) hl1).trans (fz 1); have g2 := (hb.frozen (p := ⟨w.heap.size + 1, 2, none⟩) hl1).trans (fz 2)
  have HB := Lib.hid (hB.trans (hb.mono hB.size))
  clear hb hB t3 z3 fr fz hl0 hl1
  go_wp2_with fail
  refine (K _).out.mono ?_
  rintro e w' ⟨rfl, rfl⟩
  go_wp2_with fail
  refine (implIsValue _ _).mono ?_
  rintro e w' ⟨rfl, rfl⟩
  go_wp2_with fail
  refine (P _).out.mono ?_
  rintro e w2 ⟨rfl, hb⟩
  have s0 := cell_keep' hb r0; have s1 := cell_keep' hb r1; have s2 := cell_keep' hb r2
  have hl1 := cell_lt' r0
  have k0 := (hb.frozen (p := ⟨w.heap.size + 1, 0, none⟩) hl1).trans g0; have k1 := (hb.frozen (p := ⟨w.heap.size + 1, 1, none⟩) hl1).trans g1; have k2 := (hb.frozen (p := ⟨w.heap.size + 1, 2, none⟩) hl1).trans g2
  have HB2 := Lib.hid (HB.out.trans (hb.mono HB.out.size))
  clear hb q0 q1 q2 r0 r1 r2 f0 f1 f2 g0 g1 g2 hl1
  go_wp2_with fail
  exact bodyPost_ret (v := .tuple #[.agg #[.int .i64 n, .int .i64 y, .int .i64 z], .bool true]) (by simp [results, Try.results6, go_sem, s0, s1, s2]) rfl ⟨rfl, by (repeat refine Below.setCell ?_ (by simp) _); exact HB2.out⟩

set_option maxHeartbeats 2000000 in
theorem implSet_y (x y z n : Int) (w : World) (hst : st3 x y z = true) (hn : val3 n = true) :
    Calls Try.prog 6 #[.agg #[.int .i64 x, .int .i64 y, .int .i64 z], .string ⟨#[121]⟩, .int .i64 n] w fun e w' => e = .returned (.tuple #[.agg #[.int .i64 x, .int .i64 n, .int .i64 z], .bool true]) ∧ Below w.heap.size w w' := by
  have hfl := fun w => pair_first x n z 0 0 0 w
  have P := fun w => Lib.hid (show Calls _ _ #[_, .string ⟨#[121]⟩, _] w _ from pair_with_1 n x y z 0 0 0 w)
  have K := fun w => Lib.hid (implIsVar_yes ⟨#[121]⟩ w (by simp [IsVar]))
  go_enter Try.func6, Try.ntmps6
  go_wp2_with fail
  have t3 : Box3 ((w.alloc (.cells #[.int .i64 x, .int .i64 y, .int .i64 z] 24)).alloc (.cells #[.int .i64 0, .int .i64 0, .int .i64 0] 24)) w.heap.size x y z := (Box3.new w x y z 24).alloc (by simp) _
  have z3 : Box3 ((w.alloc (.cells #[.int .i64 x, .int .i64 y, .int .i64 z] 24)).alloc (.cells #[.int .i64 0, .int .i64 0, .int .i64 0] 24)) (w.heap.size + 1) 0 0 0 := by
    have h := Box3.new (w.alloc (.cells #[.int .i64 x, .int .i64 y, .int .i64 z] 24)) 0 0 0 24
    simpa using h
  have fr : ∀ o, ((w.alloc (.cells #[.int .i64 x, .int .i64 y, .int .i64 z] 24)).alloc (.cells #[.int .i64 0, .int .i64 0, .int .i64 0] 24)).frozen? ⟨w.heap.size, o, none⟩ = false := fun o => by simp [go_sem]
  have fz : ∀ o, ((w.alloc (.cells #[.int .i64 x, .int .i64 y, .int .i64 z] 24)).alloc (.cells #[.int .i64 0, .int .i64 0, .int .i64 0] 24)).frozen? ⟨w.heap.size + 1, o, none⟩ = false := fun o => by simp [go_sem]
  have hB := ((Below.refl w.heap.size w).alloc (Nat.le_refl _) (.cells #[.int .i64 x, .int .i64 y, .int .i64 z] 24)).alloc (by simp) (.cells #[.int .i64 0, .int .i64 0, .int .i64 0] 24)
  generalize (w.alloc (.cells #[.int .i64 x, .int .i64 y, .int .i64 z] 24)).alloc (.cells #[.int .i64 0, .int .i64 0, .int .i64 0] 24) = w0 at *
  refine (implStateValid _ _ _ _).mono ?_
  rintro e w1 ⟨rfl, hb⟩
  have q0 := cell_keep' hb t3.1; have q1 := cell_keep' hb t3.2.1; have q2 := cell_keep' hb t3.2.2
  have r0 := cell_keep' hb z3.1; have r1 := cell_keep' hb z3.2.1; have r2 := cell_keep' hb z3.2.2
  have hl0 := cell_lt' t3.1; have hl1 := cell_lt' z3.1
  have f0 := (hb.frozen (p := ⟨w.heap.size, 0, none⟩) hl0).trans (fr 0); have f1 := (hb.frozen (p := ⟨w.heap.size, 1, none⟩) hl0).trans (fr 1); have f2 := (hb.frozen (p := ⟨w.heap.size, 2, none⟩) hl0).trans (fr 2)
  have g0 := (hb.frozen (p := ⟨w.heap.size + 1, 0, none⟩) hl1).trans (fz 0); have g1 := (hb.frozen (p := ⟨w.heap.size + 1, 1, none⟩) hl1).trans (fz 1); have g2 := (hb.frozen (p := ⟨w.heap.size + 1, 2, none⟩) hl1).trans (fz 2)
  have HB := Lib.hid (hB.trans (hb.mono hB.size))
  clear hb hB t3 z3 fr fz hl0 hl1
  go_wp2_with fail
  refine (K _).out.mono ?_
  rintro e w' ⟨rfl, rfl⟩
  go_wp2_with fail
  refine (implIsValue _ _).mono ?_
  rintro e w' ⟨rfl, rfl⟩
  go_wp2_with fail
  refine (P _).out.mono ?_
  rintro e w2 ⟨rfl, hb⟩
  have s0 := cell_keep' hb r0; have s1 := cell_keep' hb r1; have s2 := cell_keep' hb r2
  have hl1 := cell_lt' r0
  have k0 := (hb.frozen (p := ⟨w.heap.size + 1, 0, none⟩) hl1).trans g0; have k1 := (hb.frozen (p := ⟨w.heap.size + 1, 1, none⟩) hl1).trans g1; have k2 := (hb.frozen (p := ⟨w.heap.size + 1, 2, none⟩) hl1).trans g2
  have HB2 := Lib.hid (HB.out.trans (hb.mono HB.out.size))
  clear hb q0 q1 q2 r0 r1 r2 f0 f1 f2 g0 g1 g2 hl1
  go_wp2_with fail
  exact bodyPost_ret (v := .tuple #[.agg #[.int .i64 x, .int .i64 n, .int .i64 z], .bool true]) (by simp [results, Try.results6, go_sem, s0, s1, s2]) rfl ⟨rfl, by (repeat refine Below.setCell ?_ (by simp) _); exact HB2.out⟩

set_option maxHeartbeats 2000000 in
theorem implSet_z (x y z n : Int) (w : World) (hst : st3 x y z = true) (hn : val3 n = true) :
    Calls Try.prog 6 #[.agg #[.int .i64 x, .int .i64 y, .int .i64 z], .string ⟨#[122]⟩, .int .i64 n] w fun e w' => e = .returned (.tuple #[.agg #[.int .i64 x, .int .i64 y, .int .i64 n], .bool true]) ∧ Below w.heap.size w w' := by
  have hfl := fun w => pair_first x y n 0 0 0 w
  have P := fun w => Lib.hid (show Calls _ _ #[_, .string ⟨#[122]⟩, _] w _ from pair_with_2 n x y z 0 0 0 w)
  have K := fun w => Lib.hid (implIsVar_yes ⟨#[122]⟩ w (by simp [IsVar]))
  go_enter Try.func6, Try.ntmps6
  go_wp2_with fail
  have t3 : Box3 ((w.alloc (.cells #[.int .i64 x, .int .i64 y, .int .i64 z] 24)).alloc (.cells #[.int .i64 0, .int .i64 0, .int .i64 0] 24)) w.heap.size x y z := (Box3.new w x y z 24).alloc (by simp) _
  have z3 : Box3 ((w.alloc (.cells #[.int .i64 x, .int .i64 y, .int .i64 z] 24)).alloc (.cells #[.int .i64 0, .int .i64 0, .int .i64 0] 24)) (w.heap.size + 1) 0 0 0 := by
    have h := Box3.new (w.alloc (.cells #[.int .i64 x, .int .i64 y, .int .i64 z] 24)) 0 0 0 24
    simpa using h
  have fr : ∀ o, ((w.alloc (.cells #[.int .i64 x, .int .i64 y, .int .i64 z] 24)).alloc (.cells #[.int .i64 0, .int .i64 0, .int .i64 0] 24)).frozen? ⟨w.heap.size, o, none⟩ = false := fun o => by simp [go_sem]
  have fz : ∀ o, ((w.alloc (.cells #[.int .i64 x, .int .i64 y, .int .i64 z] 24)).alloc (.cells #[.int .i64 0, .int .i64 0, .int .i64 0] 24)).frozen? ⟨w.heap.size + 1, o, none⟩ = false := fun o => by simp [go_sem]
  have hB := ((Below.refl w.heap.size w).alloc (Nat.le_refl _) (.cells #[.int .i64 x, .int .i64 y, .int .i64 z] 24)).alloc (by simp) (.cells #[.int .i64 0, .int .i64 0, .int .i64 0] 24)
  generalize (w.alloc (.cells #[.int .i64 x, .int .i64 y, .int .i64 z] 24)).alloc (.cells #[.int .i64 0, .int .i64 0, .int .i64 0] 24) = w0 at *
  refine (implStateValid _ _ _ _).mono ?_
  rintro e w1 ⟨rfl, hb⟩
  have q0 := cell_keep' hb t3.1; have q1 := cell_keep' hb t3.2.1; have q2 := cell_keep' hb t3.2.2
  have r0 := cell_keep' hb z3.1; have r1 := cell_keep' hb z3.2.1; have r2 := cell_keep' hb z3.2.2
  have hl0 := cell_lt' t3.1; have hl1 := cell_lt' z3.1
  have f0 := (hb.frozen (p := ⟨w.heap.size, 0, none⟩) hl0).trans (fr 0); have f1 := (hb.frozen (p := ⟨w.heap.size, 1, none⟩) hl0).trans (fr 1); have f2 := (hb.frozen (p := ⟨w.heap.size, 2, none⟩) hl0).trans (fr 2)
  have g0 := (hb.frozen (p := ⟨w.heap.size + 1, 0, none⟩) hl1).trans (fz 0); have g1 := (hb.frozen (p := ⟨w.heap.size + 1, 1, none⟩) hl1).trans (fz 1); have g2 := (hb.frozen (p := ⟨w.heap.size + 1, 2, none⟩) hl1).trans (fz 2)
  have HB := Lib.hid (hB.trans (hb.mono hB.size))
  clear hb hB t3 z3 fr fz hl0 hl1
  go_wp2_with fail
  refine (K _).out.mono ?_
  rintro e w' ⟨rfl, rfl⟩
  go_wp2_with fail
  refine (implIsValue _ _).mono ?_
  rintro e w' ⟨rfl, rfl⟩
  go_wp2_with fail
  refine (P _).out.mono ?_
  rintro e w2 ⟨rfl, hb⟩
  have s0 := cell_keep' hb r0; have s1 := cell_keep' hb r1; have s2 := cell_keep' hb r2
  have hl1 := cell_lt' r0
  have k0 := (hb.frozen (p := ⟨w.heap.size + 1, 0, none⟩) hl1).trans g0; have k1 := (hb.frozen (p := ⟨w.heap.size + 1, 1, none⟩) hl1).trans g1; have k2 := (hb.frozen (p := ⟨w.heap.size + 1, 2, none⟩) hl1).trans g2
  have HB2 := Lib.hid (HB.out.trans (hb.mono HB.out.size))
  clear hb q0 q1 q2 r0 r1 r2 f0 f1 f2 g0 g1 g2 hl1
  go_wp2_with fail
  exact bodyPost_ret (v := .tuple #[.agg #[.int .i64 x, .int .i64 y, .int .i64 n], .bool true]) (by simp [results, Try.results6, go_sem, s0, s1, s2]) rfl ⟨rfl, by (repeat refine Below.setCell ?_ (by simp) _); exact HB2.out⟩

set_option maxHeartbeats 2000000 in
theorem implSet_st (x y z n : Int) (v : ByteArray) (w : World) (hst : st3 x y z = false) :
    Calls Try.prog 6 #[.agg #[.int .i64 x, .int .i64 y, .int .i64 z], .string v, .int .i64 n] w fun e w' => e = .returned (.tuple #[.agg #[.int .i64 0, .int .i64 0, .int .i64 0], .bool false]) ∧ Below w.heap.size w w' := by
  go_enter Try.func6, Try.ntmps6
  go_wp2_with fail
  have t3 : Box3 ((w.alloc (.cells #[.int .i64 x, .int .i64 y, .int .i64 z] 24)).alloc (.cells #[.int .i64 0, .int .i64 0, .int .i64 0] 24)) w.heap.size x y z := (Box3.new w x y z 24).alloc (by simp) _
  have z3 : Box3 ((w.alloc (.cells #[.int .i64 x, .int .i64 y, .int .i64 z] 24)).alloc (.cells #[.int .i64 0, .int .i64 0, .int .i64 0] 24)) (w.heap.size + 1) 0 0 0 := by
    have h := Box3.new (w.alloc (.cells #[.int .i64 x, .int .i64 y, .int .i64 z] 24)) 0 0 0 24
    simpa using h
  have fr : ∀ o, ((w.alloc (.cells #[.int .i64 x, .int .i64 y, .int .i64 z] 24)).alloc (.cells #[.int .i64 0, .int .i64 0, .int .i64 0] 24)).frozen? ⟨w.heap.size, o, none⟩ = false := fun o => by simp [go_sem]
  have fz : ∀ o, ((w.alloc (.cells #[.int .i64 x, .int .i64 y, .int .i64 z] 24)).alloc (.cells #[.int .i64 0, .int .i64 0, .int .i64 0] 24)).frozen? ⟨w.heap.size + 1, o, none⟩ = false := fun o => by simp [go_sem]
  have hB := ((Below.refl w.heap.size w).alloc (Nat.le_refl _) (.cells #[.int .i64 x, .int .i64 y, .int .i64 z] 24)).alloc (by simp) (.cells #[.int .i64 0, .int .i64 0, .int .i64 0] 24)
  generalize (w.alloc (.cells #[.int .i64 x, .int .i64 y, .int .i64 z] 24)).alloc (.cells #[.int .i64 0, .int .i64 0, .int .i64 0] 24) = w0 at *
  refine (implStateValid _ _ _ _).mono ?_
  rintro e w1 ⟨rfl, hb⟩
  have q0 := cell_keep' hb t3.1; have q1 := cell_keep' hb t3.2.1; have q2 := cell_keep' hb t3.2.2
  have r0 := cell_keep' hb z3.1; have r1 := cell_keep' hb z3.2.1; have r2 := cell_keep' hb z3.2.2
  have hl0 := cell_lt' t3.1; have hl1 := cell_lt' z3.1
  have f0 := (hb.frozen (p := ⟨w.heap.size, 0, none⟩) hl0).trans (fr 0); have f1 := (hb.frozen (p := ⟨w.heap.size, 1, none⟩) hl0).trans (fr 1); have f2 := (hb.frozen (p := ⟨w.heap.size, 2, none⟩) hl0).trans (fr 2)
  have g0 := (hb.frozen (p := ⟨w.heap.size + 1, 0, none⟩) hl1).trans (fz 0); have g1 := (hb.frozen (p := ⟨w.heap.size + 1, 1, none⟩) hl1).trans (fz 1); have g2 := (hb.frozen (p := ⟨w.heap.size + 1, 2, none⟩) hl1).trans (fz 2)
  have HB := Lib.hid (hB.trans (hb.mono hB.size))
  clear hb hB t3 z3 fr fz hl0 hl1
  go_wp2_with fail
  exact bodyPost_ret (v := .tuple #[.agg #[.int .i64 0, .int .i64 0, .int .i64 0], .bool false]) (by simp [results, Try.results6, go_sem, r0, r1, r2]) rfl ⟨rfl, by (repeat refine Below.setCell ?_ (by simp) _); exact HB.out⟩

set_option maxHeartbeats 2000000 in
theorem implSet_var (x y z n : Int) (v : ByteArray) (w : World) (hm : v.size ≤ maxLen) (hst : st3 x y z = true) (hv : ¬ IsVar v) :
    Calls Try.prog 6 #[.agg #[.int .i64 x, .int .i64 y, .int .i64 z], .string v, .int .i64 n] w fun e w' => e = .returned (.tuple #[.agg #[.int .i64 0, .int .i64 0, .int .i64 0], .bool false]) ∧ Below w.heap.size w w' := by
  have K := fun w => Lib.hid (implIsVar_no v w hm hv)
  clear hv
  go_enter Try.func6, Try.ntmps6
  go_wp2_with fail
  have t3 : Box3 ((w.alloc (.cells #[.int .i64 x, .int .i64 y, .int .i64 z] 24)).alloc (.cells #[.int .i64 0, .int .i64 0, .int .i64 0] 24)) w.heap.size x y z := (Box3.new w x y z 24).alloc (by simp) _
  have z3 : Box3 ((w.alloc (.cells #[.int .i64 x, .int .i64 y, .int .i64 z] 24)).alloc (.cells #[.int .i64 0, .int .i64 0, .int .i64 0] 24)) (w.heap.size + 1) 0 0 0 := by
    have h := Box3.new (w.alloc (.cells #[.int .i64 x, .int .i64 y, .int .i64 z] 24)) 0 0 0 24
    simpa using h
  have fr : ∀ o, ((w.alloc (.cells #[.int .i64 x, .int .i64 y, .int .i64 z] 24)).alloc (.cells #[.int .i64 0, .int .i64 0, .int .i64 0] 24)).frozen? ⟨w.heap.size, o, none⟩ = false := fun o => by simp [go_sem]
  have fz : ∀ o, ((w.alloc (.cells #[.int .i64 x, .int .i64 y, .int .i64 z] 24)).alloc (.cells #[.int .i64 0, .int .i64 0, .int .i64 0] 24)).frozen? ⟨w.heap.size + 1, o, none⟩ = false := fun o => by simp [go_sem]
  have hB := ((Below.refl w.heap.size w).alloc (Nat.le_refl _) (.cells #[.int .i64 x, .int .i64 y, .int .i64 z] 24)).alloc (by simp) (.cells #[.int .i64 0, .int .i64 0, .int .i64 0] 24)
  generalize (w.alloc (.cells #[.int .i64 x, .int .i64 y, .int .i64 z] 24)).alloc (.cells #[.int .i64 0, .int .i64 0, .int .i64 0] 24) = w0 at *
  refine (implStateValid _ _ _ _).mono ?_
  rintro e w1 ⟨rfl, hb⟩
  have q0 := cell_keep' hb t3.1; have q1 := cell_keep' hb t3.2.1; have q2 := cell_keep' hb t3.2.2
  have r0 := cell_keep' hb z3.1; have r1 := cell_keep' hb z3.2.1; have r2 := cell_keep' hb z3.2.2
  have hl0 := cell_lt' t3.1; have hl1 := cell_lt' z3.1
  have f0 := (hb.frozen (p := ⟨w.heap.size, 0, none⟩) hl0).trans (fr 0); have f1 := (hb.frozen (p := ⟨w.heap.size, 1, none⟩) hl0).trans (fr 1); have f2 := (hb.frozen (p := ⟨w.heap.size, 2, none⟩) hl0).trans (fr 2)
  have g0 := (hb.frozen (p := ⟨w.heap.size + 1, 0, none⟩) hl1).trans (fz 0); have g1 := (hb.frozen (p := ⟨w.heap.size + 1, 1, none⟩) hl1).trans (fz 1); have g2 := (hb.frozen (p := ⟨w.heap.size + 1, 2, none⟩) hl1).trans (fz 2)
  have HB := Lib.hid (hB.trans (hb.mono hB.size))
  clear hb hB t3 z3 fr fz hl0 hl1
  go_wp2_with fail
  refine (K _).out.mono ?_
  rintro e w' ⟨rfl, rfl⟩
  go_wp2_with fail
  exact bodyPost_ret (v := .tuple #[.agg #[.int .i64 0, .int .i64 0, .int .i64 0], .bool false]) (by simp [results, Try.results6, go_sem, r0, r1, r2]) rfl ⟨rfl, by (repeat refine Below.setCell ?_ (by simp) _); exact HB.out⟩

set_option maxHeartbeats 2000000 in
theorem specSet_st (x y z n : Int) (v : ByteArray) (w : World) (hst : st3 x y z = false) :
    Calls Try.prog 4 #[.agg #[.int .i64 x, .int .i64 y, .int .i64 z], .string v, .int .i64 n] w fun e w' => e = .returned (.tuple #[.agg #[.int .i64 0, .int .i64 0, .int .i64 0], .bool false]) ∧ Below w.heap.size w w' := by
  go_enter Try.func4, Try.ntmps4
  go_wp2_with fail
  have t3 : Box3 ((w.alloc (.cells #[.int .i64 x, .int .i64 y, .int .i64 z] 24)).alloc (.cells #[.int .i64 0, .int .i64 0, .int .i64 0] 24)) w.heap.size x y z := (Box3.new w x y z 24).alloc (by simp) _
  have z3 : Box3 ((w.alloc (.cells #[.int .i64 x, .int .i64 y, .int .i64 z] 24)).alloc (.cells #[.int .i64 0, .int .i64 0, .int .i64 0] 24)) (w.heap.size + 1) 0 0 0 := by
    have h := Box3.new (w.alloc (.cells #[.int .i64 x, .int .i64 y, .int .i64 z] 24)) 0 0 0 24
    simpa using h
  have fr : ∀ o, ((w.alloc (.cells #[.int .i64 x, .int .i64 y, .int .i64 z] 24)).alloc (.cells #[.int .i64 0, .int .i64 0, .int .i64 0] 24)).frozen? ⟨w.heap.size, o, none⟩ = false := fun o => by simp [go_sem]
  have fz : ∀ o, ((w.alloc (.cells #[.int .i64 x, .int .i64 y, .int .i64 z] 24)).alloc (.cells #[.int .i64 0, .int .i64 0, .int .i64 0] 24)).frozen? ⟨w.heap.size + 1, o, none⟩ = false := fun o => by simp [go_sem]
  have hB := ((Below.refl w.heap.size w).alloc (Nat.le_refl _) (.cells #[.int .i64 x, .int .i64 y, .int .i64 z] 24)).alloc (by simp) (.cells #[.int .i64 0, .int .i64 0, .int .i64 0] 24)
  generalize (w.alloc (.cells #[.int .i64 x, .int .i64 y, .int .i64 z] 24)).alloc (.cells #[.int .i64 0, .int .i64 0, .int .i64 0] 24) = w0 at *
  refine (specStateValid _ _ _ _).mono ?_
  rintro e w1 ⟨rfl, hb⟩
  have q0 := cell_keep' hb t3.1; have q1 := cell_keep' hb t3.2.1; have q2 := cell_keep' hb t3.2.2
  have r0 := cell_keep' hb z3.1; have r1 := cell_keep' hb z3.2.1; have r2 := cell_keep' hb z3.2.2
  have hl0 := cell_lt' t3.1; have hl1 := cell_lt' z3.1
  have f0 := (hb.frozen (p := ⟨w.heap.size, 0, none⟩) hl0).trans (fr 0); have f1 := (hb.frozen (p := ⟨w.heap.size, 1, none⟩) hl0).trans (fr 1); have f2 := (hb.frozen (p := ⟨w.heap.size, 2, none⟩) hl0).trans (fr 2)
  have g0 := (hb.frozen (p := ⟨w.heap.size + 1, 0, none⟩) hl1).trans (fz 0); have g1 := (hb.frozen (p := ⟨w.heap.size + 1, 1, none⟩) hl1).trans (fz 1); have g2 := (hb.frozen (p := ⟨w.heap.size + 1, 2, none⟩) hl1).trans (fz 2)
  have HB := Lib.hid (hB.trans (hb.mono hB.size))
  clear hb hB t3 z3 fr fz hl0 hl1
  go_wp2_with fail
  exact bodyPost_ret (v := .tuple #[.agg #[.int .i64 0, .int .i64 0, .int .i64 0], .bool false]) (by simp [results, Try.results4, go_sem, r0, r1, r2]) rfl ⟨rfl, by (repeat refine Below.setCell ?_ (by simp) _); exact HB.out⟩

set_option maxHeartbeats 2000000 in
theorem specSet_var (x y z n : Int) (v : ByteArray) (w : World) (hm : v.size ≤ maxLen) (hst : st3 x y z = true) (hv : ¬ IsVar v) :
    Calls Try.prog 4 #[.agg #[.int .i64 x, .int .i64 y, .int .i64 z], .string v, .int .i64 n] w fun e w' => e = .returned (.tuple #[.agg #[.int .i64 0, .int .i64 0, .int .i64 0], .bool false]) ∧ Below w.heap.size w w' := by
  have K := fun w => Lib.hid (specVar_no v w hm hv)
  clear hv
  go_enter Try.func4, Try.ntmps4
  go_wp2_with fail
  have t3 : Box3 ((w.alloc (.cells #[.int .i64 x, .int .i64 y, .int .i64 z] 24)).alloc (.cells #[.int .i64 0, .int .i64 0, .int .i64 0] 24)) w.heap.size x y z := (Box3.new w x y z 24).alloc (by simp) _
  have z3 : Box3 ((w.alloc (.cells #[.int .i64 x, .int .i64 y, .int .i64 z] 24)).alloc (.cells #[.int .i64 0, .int .i64 0, .int .i64 0] 24)) (w.heap.size + 1) 0 0 0 := by
    have h := Box3.new (w.alloc (.cells #[.int .i64 x, .int .i64 y, .int .i64 z] 24)) 0 0 0 24
    simpa using h
  have fr : ∀ o, ((w.alloc (.cells #[.int .i64 x, .int .i64 y, .int .i64 z] 24)).alloc (.cells #[.int .i64 0, .int .i64 0, .int .i64 0] 24)).frozen? ⟨w.heap.size, o, none⟩ = false := fun o => by simp [go_sem]
  have fz : ∀ o, ((w.alloc (.cells #[.int .i64 x, .int .i64 y, .int .i64 z] 24)).alloc (.cells #[.int .i64 0, .int .i64 0, .int .i64 0] 24)).frozen? ⟨w.heap.size + 1, o, none⟩ = false := fun o => by simp [go_sem]
  have hB := ((Below.refl w.heap.size w).alloc (Nat.le_refl _) (.cells #[.int .i64 x, .int .i64 y, .int .i64 z] 24)).alloc (by simp) (.cells #[.int .i64 0, .int .i64 0, .int .i64 0] 24)
  generalize (w.alloc (.cells #[.int .i64 x, .int .i64 y, .int .i64 z] 24)).alloc (.cells #[.int .i64 0, .int .i64 0, .int .i64 0] 24) = w0 at *
  refine (specStateValid _ _ _ _).mono ?_
  rintro e w1 ⟨rfl, hb⟩
  have q0 := cell_keep' hb t3.1; have q1 := cell_keep' hb t3.2.1; have q2 := cell_keep' hb t3.2.2
  have r0 := cell_keep' hb z3.1; have r1 := cell_keep' hb z3.2.1; have r2 := cell_keep' hb z3.2.2
  have hl0 := cell_lt' t3.1; have hl1 := cell_lt' z3.1
  have f0 := (hb.frozen (p := ⟨w.heap.size, 0, none⟩) hl0).trans (fr 0); have f1 := (hb.frozen (p := ⟨w.heap.size, 1, none⟩) hl0).trans (fr 1); have f2 := (hb.frozen (p := ⟨w.heap.size, 2, none⟩) hl0).trans (fr 2)
  have g0 := (hb.frozen (p := ⟨w.heap.size + 1, 0, none⟩) hl1).trans (fz 0); have g1 := (hb.frozen (p := ⟨w.heap.size + 1, 1, none⟩) hl1).trans (fz 1); have g2 := (hb.frozen (p := ⟨w.heap.size + 1, 2, none⟩) hl1).trans (fz 2)
  have HB := Lib.hid (hB.trans (hb.mono hB.size))
  clear hb hB t3 z3 fr fz hl0 hl1
  go_wp2_with fail
  refine (K _).out.mono ?_
  rintro e w' ⟨rfl, rfl⟩
  go_wp2_with fail
  exact bodyPost_ret (v := .tuple #[.agg #[.int .i64 0, .int .i64 0, .int .i64 0], .bool false]) (by simp [results, Try.results4, go_sem, r0, r1, r2]) rfl ⟨rfl, by (repeat refine Below.setCell ?_ (by simp) _); exact HB.out⟩

set_option maxHeartbeats 2000000 in
theorem implSet_nx (x y z n : Int) (w : World) (hst : st3 x y z = true) (hn : val3 n = false) :
    Calls Try.prog 6 #[.agg #[.int .i64 x, .int .i64 y, .int .i64 z], .string ⟨#[120]⟩, .int .i64 n] w fun e w' => e = .returned (.tuple #[.agg #[.int .i64 0, .int .i64 0, .int .i64 0], .bool false]) ∧ Below w.heap.size w w' := by
  have K := fun w => Lib.hid (implIsVar_yes ⟨#[120]⟩ w (by simp [IsVar]))
  go_enter Try.func6, Try.ntmps6
  go_wp2_with fail
  have t3 : Box3 ((w.alloc (.cells #[.int .i64 x, .int .i64 y, .int .i64 z] 24)).alloc (.cells #[.int .i64 0, .int .i64 0, .int .i64 0] 24)) w.heap.size x y z := (Box3.new w x y z 24).alloc (by simp) _
  have z3 : Box3 ((w.alloc (.cells #[.int .i64 x, .int .i64 y, .int .i64 z] 24)).alloc (.cells #[.int .i64 0, .int .i64 0, .int .i64 0] 24)) (w.heap.size + 1) 0 0 0 := by
    have h := Box3.new (w.alloc (.cells #[.int .i64 x, .int .i64 y, .int .i64 z] 24)) 0 0 0 24
    simpa using h
  have fr : ∀ o, ((w.alloc (.cells #[.int .i64 x, .int .i64 y, .int .i64 z] 24)).alloc (.cells #[.int .i64 0, .int .i64 0, .int .i64 0] 24)).frozen? ⟨w.heap.size, o, none⟩ = false := fun o => by simp [go_sem]
  have fz : ∀ o, ((w.alloc (.cells #[.int .i64 x, .int .i64 y, .int .i64 z] 24)).alloc (.cells #[.int .i64 0, .int .i64 0, .int .i64 0] 24)).frozen? ⟨w.heap.size + 1, o, none⟩ = false := fun o => by simp [go_sem]
  have hB := ((Below.refl w.heap.size w).alloc (Nat.le_refl _) (.cells #[.int .i64 x, .int .i64 y, .int .i64 z] 24)).alloc (by simp) (.cells #[.int .i64 0, .int .i64 0, .int .i64 0] 24)
  generalize (w.alloc (.cells #[.int .i64 x, .int .i64 y, .int .i64 z] 24)).alloc (.cells #[.int .i64 0, .int .i64 0, .int .i64 0] 24) = w0 at *
  refine (implStateValid _ _ _ _).mono ?_
  rintro e w1 ⟨rfl, hb⟩
  have q0 := cell_keep' hb t3.1; have q1 := cell_keep' hb t3.2.1; have q2 := cell_keep' hb t3.2.2
  have r0 := cell_keep' hb z3.1; have r1 := cell_keep' hb z3.2.1; have r2 := cell_keep' hb z3.2.2
  have hl0 := cell_lt' t3.1; have hl1 := cell_lt' z3.1
  have f0 := (hb.frozen (p := ⟨w.heap.size, 0, none⟩) hl0).trans (fr 0); have f1 := (hb.frozen (p := ⟨w.heap.size, 1, none⟩) hl0).trans (fr 1); have f2 := (hb.frozen (p := ⟨w.heap.size, 2, none⟩) hl0).trans (fr 2)
  have g0 := (hb.frozen (p := ⟨w.heap.size + 1, 0, none⟩) hl1).trans (fz 0); have g1 := (hb.frozen (p := ⟨w.heap.size + 1, 1, none⟩) hl1).trans (fz 1); have g2 := (hb.frozen (p := ⟨w.heap.size + 1, 2, none⟩) hl1).trans (fz 2)
  have HB := Lib.hid (hB.trans (hb.mono hB.size))
  clear hb hB t3 z3 fr fz hl0 hl1
  go_wp2_with fail
  refine (K _).out.mono ?_
  rintro e w' ⟨rfl, rfl⟩
  go_wp2_with fail
  refine (implIsValue _ _).mono ?_
  rintro e w' ⟨rfl, rfl⟩
  go_wp2_with fail
  exact bodyPost_ret (v := .tuple #[.agg #[.int .i64 0, .int .i64 0, .int .i64 0], .bool false]) (by simp [results, Try.results6, go_sem, r0, r1, r2]) rfl ⟨rfl, by (repeat refine Below.setCell ?_ (by simp) _); exact HB.out⟩

set_option maxHeartbeats 2000000 in
theorem specSet_nx (x y z n : Int) (w : World) (hst : st3 x y z = true) (hn : val3 n = false) :
    Calls Try.prog 4 #[.agg #[.int .i64 x, .int .i64 y, .int .i64 z], .string ⟨#[120]⟩, .int .i64 n] w fun e w' => e = .returned (.tuple #[.agg #[.int .i64 0, .int .i64 0, .int .i64 0], .bool false]) ∧ Below w.heap.size w w' := by
  have K := fun w => Lib.hid (specVar_yes 120 0 w (by simp))
  go_enter Try.func4, Try.ntmps4
  go_wp2_with fail
  have t3 : Box3 ((w.alloc (.cells #[.int .i64 x, .int .i64 y, .int .i64 z] 24)).alloc (.cells #[.int .i64 0, .int .i64 0, .int .i64 0] 24)) w.heap.size x y z := (Box3.new w x y z 24).alloc (by simp) _
  have z3 : Box3 ((w.alloc (.cells #[.int .i64 x, .int .i64 y, .int .i64 z] 24)).alloc (.cells #[.int .i64 0, .int .i64 0, .int .i64 0] 24)) (w.heap.size + 1) 0 0 0 := by
    have h := Box3.new (w.alloc (.cells #[.int .i64 x, .int .i64 y, .int .i64 z] 24)) 0 0 0 24
    simpa using h
  have fr : ∀ o, ((w.alloc (.cells #[.int .i64 x, .int .i64 y, .int .i64 z] 24)).alloc (.cells #[.int .i64 0, .int .i64 0, .int .i64 0] 24)).frozen? ⟨w.heap.size, o, none⟩ = false := fun o => by simp [go_sem]
  have fz : ∀ o, ((w.alloc (.cells #[.int .i64 x, .int .i64 y, .int .i64 z] 24)).alloc (.cells #[.int .i64 0, .int .i64 0, .int .i64 0] 24)).frozen? ⟨w.heap.size + 1, o, none⟩ = false := fun o => by simp [go_sem]
  have hB := ((Below.refl w.heap.size w).alloc (Nat.le_refl _) (.cells #[.int .i64 x, .int .i64 y, .int .i64 z] 24)).alloc (by simp) (.cells #[.int .i64 0, .int .i64 0, .int .i64 0] 24)
  generalize (w.alloc (.cells #[.int .i64 x, .int .i64 y, .int .i64 z] 24)).alloc (.cells #[.int .i64 0, .int .i64 0, .int .i64 0] 24) = w0 at *
  refine (specStateValid _ _ _ _).mono ?_
  rintro e w1 ⟨rfl, hb⟩
  have q0 := cell_keep' hb t3.1; have q1 := cell_keep' hb t3.2.1; have q2 := cell_keep' hb t3.2.2
  have r0 := cell_keep' hb z3.1; have r1 := cell_keep' hb z3.2.1; have r2 := cell_keep' hb z3.2.2
  have hl0 := cell_lt' t3.1; have hl1 := cell_lt' z3.1
  have f0 := (hb.frozen (p := ⟨w.heap.size, 0, none⟩) hl0).trans (fr 0); have f1 := (hb.frozen (p := ⟨w.heap.size, 1, none⟩) hl0).trans (fr 1); have f2 := (hb.frozen (p := ⟨w.heap.size, 2, none⟩) hl0).trans (fr 2)
  have g0 := (hb.frozen (p := ⟨w.heap.size + 1, 0, none⟩) hl1).trans (fz 0); have g1 := (hb.frozen (p := ⟨w.heap.size + 1, 1, none⟩) hl1).trans (fz 1); have g2 := (hb.frozen (p := ⟨w.heap.size + 1, 2, none⟩) hl1).trans (fz 2)
  have HB := Lib.hid (hB.trans (hb.mono hB.size))
  clear hb hB t3 z3 fr fz hl0 hl1
  go_wp2_with fail
  refine (K _).out.mono ?_
  rintro e w' ⟨rfl, rfl⟩
  go_wp2_with fail
  refine (specIn _ _).mono ?_
  rintro e w' ⟨rfl, rfl⟩
  go_wp2_with fail
  exact bodyPost_ret (v := .tuple #[.agg #[.int .i64 0, .int .i64 0, .int .i64 0], .bool false]) (by simp [results, Try.results4, go_sem, r0, r1, r2]) rfl ⟨rfl, by (repeat refine Below.setCell ?_ (by simp) _); exact HB.out⟩

set_option maxHeartbeats 2000000 in
theorem implSet_ny (x y z n : Int) (w : World) (hst : st3 x y z = true) (hn : val3 n = false) :
    Calls Try.prog 6 #[.agg #[.int .i64 x, .int .i64 y, .int .i64 z], .string ⟨#[121]⟩, .int .i64 n] w fun e w' => e = .returned (.tuple #[.agg #[.int .i64 0, .int .i64 0, .int .i64 0], .bool false]) ∧ Below w.heap.size w w' := by
  have K := fun w => Lib.hid (implIsVar_yes ⟨#[121]⟩ w (by simp [IsVar]))
  go_enter Try.func6, Try.ntmps6
  go_wp2_with fail
  have t3 : Box3 ((w.alloc (.cells #[.int .i64 x, .int .i64 y, .int .i64 z] 24)).alloc (.cells #[.int .i64 0, .int .i64 0, .int .i64 0] 24)) w.heap.size x y z := (Box3.new w x y z 24).alloc (by simp) _
  have z3 : Box3 ((w.alloc (.cells #[.int .i64 x, .int .i64 y, .int .i64 z] 24)).alloc (.cells #[.int .i64 0, .int .i64 0, .int .i64 0] 24)) (w.heap.size + 1) 0 0 0 := by
    have h := Box3.new (w.alloc (.cells #[.int .i64 x, .int .i64 y, .int .i64 z] 24)) 0 0 0 24
    simpa using h
  have fr : ∀ o, ((w.alloc (.cells #[.int .i64 x, .int .i64 y, .int .i64 z] 24)).alloc (.cells #[.int .i64 0, .int .i64 0, .int .i64 0] 24)).frozen? ⟨w.heap.size, o, none⟩ = false := fun o => by simp [go_sem]
  have fz : ∀ o, ((w.alloc (.cells #[.int .i64 x, .int .i64 y, .int .i64 z] 24)).alloc (.cells #[.int .i64 0, .int .i64 0, .int .i64 0] 24)).frozen? ⟨w.heap.size + 1, o, none⟩ = false := fun o => by simp [go_sem]
  have hB := ((Below.refl w.heap.size w).alloc (Nat.le_refl _) (.cells #[.int .i64 x, .int .i64 y, .int .i64 z] 24)).alloc (by simp) (.cells #[.int .i64 0, .int .i64 0, .int .i64 0] 24)
  generalize (w.alloc (.cells #[.int .i64 x, .int .i64 y, .int .i64 z] 24)).alloc (.cells #[.int .i64 0, .int .i64 0, .int .i64 0] 24) = w0 at *
  refine (implStateValid _ _ _ _).mono ?_
  rintro e w1 ⟨rfl, hb⟩
  have q0 := cell_keep' hb t3.1; have q1 := cell_keep' hb t3.2.1; have q2 := cell_keep' hb t3.2.2
  have r0 := cell_keep' hb z3.1; have r1 := cell_keep' hb z3.2.1; have r2 := cell_keep' hb z3.2.2
  have hl0 := cell_lt' t3.1; have hl1 := cell_lt' z3.1
  have f0 := (hb.frozen (p := ⟨w.heap.size, 0, none⟩) hl0).trans (fr 0); have f1 := (hb.frozen (p := ⟨w.heap.size, 1, none⟩) hl0).trans (fr 1); have f2 := (hb.frozen (p := ⟨w.heap.size, 2, none⟩) hl0).trans (fr 2)
  have g0 := (hb.frozen (p := ⟨w.heap.size + 1, 0, none⟩) hl1).trans (fz 0); have g1 := (hb.frozen (p := ⟨w.heap.size + 1, 1, none⟩) hl1).trans (fz 1); have g2 := (hb.frozen (p := ⟨w.heap.size + 1, 2, none⟩) hl1).trans (fz 2)
  have HB := Lib.hid (hB.trans (hb.mono hB.size))
  clear hb hB t3 z3 fr fz hl0 hl1
  go_wp2_with fail
  refine (K _).out.mono ?_
  rintro e w' ⟨rfl, rfl⟩
  go_wp2_with fail
  refine (implIsValue _ _).mono ?_
  rintro e w' ⟨rfl, rfl⟩
  go_wp2_with fail
  exact bodyPost_ret (v := .tuple #[.agg #[.int .i64 0, .int .i64 0, .int .i64 0], .bool false]) (by simp [results, Try.results6, go_sem, r0, r1, r2]) rfl ⟨rfl, by (repeat refine Below.setCell ?_ (by simp) _); exact HB.out⟩

set_option maxHeartbeats 2000000 in
theorem specSet_ny (x y z n : Int) (w : World) (hst : st3 x y z = true) (hn : val3 n = false) :
    Calls Try.prog 4 #[.agg #[.int .i64 x, .int .i64 y, .int .i64 z], .string ⟨#[121]⟩, .int .i64 n] w fun e w' => e = .returned (.tuple #[.agg #[.int .i64 0, .int .i64 0, .int .i64 0], .bool false]) ∧ Below w.heap.size w w' := by
  have K := fun w => Lib.hid (specVar_yes 121 1 w (by simp))
  go_enter Try.func4, Try.ntmps4
  go_wp2_with fail
  have t3 : Box3 ((w.alloc (.cells #[.int .i64 x, .int .i64 y, .int .i64 z] 24)).alloc (.cells #[.int .i64 0, .int .i64 0, .int .i64 0] 24)) w.heap.size x y z := (Box3.new w x y z 24).alloc (by simp) _
  have z3 : Box3 ((w.alloc (.cells #[.int .i64 x, .int .i64 y, .int .i64 z] 24)).alloc (.cells #[.int .i64 0, .int .i64 0, .int .i64 0] 24)) (w.heap.size + 1) 0 0 0 := by
    have h := Box3.new (w.alloc (.cells #[.int .i64 x, .int .i64 y, .int .i64 z] 24)) 0 0 0 24
    simpa using h
  have fr : ∀ o, ((w.alloc (.cells #[.int .i64 x, .int .i64 y, .int .i64 z] 24)).alloc (.cells #[.int .i64 0, .int .i64 0, .int .i64 0] 24)).frozen? ⟨w.heap.size, o, none⟩ = false := fun o => by simp [go_sem]
  have fz : ∀ o, ((w.alloc (.cells #[.int .i64 x, .int .i64 y, .int .i64 z] 24)).alloc (.cells #[.int .i64 0, .int .i64 0, .int .i64 0] 24)).frozen? ⟨w.heap.size + 1, o, none⟩ = false := fun o => by simp [go_sem]
  have hB := ((Below.refl w.heap.size w).alloc (Nat.le_refl _) (.cells #[.int .i64 x, .int .i64 y, .int .i64 z] 24)).alloc (by simp) (.cells #[.int .i64 0, .int .i64 0, .int .i64 0] 24)
  generalize (w.alloc (.cells #[.int .i64 x, .int .i64 y, .int .i64 z] 24)).alloc (.cells #[.int .i64 0, .int .i64 0, .int .i64 0] 24) = w0 at *
  refine (specStateValid _ _ _ _).mono ?_
  rintro e w1 ⟨rfl, hb⟩
  have q0 := cell_keep' hb t3.1; have q1 := cell_keep' hb t3.2.1; have q2 := cell_keep' hb t3.2.2
  have r0 := cell_keep' hb z3.1; have r1 := cell_keep' hb z3.2.1; have r2 := cell_keep' hb z3.2.2
  have hl0 := cell_lt' t3.1; have hl1 := cell_lt' z3.1
  have f0 := (hb.frozen (p := ⟨w.heap.size, 0, none⟩) hl0).trans (fr 0); have f1 := (hb.frozen (p := ⟨w.heap.size, 1, none⟩) hl0).trans (fr 1); have f2 := (hb.frozen (p := ⟨w.heap.size, 2, none⟩) hl0).trans (fr 2)
  have g0 := (hb.frozen (p := ⟨w.heap.size + 1, 0, none⟩) hl1).trans (fz 0); have g1 := (hb.frozen (p := ⟨w.heap.size + 1, 1, none⟩) hl1).trans (fz 1); have g2 := (hb.frozen (p := ⟨w.heap.size + 1, 2, none⟩) hl1).trans (fz 2)
  have HB := Lib.hid (hB.trans (hb.mono hB.size))
  clear hb hB t3 z3 fr fz hl0 hl1
  go_wp2_with fail
  refine (K _).out.mono ?_
  rintro e w' ⟨rfl, rfl⟩
  go_wp2_with fail
  refine (specIn _ _).mono ?_
  rintro e w' ⟨rfl, rfl⟩
  go_wp2_with fail
  exact bodyPost_ret (v := .tuple #[.agg #[.int .i64 0, .int .i64 0, .int .i64 0], .bool false]) (by simp [results, Try.results4, go_sem, r0, r1, r2]) rfl ⟨rfl, by (repeat refine Below.setCell ?_ (by simp) _); exact HB.out⟩

set_option maxHeartbeats 2000000 in
theorem implSet_nz (x y z n : Int) (w : World) (hst : st3 x y z = true) (hn : val3 n = false) :
    Calls Try.prog 6 #[.agg #[.int .i64 x, .int .i64 y, .int .i64 z], .string ⟨#[122]⟩, .int .i64 n] w fun e w' => e = .returned (.tuple #[.agg #[.int .i64 0, .int .i64 0, .int .i64 0], .bool false]) ∧ Below w.heap.size w w' := by
  have K := fun w => Lib.hid (implIsVar_yes ⟨#[122]⟩ w (by simp [IsVar]))
  go_enter Try.func6, Try.ntmps6
  go_wp2_with fail
  have t3 : Box3 ((w.alloc (.cells #[.int .i64 x, .int .i64 y, .int .i64 z] 24)).alloc (.cells #[.int .i64 0, .int .i64 0, .int .i64 0] 24)) w.heap.size x y z := (Box3.new w x y z 24).alloc (by simp) _
  have z3 : Box3 ((w.alloc (.cells #[.int .i64 x, .int .i64 y, .int .i64 z] 24)).alloc (.cells #[.int .i64 0, .int .i64 0, .int .i64 0] 24)) (w.heap.size + 1) 0 0 0 := by
    have h := Box3.new (w.alloc (.cells #[.int .i64 x, .int .i64 y, .int .i64 z] 24)) 0 0 0 24
    simpa using h
  have fr : ∀ o, ((w.alloc (.cells #[.int .i64 x, .int .i64 y, .int .i64 z] 24)).alloc (.cells #[.int .i64 0, .int .i64 0, .int .i64 0] 24)).frozen? ⟨w.heap.size, o, none⟩ = false := fun o => by simp [go_sem]
  have fz : ∀ o, ((w.alloc (.cells #[.int .i64 x, .int .i64 y, .int .i64 z] 24)).alloc (.cells #[.int .i64 0, .int .i64 0, .int .i64 0] 24)).frozen? ⟨w.heap.size + 1, o, none⟩ = false := fun o => by simp [go_sem]
  have hB := ((Below.refl w.heap.size w).alloc (Nat.le_refl _) (.cells #[.int .i64 x, .int .i64 y, .int .i64 z] 24)).alloc (by simp) (.cells #[.int .i64 0, .int .i64 0, .int .i64 0] 24)
  generalize (w.alloc (.cells #[.int .i64 x, .int .i64 y, .int .i64 z] 24)).alloc (.cells #[.int .i64 0, .int .i64 0, .int .i64 0] 24) = w0 at *
  refine (implStateValid _ _ _ _).mono ?_
  rintro e w1 ⟨rfl, hb⟩
  have q0 := cell_keep' hb t3.1; have q1 := cell_keep' hb t3.2.1; have q2 := cell_keep' hb t3.2.2
  have r0 := cell_keep' hb z3.1; have r1 := cell_keep' hb z3.2.1; have r2 := cell_keep' hb z3.2.2
  have hl0 := cell_lt' t3.1; have hl1 := cell_lt' z3.1
  have f0 := (hb.frozen (p := ⟨w.heap.size, 0, none⟩) hl0).trans (fr 0); have f1 := (hb.frozen (p := ⟨w.heap.size, 1, none⟩) hl0).trans (fr 1); have f2 := (hb.frozen (p := ⟨w.heap.size, 2, none⟩) hl0).trans (fr 2)
  have g0 := (hb.frozen (p := ⟨w.heap.size + 1, 0, none⟩) hl1).trans (fz 0); have g1 := (hb.frozen (p := ⟨w.heap.size + 1, 1, none⟩) hl1).trans (fz 1); have g2 := (hb.frozen (p := ⟨w.heap.size + 1, 2, none⟩) hl1).trans (fz 2)
  have HB := Lib.hid (hB.trans (hb.mono hB.size))
  clear hb hB t3 z3 fr fz hl0 hl1
  go_wp2_with fail
  refine (K _).out.mono ?_
  rintro e w' ⟨rfl, rfl⟩
  go_wp2_with fail
  refine (implIsValue _ _).mono ?_
  rintro e w' ⟨rfl, rfl⟩
  go_wp2_with fail
  exact bodyPost_ret (v := .tuple #[.agg #[.int .i64 0, .int .i64 0, .int .i64 0], .bool false]) (by simp [results, Try.results6, go_sem, r0, r1, r2]) rfl ⟨rfl, by (repeat refine Below.setCell ?_ (by simp) _); exact HB.out⟩

set_option maxHeartbeats 2000000 in
theorem specSet_nz (x y z n : Int) (w : World) (hst : st3 x y z = true) (hn : val3 n = false) :
    Calls Try.prog 4 #[.agg #[.int .i64 x, .int .i64 y, .int .i64 z], .string ⟨#[122]⟩, .int .i64 n] w fun e w' => e = .returned (.tuple #[.agg #[.int .i64 0, .int .i64 0, .int .i64 0], .bool false]) ∧ Below w.heap.size w w' := by
  have K := fun w => Lib.hid (specVar_yes 122 2 w (by simp))
  go_enter Try.func4, Try.ntmps4
  go_wp2_with fail
  have t3 : Box3 ((w.alloc (.cells #[.int .i64 x, .int .i64 y, .int .i64 z] 24)).alloc (.cells #[.int .i64 0, .int .i64 0, .int .i64 0] 24)) w.heap.size x y z := (Box3.new w x y z 24).alloc (by simp) _
  have z3 : Box3 ((w.alloc (.cells #[.int .i64 x, .int .i64 y, .int .i64 z] 24)).alloc (.cells #[.int .i64 0, .int .i64 0, .int .i64 0] 24)) (w.heap.size + 1) 0 0 0 := by
    have h := Box3.new (w.alloc (.cells #[.int .i64 x, .int .i64 y, .int .i64 z] 24)) 0 0 0 24
    simpa using h
  have fr : ∀ o, ((w.alloc (.cells #[.int .i64 x, .int .i64 y, .int .i64 z] 24)).alloc (.cells #[.int .i64 0, .int .i64 0, .int .i64 0] 24)).frozen? ⟨w.heap.size, o, none⟩ = false := fun o => by simp [go_sem]
  have fz : ∀ o, ((w.alloc (.cells #[.int .i64 x, .int .i64 y, .int .i64 z] 24)).alloc (.cells #[.int .i64 0, .int .i64 0, .int .i64 0] 24)).frozen? ⟨w.heap.size + 1, o, none⟩ = false := fun o => by simp [go_sem]
  have hB := ((Below.refl w.heap.size w).alloc (Nat.le_refl _) (.cells #[.int .i64 x, .int .i64 y, .int .i64 z] 24)).alloc (by simp) (.cells #[.int .i64 0, .int .i64 0, .int .i64 0] 24)
  generalize (w.alloc (.cells #[.int .i64 x, .int .i64 y, .int .i64 z] 24)).alloc (.cells #[.int .i64 0, .int .i64 0, .int .i64 0] 24) = w0 at *
  refine (specStateValid _ _ _ _).mono ?_
  rintro e w1 ⟨rfl, hb⟩
  have q0 := cell_keep' hb t3.1; have q1 := cell_keep' hb t3.2.1; have q2 := cell_keep' hb t3.2.2
  have r0 := cell_keep' hb z3.1; have r1 := cell_keep' hb z3.2.1; have r2 := cell_keep' hb z3.2.2
  have hl0 := cell_lt' t3.1; have hl1 := cell_lt' z3.1
  have f0 := (hb.frozen (p := ⟨w.heap.size, 0, none⟩) hl0).trans (fr 0); have f1 := (hb.frozen (p := ⟨w.heap.size, 1, none⟩) hl0).trans (fr 1); have f2 := (hb.frozen (p := ⟨w.heap.size, 2, none⟩) hl0).trans (fr 2)
  have g0 := (hb.frozen (p := ⟨w.heap.size + 1, 0, none⟩) hl1).trans (fz 0); have g1 := (hb.frozen (p := ⟨w.heap.size + 1, 1, none⟩) hl1).trans (fz 1); have g2 := (hb.frozen (p := ⟨w.heap.size + 1, 2, none⟩) hl1).trans (fz 2)
  have HB := Lib.hid (hB.trans (hb.mono hB.size))
  clear hb hB t3 z3 fr fz hl0 hl1
  go_wp2_with fail
  refine (K _).out.mono ?_
  rintro e w' ⟨rfl, rfl⟩
  go_wp2_with fail
  refine (specIn _ _).mono ?_
  rintro e w' ⟨rfl, rfl⟩
  go_wp2_with fail
  exact bodyPost_ret (v := .tuple #[.agg #[.int .i64 0, .int .i64 0, .int .i64 0], .bool false]) (by simp [results, Try.results4, go_sem, r0, r1, r2]) rfl ⟨rfl, by (repeat refine Below.setCell ?_ (by simp) _); exact HB.out⟩

set_option maxHeartbeats 1000000 in
theorem specOneS (x y z : Int) (w : World) : Calls Try.prog 13 #[.agg #[.int .i64 x, .int .i64 y, .int .i64 z]] w fun e w' => e = .returned (.agg #[.int .i64 x, .int .i64 y, .int .i64 z, .int .i64 0, .int .i64 0, .int .i64 0]) ∧ Below w.heap.size w w' := by
  go_enter Try.func13, Try.ntmps13
  go_wp2_with fail
  exact bodyPost_ret (v := .agg #[.int .i64 x, .int .i64 y, .int .i64 z, .int .i64 0, .int .i64 0, .int .i64 0]) (by simp [results, Try.results13, go_sem]) rfl ⟨rfl, ((Below.refl _ _).alloc (Nat.le_refl _) _).alloc (by simp) _⟩

set_option maxHeartbeats 1000000 in
theorem specStateS (e0 e1 e2 e3 e4 e5 : Int) (w : World) : Calls Try.prog 11 #[.agg #[.int .i64 e0, .int .i64 e1, .int .i64 e2, .int .i64 e3, .int .i64 e4, .int .i64 e5]] w fun e w' => e = .returned (.agg #[.int .i64 e0, .int .i64 e1, .int .i64 e2]) ∧ Below w.heap.size w w' := by
  go_enter Try.func11, Try.ntmps11
  go_wp2_with fail
  exact bodyPost_ret (v := .agg #[.int .i64 e0, .int .i64 e1, .int .i64 e2]) (by simp [results, Try.results11, go_sem]) rfl ⟨rfl, ((Below.refl _ _).alloc (Nat.le_refl _) _).alloc (by simp) _⟩

set_option maxHeartbeats 1000000 in
theorem specSetS0 (e0 e1 e2 e3 e4 e5 n : Int) (w : World) : Calls Try.prog 12 #[.agg #[.int .i64 e0, .int .i64 e1, .int .i64 e2, .int .i64 e3, .int .i64 e4, .int .i64 e5], .int .i64 0, .int .i64 n] w fun e w' => e = .returned (.agg #[.int .i64 n, .int .i64 e1, .int .i64 e2, .int .i64 e3, .int .i64 e4, .int .i64 e5]) ∧ Below w.heap.size w w' := by
  go_enter Try.func12, Try.ntmps12
  go_wp2_with fail
  exact bodyPost_ret (v := .agg #[.int .i64 n, .int .i64 e1, .int .i64 e2, .int .i64 e3, .int .i64 e4, .int .i64 e5]) (by simp [results, Try.results12, go_sem]) rfl ⟨rfl, ((Below.refl _ _).alloc (Nat.le_refl _) _).alloc (by simp) _⟩

set_option maxHeartbeats 1000000 in
theorem specSetS1 (e0 e1 e2 e3 e4 e5 n : Int) (w : World) : Calls Try.prog 12 #[.agg #[.int .i64 e0, .int .i64 e1, .int .i64 e2, .int .i64 e3, .int .i64 e4, .int .i64 e5], .int .i64 1, .int .i64 n] w fun e w' => e = .returned (.agg #[.int .i64 e0, .int .i64 n, .int .i64 e2, .int .i64 e3, .int .i64 e4, .int .i64 e5]) ∧ Below w.heap.size w w' := by
  go_enter Try.func12, Try.ntmps12
  go_wp2_with fail
  exact bodyPost_ret (v := .agg #[.int .i64 e0, .int .i64 n, .int .i64 e2, .int .i64 e3, .int .i64 e4, .int .i64 e5]) (by simp [results, Try.results12, go_sem]) rfl ⟨rfl, ((Below.refl _ _).alloc (Nat.le_refl _) _).alloc (by simp) _⟩

set_option maxHeartbeats 1000000 in
theorem specSetS2 (e0 e1 e2 e3 e4 e5 n : Int) (w : World) : Calls Try.prog 12 #[.agg #[.int .i64 e0, .int .i64 e1, .int .i64 e2, .int .i64 e3, .int .i64 e4, .int .i64 e5], .int .i64 2, .int .i64 n] w fun e w' => e = .returned (.agg #[.int .i64 e0, .int .i64 e1, .int .i64 n, .int .i64 e3, .int .i64 e4, .int .i64 e5]) ∧ Below w.heap.size w w' := by
  go_enter Try.func12, Try.ntmps12
  go_wp2_with fail
  exact bodyPost_ret (v := .agg #[.int .i64 e0, .int .i64 e1, .int .i64 n, .int .i64 e3, .int .i64 e4, .int .i64 e5]) (by simp [results, Try.results12, go_sem]) rfl ⟨rfl, ((Below.refl _ _).alloc (Nat.le_refl _) _).alloc (by simp) _⟩

set_option maxHeartbeats 2000000 in
theorem specSet_x (x y z n : Int) (w : World) (hst : st3 x y z = true) (hn : val3 n = true) :
    Calls Try.prog 4 #[.agg #[.int .i64 x, .int .i64 y, .int .i64 z], .string ⟨#[120]⟩, .int .i64 n] w fun e w' => e = .returned (.tuple #[.agg #[.int .i64 n, .int .i64 y, .int .i64 z], .bool true]) ∧ Below w.heap.size w w' := by
  have K := fun w => Lib.hid (specVar_yes 120 0 w (by simp))
  go_enter Try.func4, Try.ntmps4
  go_wp2_with fail
  have t3 : Box3 ((w.alloc (.cells #[.int .i64 x, .int .i64 y, .int .i64 z] 24)).alloc (.cells #[.int .i64 0, .int .i64 0, .int .i64 0] 24)) w.heap.size x y z := (Box3.new w x y z 24).alloc (by simp) _
  have z3 : Box3 ((w.alloc (.cells #[.int .i64 x, .int .i64 y, .int .i64 z] 24)).alloc (.cells #[.int .i64 0, .int .i64 0, .int .i64 0] 24)) (w.heap.size + 1) 0 0 0 := by
    have h := Box3.new (w.alloc (.cells #[.int .i64 x, .int .i64 y, .int .i64 z] 24)) 0 0 0 24
    simpa using h
  have fr : ∀ o, ((w.alloc (.cells #[.int .i64 x, .int .i64 y, .int .i64 z] 24)).alloc (.cells #[.int .i64 0, .int .i64 0, .int .i64 0] 24)).frozen? ⟨w.heap.size, o, none⟩ = false := fun o => by simp [go_sem]
  have fz : ∀ o, ((w.alloc (.cells #[.int .i64 x, .int .i64 y, .int .i64 z] 24)).alloc (.cells #[.int .i64 0, .int .i64 0, .int .i64 0] 24)).frozen? ⟨w.heap.size + 1, o, none⟩ = false := fun o => by simp [go_sem]
  have hB := ((Below.refl w.heap.size w).alloc (Nat.le_refl _) (.cells #[.int .i64 x, .int .i64 y, .int .i64 z] 24)).alloc (by simp) (.cells #[.int .i64 0, .int .i64 0, .int .i64 0] 24)
  generalize (w.alloc (.cells #[.int .i64 x, .int .i64 y, .int .i64 z] 24)).alloc (.cells #[.int .i64 0, .int .i64 0, .int .i64 0] 24) = w0 at *
  refine (specStateValid _ _ _ _).mono ?_
  rintro e w1 ⟨rfl, hb⟩
  have q0 := cell_keep' hb t3.1; have q1 := cell_keep' hb t3.2.1; have q2 := cell_keep' hb t3.2.2
  have r0 := cell_keep' hb z3.1; have r1 := cell_keep' hb z3.2.1; have r2 := cell_keep' hb z3.2.2
  have hl0 := cell_lt' t3.1; have hl1 := cell_lt' z3.1
  have f0 := (hb.frozen (p := ⟨w.heap.size, 0, none⟩) hl0).trans (fr 0); have f1 := (hb.frozen (p := ⟨w.heap.size, 1, none⟩) hl0).trans (fr 1); have f2 := (hb.frozen (p := ⟨w.heap.size, 2, none⟩) hl0).trans (fr 2)
  have g0 := (hb.frozen (p := ⟨w.heap.size + 1, 0, none⟩) hl1).trans (fz 0); have g1 := (hb.frozen (p := ⟨w.heap.size + 1, 1, none⟩) hl1).trans (fz 1); have g2 := (hb.frozen (p := ⟨w.heap.size + 1, 2, none⟩) hl1).trans (fz 2)
  have HB := Lib.hid (hB.trans (hb.mono hB.size))
  clear hb hB t3 z3 fr fz hl0 hl1
  go_wp2_with fail
  refine (K _).out.mono ?_
  rintro e w' ⟨rfl, rfl⟩
  go_wp2_with fail
  refine (specIn _ _).mono ?_
  rintro e w' ⟨rfl, rfl⟩
  go_wp2_with fail
  refine (specOneS _ _ _ _).mono ?_
  rintro e w2 ⟨rfl, hb⟩
  have p0 := cell_keep' hb r0; have p1 := cell_keep' hb r1; have p2 := cell_keep' hb r2
  have hl := cell_lt' r0
  have f0 := (hb.frozen (p := ⟨w.heap.size + 1, 0, none⟩) hl).trans g0; have f1 := (hb.frozen (p := ⟨w.heap.size + 1, 1, none⟩) hl).trans g1; have f2 := (hb.frozen (p := ⟨w.heap.size + 1, 2, none⟩) hl).trans g2
  have HB2 := Lib.hid (HB.out.trans (hb.mono HB.out.size))
  clear hb r0 r1 r2 g0 g1 g2 hl q0 q1 q2
  go_wp2_with fail
  refine (K _).out.mono ?_
  rintro e w' ⟨rfl, rfl⟩
  go_wp2_with fail
  refine (specSetS0 _ _ _ _ _ _ _ _).mono ?_
  rintro e w3 ⟨rfl, hb⟩
  have r0 := cell_keep' hb p0; have r1 := cell_keep' hb p1; have r2 := cell_keep' hb p2
  have hl := cell_lt' p0
  have g0 := (hb.frozen (p := ⟨w.heap.size + 1, 0, none⟩) hl).trans f0; have g1 := (hb.frozen (p := ⟨w.heap.size + 1, 1, none⟩) hl).trans f1; have g2 := (hb.frozen (p := ⟨w.heap.size + 1, 2, none⟩) hl).trans f2
  have HB3 := Lib.hid (HB2.out.trans (hb.mono HB2.out.size))
  clear hb p0 p1 p2 f0 f1 f2 hl
  go_wp2_with fail
  refine (specStateS _ _ _ _ _ _ _).mono ?_
  rintro e w4 ⟨rfl, hb⟩
  have p0 := cell_keep' hb r0; have p1 := cell_keep' hb r1; have p2 := cell_keep' hb r2
  have hl := cell_lt' r0
  have f0 := (hb.frozen (p := ⟨w.heap.size + 1, 0, none⟩) hl).trans g0; have f1 := (hb.frozen (p := ⟨w.heap.size + 1, 1, none⟩) hl).trans g1; have f2 := (hb.frozen (p := ⟨w.heap.size + 1, 2, none⟩) hl).trans g2
  have HB4 := Lib.hid (HB3.out.trans (hb.mono HB3.out.size))
  clear hb r0 r1 r2 g0 g1 g2 hl
  go_wp2_with fail
  exact bodyPost_ret (v := .tuple #[.agg #[.int .i64 n, .int .i64 y, .int .i64 z], .bool true]) (by simp [results, Try.results4, go_sem, p0, p1, p2]) rfl ⟨rfl, by (repeat refine Below.setCell ?_ (by simp) _); exact HB4.out⟩

set_option maxHeartbeats 2000000 in
theorem specSet_y (x y z n : Int) (w : World) (hst : st3 x y z = true) (hn : val3 n = true) :
    Calls Try.prog 4 #[.agg #[.int .i64 x, .int .i64 y, .int .i64 z], .string ⟨#[121]⟩, .int .i64 n] w fun e w' => e = .returned (.tuple #[.agg #[.int .i64 x, .int .i64 n, .int .i64 z], .bool true]) ∧ Below w.heap.size w w' := by
  have K := fun w => Lib.hid (specVar_yes 121 1 w (by simp))
  go_enter Try.func4, Try.ntmps4
  go_wp2_with fail
  have t3 : Box3 ((w.alloc (.cells #[.int .i64 x, .int .i64 y, .int .i64 z] 24)).alloc (.cells #[.int .i64 0, .int .i64 0, .int .i64 0] 24)) w.heap.size x y z := (Box3.new w x y z 24).alloc (by simp) _
  have z3 : Box3 ((w.alloc (.cells #[.int .i64 x, .int .i64 y, .int .i64 z] 24)).alloc (.cells #[.int .i64 0, .int .i64 0, .int .i64 0] 24)) (w.heap.size + 1) 0 0 0 := by
    have h := Box3.new (w.alloc (.cells #[.int .i64 x, .int .i64 y, .int .i64 z] 24)) 0 0 0 24
    simpa using h
  have fr : ∀ o, ((w.alloc (.cells #[.int .i64 x, .int .i64 y, .int .i64 z] 24)).alloc (.cells #[.int .i64 0, .int .i64 0, .int .i64 0] 24)).frozen? ⟨w.heap.size, o, none⟩ = false := fun o => by simp [go_sem]
  have fz : ∀ o, ((w.alloc (.cells #[.int .i64 x, .int .i64 y, .int .i64 z] 24)).alloc (.cells #[.int .i64 0, .int .i64 0, .int .i64 0] 24)).frozen? ⟨w.heap.size + 1, o, none⟩ = false := fun o => by simp [go_sem]
  have hB := ((Below.refl w.heap.size w).alloc (Nat.le_refl _) (.cells #[.int .i64 x, .int .i64 y, .int .i64 z] 24)).alloc (by simp) (.cells #[.int .i64 0, .int .i64 0, .int .i64 0] 24)
  generalize (w.alloc (.cells #[.int .i64 x, .int .i64 y, .int .i64 z] 24)).alloc (.cells #[.int .i64 0, .int .i64 0, .int .i64 0] 24) = w0 at *
  refine (specStateValid _ _ _ _).mono ?_
  rintro e w1 ⟨rfl, hb⟩
  have q0 := cell_keep' hb t3.1; have q1 := cell_keep' hb t3.2.1; have q2 := cell_keep' hb t3.2.2
  have r0 := cell_keep' hb z3.1; have r1 := cell_keep' hb z3.2.1; have r2 := cell_keep' hb z3.2.2
  have hl0 := cell_lt' t3.1; have hl1 := cell_lt' z3.1
  have f0 := (hb.frozen (p := ⟨w.heap.size, 0, none⟩) hl0).trans (fr 0); have f1 := (hb.frozen (p := ⟨w.heap.size, 1, none⟩) hl0).trans (fr 1); have f2 := (hb.frozen (p := ⟨w.heap.size, 2, none⟩) hl0).trans (fr 2)
  have g0 := (hb.frozen (p := ⟨w.heap.size + 1, 0, none⟩) hl1).trans (fz 0); have g1 := (hb.frozen (p := ⟨w.heap.size + 1, 1, none⟩) hl1).trans (fz 1); have g2 := (hb.frozen (p := ⟨w.heap.size + 1, 2, none⟩) hl1).trans (fz 2)
  have HB := Lib.hid (hB.trans (hb.mono hB.size))
  clear hb hB t3 z3 fr fz hl0 hl1
  go_wp2_with fail
  refine (K _).out.mono ?_
  rintro e w' ⟨rfl, rfl⟩
  go_wp2_with fail
  refine (specIn _ _).mono ?_
  rintro e w' ⟨rfl, rfl⟩
  go_wp2_with fail
  refine (specOneS _ _ _ _).mono ?_
  rintro e w2 ⟨rfl, hb⟩
  have p0 := cell_keep' hb r0; have p1 := cell_keep' hb r1; have p2 := cell_keep' hb r2
  have hl := cell_lt' r0
  have f0 := (hb.frozen (p := ⟨w.heap.size + 1, 0, none⟩) hl).trans g0; have f1 := (hb.frozen (p := ⟨w.heap.size + 1, 1, none⟩) hl).trans g1; have f2 := (hb.frozen (p := ⟨w.heap.size + 1, 2, none⟩) hl).trans g2
  have HB2 := Lib.hid (HB.out.trans (hb.mono HB.out.size))
  clear hb r0 r1 r2 g0 g1 g2 hl q0 q1 q2
  go_wp2_with fail
  refine (K _).out.mono ?_
  rintro e w' ⟨rfl, rfl⟩
  go_wp2_with fail
  refine (specSetS1 _ _ _ _ _ _ _ _).mono ?_
  rintro e w3 ⟨rfl, hb⟩
  have r0 := cell_keep' hb p0; have r1 := cell_keep' hb p1; have r2 := cell_keep' hb p2
  have hl := cell_lt' p0
  have g0 := (hb.frozen (p := ⟨w.heap.size + 1, 0, none⟩) hl).trans f0; have g1 := (hb.frozen (p := ⟨w.heap.size + 1, 1, none⟩) hl).trans f1; have g2 := (hb.frozen (p := ⟨w.heap.size + 1, 2, none⟩) hl).trans f2
  have HB3 := Lib.hid (HB2.out.trans (hb.mono HB2.out.size))
  clear hb p0 p1 p2 f0 f1 f2 hl
  go_wp2_with fail
  refine (specStateS _ _ _ _ _ _ _).mono ?_
  rintro e w4 ⟨rfl, hb⟩
  have p0 := cell_keep' hb r0; have p1 := cell_keep' hb r1; have p2 := cell_keep' hb r2
  have hl := cell_lt' r0
  have f0 := (hb.frozen (p := ⟨w.heap.size + 1, 0, none⟩) hl).trans g0; have f1 := (hb.frozen (p := ⟨w.heap.size + 1, 1, none⟩) hl).trans g1; have f2 := (hb.frozen (p := ⟨w.heap.size + 1, 2, none⟩) hl).trans g2
  have HB4 := Lib.hid (HB3.out.trans (hb.mono HB3.out.size))
  clear hb r0 r1 r2 g0 g1 g2 hl
  go_wp2_with fail
  exact bodyPost_ret (v := .tuple #[.agg #[.int .i64 x, .int .i64 n, .int .i64 z], .bool true]) (by simp [results, Try.results4, go_sem, p0, p1, p2]) rfl ⟨rfl, by (repeat refine Below.setCell ?_ (by simp) _); exact HB4.out⟩

set_option maxHeartbeats 2000000 in
theorem specSet_z (x y z n : Int) (w : World) (hst : st3 x y z = true) (hn : val3 n = true) :
    Calls Try.prog 4 #[.agg #[.int .i64 x, .int .i64 y, .int .i64 z], .string ⟨#[122]⟩, .int .i64 n] w fun e w' => e = .returned (.tuple #[.agg #[.int .i64 x, .int .i64 y, .int .i64 n], .bool true]) ∧ Below w.heap.size w w' := by
  have K := fun w => Lib.hid (specVar_yes 122 2 w (by simp))
  go_enter Try.func4, Try.ntmps4
  go_wp2_with fail
  have t3 : Box3 ((w.alloc (.cells #[.int .i64 x, .int .i64 y, .int .i64 z] 24)).alloc (.cells #[.int .i64 0, .int .i64 0, .int .i64 0] 24)) w.heap.size x y z := (Box3.new w x y z 24).alloc (by simp) _
  have z3 : Box3 ((w.alloc (.cells #[.int .i64 x, .int .i64 y, .int .i64 z] 24)).alloc (.cells #[.int .i64 0, .int .i64 0, .int .i64 0] 24)) (w.heap.size + 1) 0 0 0 := by
    have h := Box3.new (w.alloc (.cells #[.int .i64 x, .int .i64 y, .int .i64 z] 24)) 0 0 0 24
    simpa using h
  have fr : ∀ o, ((w.alloc (.cells #[.int .i64 x, .int .i64 y, .int .i64 z] 24)).alloc (.cells #[.int .i64 0, .int .i64 0, .int .i64 0] 24)).frozen? ⟨w.heap.size, o, none⟩ = false := fun o => by simp [go_sem]
  have fz : ∀ o, ((w.alloc (.cells #[.int .i64 x, .int .i64 y, .int .i64 z] 24)).alloc (.cells #[.int .i64 0, .int .i64 0, .int .i64 0] 24)).frozen? ⟨w.heap.size + 1, o, none⟩ = false := fun o => by simp [go_sem]
  have hB := ((Below.refl w.heap.size w).alloc (Nat.le_refl _) (.cells #[.int .i64 x, .int .i64 y, .int .i64 z] 24)).alloc (by simp) (.cells #[.int .i64 0, .int .i64 0, .int .i64 0] 24)
  generalize (w.alloc (.cells #[.int .i64 x, .int .i64 y, .int .i64 z] 24)).alloc (.cells #[.int .i64 0, .int .i64 0, .int .i64 0] 24) = w0 at *
  refine (specStateValid _ _ _ _).mono ?_
  rintro e w1 ⟨rfl, hb⟩
  have q0 := cell_keep' hb t3.1; have q1 := cell_keep' hb t3.2.1; have q2 := cell_keep' hb t3.2.2
  have r0 := cell_keep' hb z3.1; have r1 := cell_keep' hb z3.2.1; have r2 := cell_keep' hb z3.2.2
  have hl0 := cell_lt' t3.1; have hl1 := cell_lt' z3.1
  have f0 := (hb.frozen (p := ⟨w.heap.size, 0, none⟩) hl0).trans (fr 0); have f1 := (hb.frozen (p := ⟨w.heap.size, 1, none⟩) hl0).trans (fr 1); have f2 := (hb.frozen (p := ⟨w.heap.size, 2, none⟩) hl0).trans (fr 2)
  have g0 := (hb.frozen (p := ⟨w.heap.size + 1, 0, none⟩) hl1).trans (fz 0); have g1 := (hb.frozen (p := ⟨w.heap.size + 1, 1, none⟩) hl1).trans (fz 1); have g2 := (hb.frozen (p := ⟨w.heap.size + 1, 2, none⟩) hl1).trans (fz 2)
  have HB := Lib.hid (hB.trans (hb.mono hB.size))
  clear hb hB t3 z3 fr fz hl0 hl1
  go_wp2_with fail
  refine (K _).out.mono ?_
  rintro e w' ⟨rfl, rfl⟩
  go_wp2_with fail
  refine (specIn _ _).mono ?_
  rintro e w' ⟨rfl, rfl⟩
  go_wp2_with fail
  refine (specOneS _ _ _ _).mono ?_
  rintro e w2 ⟨rfl, hb⟩
  have p0 := cell_keep' hb r0; have p1 := cell_keep' hb r1; have p2 := cell_keep' hb r2
  have hl := cell_lt' r0
  have f0 := (hb.frozen (p := ⟨w.heap.size + 1, 0, none⟩) hl).trans g0; have f1 := (hb.frozen (p := ⟨w.heap.size + 1, 1, none⟩) hl).trans g1; have f2 := (hb.frozen (p := ⟨w.heap.size + 1, 2, none⟩) hl).trans g2
  have HB2 := Lib.hid (HB.out.trans (hb.mono HB.out.size))
  clear hb r0 r1 r2 g0 g1 g2 hl q0 q1 q2
  go_wp2_with fail
  refine (K _).out.mono ?_
  rintro e w' ⟨rfl, rfl⟩
  go_wp2_with fail
  refine (specSetS2 _ _ _ _ _ _ _ _).mono ?_
  rintro e w3 ⟨rfl, hb⟩
  have r0 := cell_keep' hb p0; have r1 := cell_keep' hb p1; have r2 := cell_keep' hb p2
  have hl := cell_lt' p0
  have g0 := (hb.frozen (p := ⟨w.heap.size + 1, 0, none⟩) hl).trans f0; have g1 := (hb.frozen (p := ⟨w.heap.size + 1, 1, none⟩) hl).trans f1; have g2 := (hb.frozen (p := ⟨w.heap.size + 1, 2, none⟩) hl).trans f2
  have HB3 := Lib.hid (HB2.out.trans (hb.mono HB2.out.size))
  clear hb p0 p1 p2 f0 f1 f2 hl
  go_wp2_with fail
  refine (specStateS _ _ _ _ _ _ _).mono ?_
  rintro e w4 ⟨rfl, hb⟩
  have p0 := cell_keep' hb r0; have p1 := cell_keep' hb r1; have p2 := cell_keep' hb r2
  have hl := cell_lt' r0
  have f0 := (hb.frozen (p := ⟨w.heap.size + 1, 0, none⟩) hl).trans g0; have f1 := (hb.frozen (p := ⟨w.heap.size + 1, 1, none⟩) hl).trans g1; have f2 := (hb.frozen (p := ⟨w.heap.size + 1, 2, none⟩) hl).trans g2
  have HB4 := Lib.hid (HB3.out.trans (hb.mono HB3.out.size))
  clear hb r0 r1 r2 g0 g1 g2 hl
  go_wp2_with fail
  exact bodyPost_ret (v := .tuple #[.agg #[.int .i64 x, .int .i64 y, .int .i64 n], .bool true]) (by simp [results, Try.results4, go_sem, p0, p1, p2]) rfl ⟨rfl, by (repeat refine Below.setCell ?_ (by simp) _); exact HB4.out⟩
end Go.Proofs.Ytpdepihggpfmiaa
