/-
  SetVar, of the program and of the model.
-/
import Derived.Test.YtkgdhlpmlpbbkaaGreatVar
namespace Go.Proofs.YtkgdhlpmlpbbkaaGreat
open Go.RowKit

theorem cell_keep' {w w' : World} {b o : Nat} {v : Value} (hb : Below w.heap.size w w') (h : w.cell? ⟨b, o, none⟩ = some v) : w'.cell? ⟨b, o, none⟩ = some v := (hb.cell (p := ⟨b, o, none⟩) (World.block_lt_of_cell? w ⟨b, o, none⟩ h)).trans h
theorem cell_lt' {w : World} {b o : Nat} {v : Value} (h : w.cell? ⟨b, o, none⟩ = some v) : b < w.heap.size := World.block_lt_of_cell? w ⟨b, o, none⟩ h

set_option maxHeartbeats 2000000 in
theorem implSet_x (x y z n : Int) (w : World) (hst : st3 x y z = true) (hn : val3 n = true) :
    Calls Tryz.prog 39 #[.agg #[.int .i64 x, .int .i64 y, .int .i64 z], .string ⟨#[120]⟩, .int .i64 n] w fun e w' => e = .returned (.tuple #[.agg #[.int .i64 n, .int .i64 y, .int .i64 z], .bool true]) ∧ Below w.heap.size w w' := by
  have K := fun w => Lib.hid (implIsVar_yes ⟨#[120]⟩ w (by simp [IsVar]))
  go_enter Tryz.func39, Tryz.ntmps39
  go_wp2_with fail
  have t3 : Box3 ((w.alloc (.cells #[.int .i64 x, .int .i64 y, .int .i64 z] 33)).alloc (.cells #[.int .i64 0, .int .i64 0, .int .i64 0] 33)) w.heap.size x y z := (Box3.new w x y z 33).alloc (by simp) _
  have z3 : Box3 ((w.alloc (.cells #[.int .i64 x, .int .i64 y, .int .i64 z] 33)).alloc (.cells #[.int .i64 0, .int .i64 0, .int .i64 0] 33)) (w.heap.size + 1) 0 0 0 := by
    have h := Box3.new (w.alloc (.cells #[.int .i64 x, .int .i64 y, .int .i64 z] 33)) 0 0 0 33
    simpa using h
  have fr : ∀ o, ((w.alloc (.cells #[.int .i64 x, .int .i64 y, .int .i64 z] 33)).alloc (.cells #[.int .i64 0, .int .i64 0, .int .i64 0] 33)).frozen? ⟨w.heap.size, o, none⟩ = false := fun o => by simp [go_sem]
  have fz : ∀ o, ((w.alloc (.cells #[.int .i64 x, .int .i64 y, .int .i64 z] 33)).alloc (.cells #[.int .i64 0, .int .i64 0, .int .i64 0] 33)).frozen? ⟨w.heap.size + 1, o, none⟩ = false := fun o => by simp [go_sem]
  have hB := ((Below.refl w.heap.size w).alloc (Nat.le_refl _) (.cells #[.int .i64 x, .int .i64 y, .int .i64 z] 33)).alloc (by simp) (.cells #[.int .i64 0, .int .i64 0, .int .i64 0] 33)
  generalize (w.alloc (.cells #[.int .i64 x, .int .i64 y, .int .i64 z] 33)).alloc (.cells #[.int .i64 0, .int .i64 0, .int .i64 0] 33) = w0 at *
  refine (implStateValid _ _ _ _).mono ?_
  rintro e w1 ⟨rfl, hb⟩
  have q0 := cell_keep' hb t3.1; have q1 := cell_keep' hb t3.2.1; have q2 := cell_keep' hb t3.2.2
  have r0 := cell_keep' hb z3.1; have r1 := cell_keep' hb z3.2.1; have r2 := cell_keep' hb z3.2.2
  have hl0 := cell_lt' t3.1; have hl1 := cell_lt' z3.1
  have f0 := (hb.frozen (p := ⟨w.heap.size, 0, none⟩) hl0).trans (fr 0); have f1 := (hb.frozen (p := ⟨w.heap.size, 1, none⟩) hl0).trans (fr 1); have f2 := (hb.frozen (p := ⟨w.heap.size, 2, none⟩) hl0).trans (fr 2)
  have g0 := (hb.frozen (p := ⟨w.heap.size + 1, 0, none⟩) hl1).trans (fz 0); have g1 := (hb.frozen (p := ⟨w.heap.size + 1, 1, none⟩) hl1).trans (fz 1); have g2 := (hb.frozen (p := ⟨w.heap.size + 1, 2, none⟩) hl1).trans (fz 2)
  have HB := Lib.hid (hB.trans (hb.mono hB.size))
  clear hb hB t3 z3 fr fz hl0 hl1
  go_wp2_with fail
  refine (K _).out.mono ?_
  rintro e w' ⟨rfl, rfl⟩
  go_wp2_with fail
  refine (implIsValue _ _).mono ?_
  rintro e w' ⟨rfl, rfl⟩
  go_wp2_with fail
  exact bodyPost_ret (v := .tuple #[.agg #[.int .i64 n, .int .i64 y, .int .i64 z], .bool true]) (by simp [results, Tryz.results39, go_sem, r0, r1, r2]) rfl ⟨rfl, by (repeat refine Below.setCell ?_ (by simp) _); exact HB.out⟩

set_option maxHeartbeats 2000000 in
theorem implSet_y (x y z n : Int) (w : World) (hst : st3 x y z = true) (hn : val3 n = true) :
    Calls Tryz.prog 39 #[.agg #[.int .i64 x, .int .i64 y, .int .i64 z], .string ⟨#[121]⟩, .int .i64 n] w fun e w' => e = .returned (.tuple #[.agg #[.int .i64 x, .int .i64 n, .int .i64 z], .bool true]) ∧ Below w.heap.size w w' := by
  have K := fun w => Lib.hid (implIsVar_yes ⟨#[121]⟩ w (by simp [IsVar]))
  go_enter Tryz.func39, Tryz.ntmps39
  go_wp2_with fail
  have t3 : Box3 ((w.alloc (.cells #[.int .i64 x, .int .i64 y, .int .i64 z] 33)).alloc (.cells #[.int .i64 0, .int .i64 0, .int .i64 0] 33)) w.heap.size x y z := (Box3.new w x y z 33).alloc (by simp) _
  have z3 : Box3 ((w.alloc (.cells #[.int .i64 x, .int .i64 y, .int .i64 z] 33)).alloc (.cells #[.int .i64 0, .int .i64 0, .int .i64 0] 33)) (w.heap.size + 1) 0 0 0 := by
    have h := Box3.new (w.alloc (.cells #[.int .i64 x, .int .i64 y, .int .i64 z] 33)) 0 0 0 33
    simpa using h
  have fr : ∀ o, ((w.alloc (.cells #[.int .i64 x, .int .i64 y, .int .i64 z] 33)).alloc (.cells #[.int .i64 0, .int .i64 0, .int .i64 0] 33)).frozen? ⟨w.heap.size, o, none⟩ = false := fun o => by simp [go_sem]
  have fz : ∀ o, ((w.alloc (.cells #[.int .i64 x, .int .i64 y, .int .i64 z] 33)).alloc (.cells #[.int .i64 0, .int .i64 0, .int .i64 0] 33)).frozen? ⟨w.heap.size + 1, o, none⟩ = false := fun o => by simp [go_sem]
  have hB := ((Below.refl w.heap.size w).alloc (Nat.le_refl _) (.cells #[.int .i64 x, .int .i64 y, .int .i64 z] 33)).alloc (by simp) (.cells #[.int .i64 0, .int .i64 0, .int .i64 0] 33)
  generalize (w.alloc (.cells #[.int .i64 x, .int .i64 y, .int .i64 z] 33)).alloc (.cells #[.int .i64 0, .int .i64 0, .int .i64 0] 33) = w0 at *
  refine (implStateValid _ _ _ _).mono ?_
  rintro e w1 ⟨rfl, hb⟩
  have q0 := cell_keep' hb t3.1; have q1 := cell_keep' hb t3.2.1; have q2 := cell_keep' hb t3.2.2
  have r0 := cell_keep' hb z3.1; have r1 := cell_keep' hb z3.2.1; have r2 := cell_keep' hb z3.2.2
  have hl0 := cell_lt' t3.1; have hl1 := cell_lt' z3.1
  have f0 := (hb.frozen (p := ⟨w.heap.size, 0, none⟩) hl0).trans (fr 0); have f1 := (hb.frozen (p := ⟨w.heap.size, 1, none⟩) hl0).trans (fr 1); have f2 := (hb.frozen (p := ⟨w.heap.size, 2, none⟩) hl0).trans (fr 2)
  have g0 := (hb.frozen (p := ⟨w.heap.size + 1, 0, none⟩) hl1).trans (fz 0); have g1 := (hb.frozen (p := ⟨w.heap.size + 1, 1, none⟩) hl1).trans (fz 1); have g2 := (hb.frozen (p := ⟨w.heap.size + 1, 2, none⟩) hl1).trans (fz 2)
  have HB := Lib.hid (hB.trans (hb.mono hB.size))
  clear hb hB t3 z3 fr fz hl0 hl1
  go_wp2_with fail
  refine (K _).out.mono ?_
  rintro e w' ⟨rfl, rfl⟩
  go_wp2_with fail
  refine (implIsValue _ _).mono ?_
  rintro e w' ⟨rfl, rfl⟩
  go_wp2_with fail
  exact bodyPost_ret (v := .tuple #[.agg #[.int .i64 x, .int .i64 n, .int .i64 z], .bool true]) (by simp [results, Tryz.results39, go_sem, r0, r1, r2]) rfl ⟨rfl, by (repeat refine Below.setCell ?_ (by simp) _); exact HB.out⟩

set_option maxHeartbeats 2000000 in
theorem implSet_z (x y z n : Int) (w : World) (hst : st3 x y z = true) (hn : val3 n = true) :
    Calls Tryz.prog 39 #[.agg #[.int .i64 x, .int .i64 y, .int .i64 z], .string ⟨#[122]⟩, .int .i64 n] w fun e w' => e = .returned (.tuple #[.agg #[.int .i64 x, .int .i64 y, .int .i64 n], .bool true]) ∧ Below w.heap.size w w' := by
  have K := fun w => Lib.hid (implIsVar_yes ⟨#[122]⟩ w (by simp [IsVar]))
  go_enter Tryz.func39, Tryz.ntmps39
  go_wp2_with fail
  have t3 : Box3 ((w.alloc (.cells #[.int .i64 x, .int .i64 y, .int .i64 z] 33)).alloc (.cells #[.int .i64 0, .int .i64 0, .int .i64 0] 33)) w.heap.size x y z := (Box3.new w x y z 33).alloc (by simp) _
  have z3 : Box3 ((w.alloc (.cells #[.int .i64 x, .int .i64 y, .int .i64 z] 33)).alloc (.cells #[.int .i64 0, .int .i64 0, .int .i64 0] 33)) (w.heap.size + 1) 0 0 0 := by
    have h := Box3.new (w.alloc (.cells #[.int .i64 x, .int .i64 y, .int .i64 z] 33)) 0 0 0 33
    simpa using h
  have fr : ∀ o, ((w.alloc (.cells #[.int .i64 x, .int .i64 y, .int .i64 z] 33)).alloc (.cells #[.int .i64 0, .int .i64 0, .int .i64 0] 33)).frozen? ⟨w.heap.size, o, none⟩ = false := fun o => by simp [go_sem]
  have fz : ∀ o, ((w.alloc (.cells #[.int .i64 x, .int .i64 y, .int .i64 z] 33)).alloc (.cells #[.int .i64 0, .int .i64 0, .int .i64 0] 33)).frozen? ⟨w.heap.size + 1, o, none⟩ = false := fun o => by simp [go_sem]
  have hB := ((Below.refl w.heap.size w).alloc (Nat.le_refl _) (.cells #[.int .i64 x, .int .i64 y, .int .i64 z] 33)).alloc (by simp) (.cells #[.int .i64 0, .int .i64 0, .int .i64 0] 33)
  generalize (w.alloc (.cells #[.int .i64 x, .int .i64 y, .int .i64 z] 33)).alloc (.cells #[.int .i64 0, .int .i64 0, .int .i64 0] 33) = w0 at *
  refine (implStateValid _ _ _ _).mono ?_
  rintro e w1 ⟨rfl, hb⟩
  have q0 := cell_keep' hb t3.1; have q1 := cell_keep' hb t3.2.1; have q2 := cell_keep' hb t3.2.2
  have r0 := cell_keep' hb z3.1; have r1 := cell_keep' hb z3.2.1; have r2 := cell_keep' hb z3.2.2
  have hl0 := cell_lt' t3.1; have hl1 := cell_lt' z3.1
  have f0 := (hb.frozen (p := ⟨w.heap.size, 0, none⟩) hl0).trans (fr 0); have f1 := (hb.frozen (p := ⟨w.heap.size, 1, none⟩) hl0).trans (fr 1); have f2 := (hb.frozen (p := ⟨w.heap.size, 2, none⟩) hl0).trans (fr 2)
  have g0 := (hb.frozen (p := ⟨w.heap.size + 1, 0, none⟩) hl1).trans (fz 0); have g1 := (hb.frozen (p := ⟨w.heap.size + 1, 1, none⟩) hl1).trans (fz 1); have g2 := (hb.frozen (p := ⟨w.heap.size + 1, 2, none⟩) hl1).trans (fz 2)
  have HB := Lib.hid (hB.trans (hb.mono hB.size))
  clear hb hB t3 z3 fr fz hl0 hl1
  go_wp2_with fail
  refine (K _).out.mono ?_
  rintro e w' ⟨rfl, rfl⟩
  go_wp2_with fail
  refine (implIsValue _ _).mono ?_
  rintro e w' ⟨rfl, rfl⟩
  go_wp2_with fail
  exact bodyPost_ret (v := .tuple #[.agg #[.int .i64 x, .int .i64 y, .int .i64 n], .bool true]) (by simp [results, Tryz.results39, go_sem, r0, r1, r2]) rfl ⟨rfl, by (repeat refine Below.setCell ?_ (by simp) _); exact HB.out⟩

set_option maxHeartbeats 2000000 in
theorem implSet_st (x y z n : Int) (v : ByteArray) (w : World) (hst : st3 x y z = false) :
    Calls Tryz.prog 39 #[.agg #[.int .i64 x, .int .i64 y, .int .i64 z], .string v, .int .i64 n] w fun e w' => e = .returned (.tuple #[.agg #[.int .i64 0, .int .i64 0, .int .i64 0], .bool false]) ∧ Below w.heap.size w w' := by
  go_enter Tryz.func39, Tryz.ntmps39
  go_wp2_with fail
  have t3 : Box3 ((w.alloc (.cells #[.int .i64 x, .int .i64 y, .int .i64 z] 33)).alloc (.cells #[.int .i64 0, .int .i64 0, .int .i64 0] 33)) w.heap.size x y z := (Box3.new w x y z 33).alloc (by simp) _
  have z3 : Box3 ((w.alloc (.cells #[.int .i64 x, .int .i64 y, .int .i64 z] 33)).alloc (.cells #[.int .i64 0, .int .i64 0, .int .i64 0] 33)) (w.heap.size + 1) 0 0 0 := by
    have h := Box3.new (w.alloc (.cells #[.int .i64 x, .int .i64 y, .int .i64 z] 33)) 0 0 0 33
    simpa using h
  have fr : ∀ o, ((w.alloc (.cells #[.int .i64 x, .int .i64 y, .int .i64 z] 33)).alloc (.cells #[.int .i64 0, .int .i64 0, .int .i64 0] 33)).frozen? ⟨w.heap.size, o, none⟩ = false := fun o => by simp [go_sem]
  have fz : ∀ o, ((w.alloc (.cells #[.int .i64 x, .int .i64 y, .int .i64 z] 33)).alloc (.cells #[.int .i64 0, .int .i64 0, .int .i64 0] 33)).frozen? ⟨w.heap.size + 1, o, none⟩ = false := fun o => by simp [go_sem]
  have hB := ((Below.refl w.heap.size w).alloc (Nat.le_refl _) (.cells #[.int .i64 x, .int .i64 y, .int .i64 z] 33)).alloc (by simp) (.cells #[.int .i64 0, .int .i64 0, .int .i64 0] 33)
  generalize (w.alloc (.cells #[.int .i64 x, .int .i64 y, .int .i64 z] 33)).alloc (.cells #[.int .i64 0, .int .i64 0, .int .i64 0] 33) = w0 at *
  refine (implStateValid _ _ _ _).mono ?_
  rintro e w1 ⟨rfl, hb⟩
  have q0 := cell_keep' hb t3.1; have q1 := cell_keep' hb t3.2.1; have q2 := cell_keep' hb t3.2.2
  have r0 := cell_keep' hb z3.1; have r1 := cell_keep' hb z3.2.1; have r2 := cell_keep' hb z3.2.2
  have hl0 := cell_lt' t3.1; have hl1 := cell_lt' z3.1
  have f0 := (hb.frozen (p := ⟨w.heap.size, 0, none⟩) hl0).trans (fr 0); have f1 := (hb.frozen (p := ⟨w.heap.size, 1, none⟩) hl0).trans (fr 1); have f2 := (hb.frozen (p := ⟨w.heap.size, 2, none⟩) hl0).trans (fr 2)
  have g0 := (hb.frozen (p := ⟨w.heap.size + 1, 0, none⟩) hl1).trans (fz 0); have g1 := (hb.frozen (p := ⟨w.heap.size + 1, 1, none⟩) hl1).trans (fz 1); have g2 := (hb.frozen (p := ⟨w.heap.size + 1, 2, none⟩) hl1).trans (fz 2)
  have HB := Lib.hid (hB.trans (hb.mono hB.size))
  clear hb hB t3 z3 fr fz hl0 hl1
  go_wp2_with fail
  exact bodyPost_ret (v := .tuple #[.agg #[.int .i64 0, .int .i64 0, .int .i64 0], .bool false]) (by simp [results, Tryz.results39, go_sem, r0, r1, r2]) rfl ⟨rfl, by (repeat refine Below.setCell ?_ (by simp) _); exact HB.out⟩

set_option maxHeartbeats 2000000 in
theorem implSet_var (x y z n : Int) (v : ByteArray) (w : World) (hm : v.size ≤ maxLen) (hst : st3 x y z = true) (hv : ¬ IsVar v) :
    Calls Tryz.prog 39 #[.agg #[.int .i64 x, .int .i64 y, .int .i64 z], .string v, .int .i64 n] w fun e w' => e = .returned (.tuple #[.agg #[.int .i64 0, .int .i64 0, .int .i64 0], .bool false]) ∧ Below w.heap.size w w' := by
  have K := fun w => Lib.hid (implIsVar_no v w hm hv)
  clear hv
  go_enter Tryz.func39, Tryz.ntmps39
  go_wp2_with fail
  have t3 : Box3 ((w.alloc (.cells #[.int .i64 x, .int .i64 y, .int .i64 z] 33)).alloc (.cells #[.int .i64 0, .int .i64 0, .int .i64 0] 33)) w.heap.size x y z := (Box3.new w x y z 33).alloc (by simp) _
  have z3 : Box3 ((w.alloc (.cells #[.int .i64 x, .int .i64 y, .int .i64 z] 33)).alloc (.cells #[.int .i64 0, .int .i64 0, .int .i64 0] 33)) (w.heap.size + 1) 0 0 0 := by
    have h := Box3.new (w.alloc (.cells #[.int .i64 x, .int .i64 y, .int .i64 z] 33)) 0 0 0 33
    simpa using h
  have fr : ∀ o, ((w.alloc (.cells #[.int .i64 x, .int .i64 y, .int .i64 z] 33)).alloc (.cells #[.int .i64 0, .int .i64 0, .int .i64 0] 33)).frozen? ⟨w.heap.size, o, none⟩ = false := fun o => by simp [go_sem]
  have fz : ∀ o, ((w.alloc (.cells #[.int .i64 x, .int .i64 y, .int .i64 z] 33)).alloc (.cells #[.int .i64 0, .int .i64 0, .int .i64 0] 33)).frozen? ⟨w.heap.size + 1, o, none⟩ = false := fun o => by simp [go_sem]
  have hB := ((Below.refl w.heap.size w).alloc (Nat.le_refl _) (.cells #[.int .i64 x, .int .i64 y, .int .i64 z] 33)).alloc (by simp) (.cells #[.int .i64 0, .int .i64 0, .int .i64 0] 33)
  generalize (w.alloc (.cells #[.int .i64 x, .int .i64 y, .int .i64 z] 33)).alloc (.cells #[.int .i64 0, .int .i64 0, .int .i64 0] 33) = w0 at *
  refine (implStateValid _ _ _ _).mono ?_
  rintro e w1 ⟨rfl, hb⟩
  have q0 := cell_keep' hb t3.1; have q1 := cell_keep' hb t3.2.1; have q2 := cell_keep' hb t3.2.2
  have r0 := cell_keep' hb z3.1; have r1 := cell_keep' hb z3.2.1; have r2 := cell_keep' hb z3.2.2
  have hl0 := cell_lt' t3.1; have hl1 := cell_lt' z3.1
  have f0 := (hb.frozen (p := ⟨w.heap.size, 0, none⟩) hl0).trans (fr 0); have f1 := (hb.frozen (p := ⟨w.heap.size, 1, none⟩) hl0).trans (fr 1); have f2 := (hb.frozen (p := ⟨w.heap.size, 2, none⟩) hl0).trans (fr 2)
  have g0 := (hb.frozen (p := ⟨w.heap.size + 1, 0, none⟩) hl1).trans (fz 0); have g1 := (hb.frozen (p := ⟨w.heap.size + 1, 1, none⟩) hl1).trans (fz 1); have g2 := (hb.frozen (p := ⟨w.heap.size + 1, 2, none⟩) hl1).trans (fz 2)
  have HB := Lib.hid (hB.trans (hb.mono hB.size))
  clear hb hB t3 z3 fr fz hl0 hl1
  go_wp2_with fail
  refine (K _).out.mono ?_
  rintro e w' ⟨rfl, rfl⟩
  go_wp2_with fail
  exact bodyPost_ret (v := .tuple #[.agg #[.int .i64 0, .int .i64 0, .int .i64 0], .bool false]) (by simp [results, Tryz.results39, go_sem, r0, r1, r2]) rfl ⟨rfl, by (repeat refine Below.setCell ?_ (by simp) _); exact HB.out⟩

set_option maxHeartbeats 2000000 in
theorem implSet_nx (x y z n : Int) (w : World) (hst : st3 x y z = true) (hn : val3 n = false) :
    Calls Tryz.prog 39 #[.agg #[.int .i64 x, .int .i64 y, .int .i64 z], .string ⟨#[120]⟩, .int .i64 n] w fun e w' => e = .returned (.tuple #[.agg #[.int .i64 0, .int .i64 0, .int .i64 0], .bool false]) ∧ Below w.heap.size w w' := by
  have K := fun w => Lib.hid (implIsVar_yes ⟨#[120]⟩ w (by simp [IsVar]))
  go_enter Tryz.func39, Tryz.ntmps39
  go_wp2_with fail
  have t3 : Box3 ((w.alloc (.cells #[.int .i64 x, .int .i64 y, .int .i64 z] 33)).alloc (.cells #[.int .i64 0, .int .i64 0, .int .i64 0] 33)) w.heap.size x y z := (Box3.new w x y z 33).alloc (by simp) _
  have z3 : Box3 ((w.alloc (.cells #[.int .i64 x, .int .i64 y, .int .i64 z] 33)).alloc (.cells #[.int .i64 0, .int .i64 0, .int .i64 0] 33)) (w.heap.size + 1) 0 0 0 := by
    have h := Box3.new (w.alloc (.cells #[.int .i64 x, .int .i64 y, .int .i64 z] 33)) 0 0 0 33
    simpa using h
  have fr : ∀ o, ((w.alloc (.cells #[.int .i64 x, .int .i64 y, .int .i64 z] 33)).alloc (.cells #[.int .i64 0, .int .i64 0, .int .i64 0] 33)).frozen? ⟨w.heap.size, o, none⟩ = false := fun o => by simp [go_sem]
  have fz : ∀ o, ((w.alloc (.cells #[.int .i64 x, .int .i64 y, .int .i64 z] 33)).alloc (.cells #[.int .i64 0, .int .i64 0, .int .i64 0] 33)).frozen? ⟨w.heap.size + 1, o, none⟩ = false := fun o => by simp [go_sem]
  have hB := ((Below.refl w.heap.size w).alloc (Nat.le_refl _) (.cells #[.int .i64 x, .int .i64 y, .int .i64 z] 33)).alloc (by simp) (.cells #[.int .i64 0, .int .i64 0, .int .i64 0] 33)
  generalize (w.alloc (.cells #[.int .i64 x, .int .i64 y, .int .i64 z] 33)).alloc (.cells #[.int .i64 0, .int .i64 0, .int .i64 0] 33) = w0 at *
  refine (implStateValid _ _ _ _).mono ?_
  rintro e w1 ⟨rfl, hb⟩
  have q0 := cell_keep' hb t3.1; have q1 := cell_keep' hb t3.2.1; have q2 := cell_keep' hb t3.2.2
  have r0 := cell_keep' hb z3.1; have r1 := cell_keep' hb z3.2.1; have r2 := cell_keep' hb z3.2.2
  have hl0 := cell_lt' t3.1; have hl1 := cell_lt' z3.1
  have f0 := (hb.frozen (p := ⟨w.heap.size, 0, none⟩) hl0).trans (fr 0); have f1 := (hb.frozen (p := ⟨w.heap.size, 1, none⟩) hl0).trans (fr 1); have f2 := (hb.frozen (p := ⟨w.heap.size, 2, none⟩) hl0).trans (fr 2)
  have g0 := (hb.frozen (p := ⟨w.heap.size + 1, 0, none⟩) hl1).trans (fz 0); have g1 := (hb.frozen (p := ⟨w.heap.size + 1, 1, none⟩) hl1).trans (fz 1); have g2 := (hb.frozen (p := ⟨w.heap.size + 1, 2, none⟩) hl1).trans (fz 2)
  have HB := Lib.hid (hB.trans (hb.mono hB.size))
  clear hb hB t3 z3 fr fz hl0 hl1
  go_wp2_with fail
  refine (K _).out.mono ?_
  rintro e w' ⟨rfl, rfl⟩
  go_wp2_with fail
  refine (implIsValue _ _).mono ?_
  rintro e w' ⟨rfl, rfl⟩
  go_wp2_with fail
  exact bodyPost_ret (v := .tuple #[.agg #[.int .i64 0, .int .i64 0, .int .i64 0], .bool false]) (by simp [results, Tryz.results39, go_sem, r0, r1, r2]) rfl ⟨rfl, by (repeat refine Below.setCell ?_ (by simp) _); exact HB.out⟩

set_option maxHeartbeats 2000000 in
theorem implSet_ny (x y z n : Int) (w : World) (hst : st3 x y z = true) (hn : val3 n = false) :
    Calls Tryz.prog 39 #[.agg #[.int .i64 x, .int .i64 y, .int .i64 z], .string ⟨#[121]⟩, .int .i64 n] w fun e w' => e = .returned (.tuple #[.agg #[.int .i64 0, .int .i64 0, .int .i64 0], .bool false]) ∧ Below w.heap.size w w' := by
  have K := fun w => Lib.hid (implIsVar_yes ⟨#[121]⟩ w (by simp [IsVar]))
  go_enter Tryz.func39, Tryz.ntmps39
  go_wp2_with fail
  have t3 : Box3 ((w.alloc (.cells #[.int .i64 x, .int .i64 y, .int .i64 z] 33)).alloc (.cells #[.int .i64 0, .int .i64 0, .int .i64 0] 33)) w.heap.size x y z := (Box3.new w x y z 33).alloc (by simp) _
  have z3 : Box3 ((w.alloc (.cells #[.int .i64 x, .int .i64 y, .int .i64 z] 33)).alloc (.cells #[.int .i64 0, .int .i64 0, .int .i64 0] 33)) (w.heap.size + 1) 0 0 0 := by
    have h := Box3.new (w.alloc (.cells #[.int .i64 x, .int .i64 y, .int .i64 z] 33)) 0 0 0 33
    simpa using h
  have fr : ∀ o, ((w.alloc (.cells #[.int .i64 x, .int .i64 y, .int .i64 z] 33)).alloc (.cells #[.int .i64 0, .int .i64 0, .int .i64 0] 33)).frozen? ⟨w.heap.size, o, none⟩ = false := fun o => by simp [go_sem]
  have fz : ∀ o, ((w.alloc (.cells #[.int .i64 x, .int .i64 y, .int .i64 z] 33)).alloc (.cells #[.int .i64 0, .int .i64 0, .int .i64 0] 33)).frozen? ⟨w.heap.size + 1, o, none⟩ = false := fun o => by simp [go_sem]
  have hB := ((Below.refl w.heap.size w).alloc (Nat.le_refl _) (.cells #[.int .i64 x, .int .i64 y, .int .i64 z] 33)).alloc (by simp) (.cells #[.int .i64 0, .int .i64 0, .int .i64 0] 33)
  generalize (w.alloc (.cells #[.int .i64 x, .int .i64 y, .int .i64 z] 33)).alloc (.cells #[.int .i64 0, .int .i64 0, .int .i64 0] 33) = w0 at *
  refine (implStateValid _ _ _ _).mono ?_
  rintro e w1 ⟨rfl, hb⟩
  have q0 := cell_keep' hb t3.1; have q1 := cell_keep' hb t3.2.1; have q2 := cell_keep' hb t3.2.2
  have r0 := cell_keep' hb z3.1; have r1 := cell_keep' hb z3.2.1; have r2 := cell_keep' hb z3.2.2
  have hl0 := cell_lt' t3.1; have hl1 := cell_lt' z3.1
  have f0 := (hb.frozen (p := ⟨w.heap.size, 0, none⟩) hl0).trans (fr 0); have f1 := (hb.frozen (p := ⟨w.heap.size, 1, none⟩) hl0).trans (fr 1); have f2 := (hb.frozen (p := ⟨w.heap.size, 2, none⟩) hl0).trans (fr 2)
  have g0 := (hb.frozen (p := ⟨w.heap.size + 1, 0, none⟩) hl1).trans (fz 0); have g1 := (hb.frozen (p := ⟨w.heap.size + 1, 1, none⟩) hl1).trans (fz 1); have g2 := (hb.frozen (p := ⟨w.heap.size + 1, 2, none⟩) hl1).trans (fz 2)
  have HB := Lib.hid (hB.trans (hb.mono hB.size))
  clear hb hB t3 z3 fr fz hl0 hl1
  go_wp2_with fail
  refine (K _).out.mono ?_
  rintro e w' ⟨rfl, rfl⟩
  go_wp2_with fail
  refine (implIsValue _ _).mono ?_
  rintro e w' ⟨rfl, rfl⟩
  go_wp2_with fail
  exact bodyPost_ret (v := .tuple #[.agg #[.int .i64 0, .int .i64 0, .int .i64 0], .bool false]) (by simp [results, Tryz.results39, go_sem, r0, r1, r2]) rfl ⟨rfl, by (repeat refine Below.setCell ?_ (by simp) _); exact HB.out⟩

set_option maxHeartbeats 2000000 in
theorem implSet_nz (x y z n : Int) (w : World) (hst : st3 x y z = true) (hn : val3 n = false) :
    Calls Tryz.prog 39 #[.agg #[.int .i64 x, .int .i64 y, .int .i64 z], .string ⟨#[122]⟩, .int .i64 n] w fun e w' => e = .returned (.tuple #[.agg #[.int .i64 0, .int .i64 0, .int .i64 0], .bool false]) ∧ Below w.heap.size w w' := by
  have K := fun w => Lib.hid (implIsVar_yes ⟨#[122]⟩ w (by simp [IsVar]))
  go_enter Tryz.func39, Tryz.ntmps39
  go_wp2_with fail
  have t3 : Box3 ((w.alloc (.cells #[.int .i64 x, .int .i64 y, .int .i64 z] 33)).alloc (.cells #[.int .i64 0, .int .i64 0, .int .i64 0] 33)) w.heap.size x y z := (Box3.new w x y z 33).alloc (by simp) _
  have z3 : Box3 ((w.alloc (.cells #[.int .i64 x, .int .i64 y, .int .i64 z] 33)).alloc (.cells #[.int .i64 0, .int .i64 0, .int .i64 0] 33)) (w.heap.size + 1) 0 0 0 := by
    have h := Box3.new (w.alloc (.cells #[.int .i64 x, .int .i64 y, .int .i64 z] 33)) 0 0 0 33
    simpa using h
  have fr : ∀ o, ((w.alloc (.cells #[.int .i64 x, .int .i64 y, .int .i64 z] 33)).alloc (.cells #[.int .i64 0, .int .i64 0, .int .i64 0] 33)).frozen? ⟨w.heap.size, o, none⟩ = false := fun o => by simp [go_sem]
  have fz : ∀ o, ((w.alloc (.cells #[.int .i64 x, .int .i64 y, .int .i64 z] 33)).alloc (.cells #[.int .i64 0, .int .i64 0, .int .i64 0] 33)).frozen? ⟨w.heap.size + 1, o, none⟩ = false := fun o => by simp [go_sem]
  have hB := ((Below.refl w.heap.size w).alloc (Nat.le_refl _) (.cells #[.int .i64 x, .int .i64 y, .int .i64 z] 33)).alloc (by simp) (.cells #[.int .i64 0, .int .i64 0, .int .i64 0] 33)
  generalize (w.alloc (.cells #[.int .i64 x, .int .i64 y, .int .i64 z] 33)).alloc (.cells #[.int .i64 0, .int .i64 0, .int .i64 0] 33) = w0 at *
  refine (implStateValid _ _ _ _).mono ?_
  rintro e w1 ⟨rfl, hb⟩
  have q0 := cell_keep' hb t3.1; have q1 := cell_keep' hb t3.2.1; have q2 := cell_keep' hb t3.2.2
  have r0 := cell_keep' hb z3.1; have r1 := cell_keep' hb z3.2.1; have r2 := cell_keep' hb z3.2.2
  have hl0 := cell_lt' t3.1; have hl1 := cell_lt' z3.1
  have f0 := (hb.frozen (p := ⟨w.heap.size, 0, none⟩) hl0).trans (fr 0); have f1 := (hb.frozen (p := ⟨w.heap.size, 1, none⟩) hl0).trans (fr 1); have f2 := (hb.frozen (p := ⟨w.heap.size, 2, none⟩) hl0).trans (fr 2)
  have g0 := (hb.frozen (p := ⟨w.heap.size + 1, 0, none⟩) hl1).trans (fz 0); have g1 := (hb.frozen (p := ⟨w.heap.size + 1, 1, none⟩) hl1).trans (fz 1); have g2 := (hb.frozen (p := ⟨w.heap.size + 1, 2, none⟩) hl1).trans (fz 2)
  have HB := Lib.hid (hB.trans (hb.mono hB.size))
  clear hb hB t3 z3 fr fz hl0 hl1
  go_wp2_with fail
  refine (K _).out.mono ?_
  rintro e w' ⟨rfl, rfl⟩
  go_wp2_with fail
  refine (implIsValue _ _).mono ?_
  rintro e w' ⟨rfl, rfl⟩
  go_wp2_with fail
  exact bodyPost_ret (v := .tuple #[.agg #[.int .i64 0, .int .i64 0, .int .i64 0], .bool false]) (by simp [results, Tryz.results39, go_sem, r0, r1, r2]) rfl ⟨rfl, by (repeat refine Below.setCell ?_ (by simp) _); exact HB.out⟩

set_option maxHeartbeats 1000000 in
theorem specOneS (x y z : Int) (w : World) : Calls Tryz.prog 115 #[.agg #[.int .i64 x, .int .i64 y, .int .i64 z]] w fun e w' => e = .returned (.agg #[.int .i64 x, .int .i64 y, .int .i64 z, .int .i64 0, .int .i64 0, .int .i64 0]) ∧ Below w.heap.size w w' := by
  go_enter Tryz.func115, Tryz.ntmps115
  go_wp2_with fail
  exact bodyPost_ret (v := .agg #[.int .i64 x, .int .i64 y, .int .i64 z, .int .i64 0, .int .i64 0, .int .i64 0]) (by simp [results, Tryz.results115, go_sem]) rfl ⟨rfl, ((Below.refl _ _).alloc (Nat.le_refl _) _).alloc (by simp) _⟩

set_option maxHeartbeats 1000000 in
theorem specStateS (e0 e1 e2 e3 e4 e5 : Int) (w : World) : Calls Tryz.prog 156 #[.agg #[.int .i64 e0, .int .i64 e1, .int .i64 e2, .int .i64 e3, .int .i64 e4, .int .i64 e5]] w fun e w' => e = .returned (.agg #[.int .i64 e0, .int .i64 e1, .int .i64 e2]) ∧ Below w.heap.size w w' := by
  go_enter Tryz.func156, Tryz.ntmps156
  go_wp2_with fail
  exact bodyPost_ret (v := .agg #[.int .i64 e0, .int .i64 e1, .int .i64 e2]) (by simp [results, Tryz.results156, go_sem]) rfl ⟨rfl, ((Below.refl _ _).alloc (Nat.le_refl _) _).alloc (by simp) _⟩

set_option maxHeartbeats 1000000 in
theorem specSetS0 (e0 e1 e2 e3 e4 e5 n : Int) (w : World) : Calls Tryz.prog 157 #[.agg #[.int .i64 e0, .int .i64 e1, .int .i64 e2, .int .i64 e3, .int .i64 e4, .int .i64 e5], .int .i64 0, .int .i64 n] w fun e w' => e = .returned (.agg #[.int .i64 n, .int .i64 e1, .int .i64 e2, .int .i64 e3, .int .i64 e4, .int .i64 e5]) ∧ Below w.heap.size w w' := by
  go_enter Tryz.func157, Tryz.ntmps157
  go_wp2_with fail
  exact bodyPost_ret (v := .agg #[.int .i64 n, .int .i64 e1, .int .i64 e2, .int .i64 e3, .int .i64 e4, .int .i64 e5]) (by simp [results, Tryz.results157, go_sem]) rfl ⟨rfl, ((Below.refl _ _).alloc (Nat.le_refl _) _).alloc (by simp) _⟩

set_option maxHeartbeats 1000000 in
theorem specSetS1 (e0 e1 e2 e3 e4 e5 n : Int) (w : World) : Calls Tryz.prog 157 #[.agg #[.int .i64 e0, .int .i64 e1, .int .i64 e2, .int .i64 e3, .int .i64 e4, .int .i64 e5], .int .i64 1, .int .i64 n] w fun e w' => e = .returned (.agg #[.int .i64 e0, .int .i64 n, .int .i64 e2, .int .i64 e3, .int .i64 e4, .int .i64 e5]) ∧ Below w.heap.size w w' := by
  go_enter Tryz.func157, Tryz.ntmps157
  go_wp2_with fail
  exact bodyPost_ret (v := .agg #[.int .i64 e0, .int .i64 n, .int .i64 e2, .int .i64 e3, .int .i64 e4, .int .i64 e5]) (by simp [results, Tryz.results157, go_sem]) rfl ⟨rfl, ((Below.refl _ _).alloc (Nat.le_refl _) _).alloc (by simp) _⟩

set_option maxHeartbeats 1000000 in
theorem specSetS2 (e0 e1 e2 e3 e4 e5 n : Int) (w : World) : Calls Tryz.prog 157 #[.agg #[.int .i64 e0, .int .i64 e1, .int .i64 e2, .int .i64 e3, .int .i64 e4, .int .i64 e5], .int .i64 2, .int .i64 n] w fun e w' => e = .returned (.agg #[.int .i64 e0, .int .i64 e1, .int .i64 n, .int .i64 e3, .int .i64 e4, .int .i64 e5]) ∧ Below w.heap.size w w' := by
  go_enter Tryz.func157, Tryz.ntmps157
  go_wp2_with fail
  exact bodyPost_ret (v := .agg #[.int .i64 e0, .int .i64 e1, .int .i64 n, .int .i64 e3, .int .i64 e4, .int .i64 e5]) (by simp [results, Tryz.results157, go_sem]) rfl ⟨rfl, ((Below.refl _ _).alloc (Nat.le_refl _) _).alloc (by simp) _⟩

end Go.Proofs.YtkgdhlpmlpbbkaaGreat
