/-
  The first state of a set, the first pair of a relation: the program's methods at 58f2a2e.
-/
import Derived.Test.YtheclmdpiijakaaDoorTz
import Derived.Test.YtheclmdpiijakaaDoorRo
namespace Go.Proofs.YtheclmdpiijakaaDoor
open Go.RowKit Go.Great

theorem set_first_of (N k : Nat) (x y z : Int) (b : Bool) (w : World) (hT : Tab32 w)
    (D : ∀ (w : World), Tab32 w → Calls Tryd.prog 118 #[.int .u32 N] w fun e w' => e = .returned (.int .i64 k) ∧ w = w')
    (E : ∀ (w : World), Calls Tryd.prog 92 #[.int .i64 k] w fun e w' => e = .returned (.tuple #[.agg #[.int .i64 x, .int .i64 y, .int .i64 z], .bool b]) ∧ Below w.heap.size w w') :
    Calls Tryd.prog 91 #[.int .u32 N] w fun e w' => e = .returned (.tuple #[.agg #[.int .i64 x, .int .i64 y, .int .i64 z], .bool b]) ∧ Below w.heap.size w w' := by
  have D' := Lib.hid D
  have E' := Lib.hid E
  have HT := Lib.hid (hT.below ((Below.refl _ w).alloc (Nat.le_refl _) (.cells #[.int .i64 0, .int .i64 0, .int .i64 0] 32)))
  have HK := Lib.hid (Blk.new w #[.int .i64 0, .int .i64 0, .int .i64 0] 32)
  clear hT D E
  go_enter Tryd.func91, Tryd.ntmps91
  go_wp2_with fail
  refine (D'.out _ HT.out).mono ?_
  rintro e w' ⟨rfl, rfl⟩
  go_wp2_with fail
  refine (E'.out _).mono ?_
  rintro e w1 ⟨rfl, hb⟩
  have HB1 := Lib.hid (bbox hb)
  have t1 := HK.out.kept hb
  obtain ⟨q0, q1, q2, f0, f1, f2⟩ := t1.a3
  clear hb t1
  go_wp2_with fail
  exact bodyPost_ret (v := .tuple #[.agg #[.int .i64 x, .int .i64 y, .int .i64 z], .bool b]) (by simp [results, Tryd.results91, go_sem, q0, q1, q2]) rfl ⟨rfl, by (repeat refine Below.setCell ?_ (by simp) _); exact HB1.out⟩
theorem set_first_yes (F : Nat → Bool) (k : Nat) (w : World) (hT : Tab32 w) (hk : IsFirst F k) :
    Calls Tryd.prog 91 #[.int .u32 (nb 27 F : Nat)] w fun e w' => e = .returned (.tuple #[.agg #[.int .i64 (ax k), .int .i64 (ay k), .int .i64 (az k)], .bool true]) ∧ Below w.heap.size w w' := by
  have hbit : ∀ i, i < 27 → (nb 27 F).testBit i = F i := fun i hi => by rw [nb_bit]; simp [hi]
  have h27 : k < 27 := hk.1
  exact set_first_of _ k _ _ _ _ w hT
    (fun w hT => tz_at (nb 27 F) k (nb_lt27 _) (by rw [hbit k hk.1]; exact hk.2.1) (fun j hj => by rw [hbit j (by omega)]; exact hk.2.2 j hj) w hT)
    (fun w => implAt_yes k w (by omega) (by omega))
theorem set_first_none (F : Nat → Bool) (w : World) (hT : Tab32 w) (hk : ∀ i, i < 27 → F i = false) :
    Calls Tryd.prog 91 #[.int .u32 (nb 27 F : Nat)] w fun e w' => e = .returned (.tuple #[.agg #[.int .i64 0, .int .i64 0, .int .i64 0], .bool false]) ∧ Below w.heap.size w w' := by
  rw [nb_zero 27 hk]
  exact set_first_of 0 32 _ _ _ _ w hT (fun w _ => tz_zero w) (fun w => implAt_no 32 w (by omega))

/-- The pair i, j is the first one of a relation. -/
def PFirst (A : Nat → Nat → Bool) (i j : Nat) : Prop := i < 27 ∧ IsFirst (A i) j ∧ ∀ k, k < i → ∀ m, m < 27 → A k m = false
def s000 : Array Value := #[.int .i64 0, .int .i64 0, .int .i64 0]
def stV (k : Nat) : Value := .agg #[.int .i64 (ax k), .int .i64 (ay k), .int .i64 (az k)]

set_option maxRecDepth 100000 in
set_option maxHeartbeats 8000000 in
theorem rel_first_yes (A : Nat → Nat → Bool) (i j : Nat) (h : PFirst A i j) (w : World) (hT : Tab32 w) :
    Calls Tryd.prog 55 #[.agg (relC .u32 A)] w fun e w' => e = .returned (.tuple #[.agg #[.int .i64 (ax i), .int .i64 (ay i), .int .i64 (az i)], .agg #[.int .i64 (ax j), .int .i64 (ay j), .int .i64 (az j)], .bool true]) ∧ Below w.heap.size w w' := by
  obtain ⟨hi, hF, hE⟩ := h
  obtain ⟨k0, k1, k2, kb, kz⟩ := three_blk w (relC .u32 A) #[.int .i64 0, .int .i64 0, .int .i64 0] #[.int .i64 0, .int .i64 0, .int .i64 0] 57 32 32
  have K0 := Lib.hid k0
  have K1 := Lib.hid k1
  have K2 := Lib.hid k2
  have KB := Lib.hid kb
  have HT := Lib.hid hT
  have CY := fun w hT => Lib.hid (set_first_yes (A i) j w hT hF)
  have C2 := fun w => Lib.hid (implAt_yes i w (by omega) (by omega))
  clear k0 k1 k2 kb kz hT hF
  generalize ax i = a0 at *
  generalize ay i = a1 at *
  generalize az i = a2 at *
  generalize ax j = b0 at *
  generalize ay j = b1 at *
  generalize az j = b2 at *
  go_enter Tryd.func55, Tryd.ntmps55
  go_wp2_with (first
    | (refine wpList_boxTo rfl 57 _ rfl (some 1) rfl w.heap.size rfl (relC .u32 A) (by rfl) ?_)
    | (refine wpList_load_row rfl 57 _ rfl w.heap.size (by rfl) 57 (relC .u32 A) (0, 0) _ K0.out undR rfl (infoR _) ?_))
  generalize ((w.alloc (.cells (relC .u32 A) 57)).alloc (.cells #[.int .i64 0, .int .i64 0, .int .i64 0] 32)).alloc (.cells #[.int .i64 0, .int .i64 0, .int .i64 0] 32) = w0 at *
  go_loopw [5, 6, 7, 8, 9, 10, 12] (fun _ _ _ _ _ _ c wr => ∃ k : Nat, k ≤ i ∧ c = .int .i64 k ∧ Hid (Blk wr (w.heap.size + 1) #[.int .i64 0, .int .i64 0, .int .i64 0] 32) ∧ Hid (Blk wr (w.heap.size + 2) #[.int .i64 0, .int .i64 0, .int .i64 0] 32) ∧ Hid (Below w.heap.size w wr)) (fun _ _ _ _ _ _ c _ => i - (intOf c).toNat)
  case atStart => exact ⟨0, by omega, rfl, K1, K2, KB⟩
  case round =>
    clear K0 K1 K2 KB
    obtain ⟨k, hk, rfl, R1, R2, RB⟩ := hrel
    have hl : (k : Int) < 27 := by omega
    have HI := r_index A k (by omega)
    by_cases hlt : k < i
    · have C := fun w hT => Lib.hid (set_first_none (A k) w hT (hE k hlt))
      go_wp2_with fail
      refine (C _ (HT.out.below RB.out)).out.mono ?_
      rintro e w2 ⟨rfl, hb⟩
      replace R1 := Lib.hid ((R1.out.kept hb).alloc (.cells #[.int .i64 0, .int .i64 0, .int .i64 0] 32))
      replace R2 := Lib.hid ((R2.out.kept hb).alloc (.cells #[.int .i64 0, .int .i64 0, .int .i64 0] 32))
      replace RB := Lib.hid (bput (bnext RB.out hb) (.cells #[.int .i64 0, .int .i64 0, .int .i64 0] 32))
      clear hb C HI
      go_wp2_with fail
      exact ⟨⟨k + 1, by omega, by go_num, R1, R2, RB⟩, by simp [intOf]; omega⟩
    · obtain rfl : k = i := by omega
      go_wp2_with fail
      refine (CY _ (HT.out.below RB.out)).out.mono ?_
      rintro e w2 ⟨rfl, hb⟩
      have HN1 : Hid (w.heap.size + 2 < w2.heap.size) := (R2.out.kept hb).lt
      have S7 := Lib.hid (Blk.new w2 #[.int .i64 b0, .int .i64 b1, .int .i64 b2] 32)
      replace R1 := Lib.hid ((R1.out.kept hb).alloc (.cells #[.int .i64 b0, .int .i64 b1, .int .i64 b2] 32))
      replace R2 := Lib.hid ((R2.out.kept hb).alloc (.cells #[.int .i64 b0, .int .i64 b1, .int .i64 b2] 32))
      replace RB := Lib.hid (bput (bnext RB.out hb) (.cells #[.int .i64 b0, .int .i64 b1, .int .i64 b2] 32))
      clear hb CY HI
      go_wp2_with fail
      generalize w2.alloc (.cells #[.int .i64 b0, .int .i64 b1, .int .i64 b2] 32) = w3 at *
      refine (C2 _).out.mono ?_
      rintro e w4 ⟨rfl, hb⟩
      have S9 := Blk.new w4 #[.int .i64 a0, .int .i64 a1, .int .i64 a2] 32
      have S7' := (S7.out.kept hb).alloc (.cells #[.int .i64 a0, .int .i64 a1, .int .i64 a2] 32)
      have T1 := (R1.out.kept hb).alloc (.cells #[.int .i64 a0, .int .i64 a1, .int .i64 a2] 32)
      have T2 := (R2.out.kept hb).alloc (.cells #[.int .i64 a0, .int .i64 a1, .int .i64 a2] 32)
      replace RB := Lib.hid (bput (bnext RB.out hb) (.cells #[.int .i64 a0, .int .i64 a1, .int .i64 a2] 32))
      obtain ⟨q0, q1, q2⟩ := S9.c3
      obtain ⟨q3, q4, q5⟩ := S7'.c3
      obtain ⟨g0, g1, g2, f0, f1, f2⟩ := T1.a3
      obtain ⟨g3, g4, g5, f3, f4, f5⟩ := T2.a3
      have TT1 := Lib.hid T1
      have TT2 := Lib.hid T2
      clear hb C2 S9 S7' T1 T2
      go_wp2_with fail
      have d0 := HN1.out
      have d1 : w.heap.size + 1 ≠ w2.heap.size := by omega
      have d2 : w.heap.size + 2 ≠ w2.heap.size := by omega
      generalize w4.alloc (.cells #[.int .i64 a0, .int .i64 a1, .int .i64 a2] 32) = w5 at *
      go_region
      all_goals
        have F1 : Blk _ _ #[.int .i64 a0, .int .i64 a1, .int .i64 a2] _ := ((((((TT1.out.set 0 (.int .i64 a0)).set 1 (.int .i64 a1)).set 2 (.int .i64 a2)).setOther (p := ⟨w.heap.size + 1 + 1, 0, none⟩) (by show w.heap.size + 1 ≠ w.heap.size + 1 + 1; omega) (.int .i64 b0)).setOther (p := ⟨w.heap.size + 1 + 1, 1, none⟩) (by show w.heap.size + 1 ≠ w.heap.size + 1 + 1; omega) (.int .i64 b1)).setOther (p := ⟨w.heap.size + 1 + 1, 2, none⟩) (by show w.heap.size + 1 ≠ w.heap.size + 1 + 1; omega) (.int .i64 b2)).drew
        have F2 : Blk _ _ #[.int .i64 b0, .int .i64 b1, .int .i64 b2] _ := ((((((TT2.out.setOther (p := ⟨w.heap.size + 1, 0, none⟩) (by show w.heap.size + 2 ≠ w.heap.size + 1; omega) (.int .i64 a0)).setOther (p := ⟨w.heap.size + 1, 1, none⟩) (by show w.heap.size + 2 ≠ w.heap.size + 1; omega) (.int .i64 a1)).setOther (p := ⟨w.heap.size + 1, 2, none⟩) (by show w.heap.size + 2 ≠ w.heap.size + 1; omega) (.int .i64 a2)).set 0 (.int .i64 b0)).set 1 (.int .i64 b1)).set 2 (.int .i64 b2)).drew
        obtain ⟨r0, r1, r2⟩ := F1.c3
        obtain ⟨r3, r4, r5⟩ := F2.c3
        have RF := ((((((RB.out.setCell (p := ⟨w.heap.size + 1, 0, none⟩) (by show w.heap.size ≤ w.heap.size + 1; omega) (.int .i64 a0)).setCell (p := ⟨w.heap.size + 1, 1, none⟩) (by show w.heap.size ≤ w.heap.size + 1; omega) (.int .i64 a1)).setCell (p := ⟨w.heap.size + 1, 2, none⟩) (by show w.heap.size ≤ w.heap.size + 1; omega) (.int .i64 a2)).setCell (p := ⟨w.heap.size + 1 + 1, 0, none⟩) (by show w.heap.size ≤ w.heap.size + 1 + 1; omega) (.int .i64 b0)).setCell (p := ⟨w.heap.size + 1 + 1, 1, none⟩) (by show w.heap.size ≤ w.heap.size + 1 + 1; omega) (.int .i64 b1)).setCell (p := ⟨w.heap.size + 1 + 1, 2, none⟩) (by show w.heap.size ≤ w.heap.size + 1 + 1; omega) (.int .i64 b2)).drew
        clear F1 F2 TT1 TT2
        generalize World.drew _ = wf at *
        go_wp2_with fail
        exact bodyPost_ret (v := .tuple #[.agg #[.int .i64 a0, .int .i64 a1, .int .i64 a2], .agg #[.int .i64 b0, .int .i64 b1, .int .i64 b2], .bool true]) (by simp [results, Tryd.results55, go_sem, r0, r1, r2, r3, r4, r5]) rfl ⟨rfl, RF⟩
set_option maxRecDepth 100000 in
set_option maxHeartbeats 8000000 in
theorem rel_first_none (A : Nat → Nat → Bool) (hE : ∀ k, k < 27 → ∀ m, m < 27 → A k m = false) (w : World) (hT : Tab32 w) :
    Calls Tryd.prog 55 #[.agg (relC .u32 A)] w fun e w' => e = .returned (.tuple #[.agg #[.int .i64 0, .int .i64 0, .int .i64 0], .agg #[.int .i64 0, .int .i64 0, .int .i64 0], .bool false]) ∧ Below w.heap.size w w' := by
  obtain ⟨k0, k1, k2, kb, kz⟩ := three_blk w (relC .u32 A) #[.int .i64 0, .int .i64 0, .int .i64 0] #[.int .i64 0, .int .i64 0, .int .i64 0] 57 32 32
  have K0 := Lib.hid k0
  have K1 := Lib.hid k1
  have K2 := Lib.hid k2
  have KB := Lib.hid kb
  have HT := Lib.hid hT
  clear k0 k1 k2 kb kz hT
  go_enter Tryd.func55, Tryd.ntmps55
  go_wp2_with (first
    | (refine wpList_boxTo rfl 57 _ rfl (some 1) rfl w.heap.size rfl (relC .u32 A) (by rfl) ?_)
    | (refine wpList_load_row rfl 57 _ rfl w.heap.size (by rfl) 57 (relC .u32 A) (0, 0) _ K0.out undR rfl (infoR _) ?_))
  generalize ((w.alloc (.cells (relC .u32 A) 57)).alloc (.cells #[.int .i64 0, .int .i64 0, .int .i64 0] 32)).alloc (.cells #[.int .i64 0, .int .i64 0, .int .i64 0] 32) = w0 at *
  go_loopw [5, 6, 7, 8, 9, 10, 12] (fun _ _ _ _ _ _ c wr => ∃ k : Nat, k ≤ 27 ∧ c = .int .i64 k ∧ Hid (Blk wr (w.heap.size + 1) #[.int .i64 0, .int .i64 0, .int .i64 0] 32) ∧ Hid (Blk wr (w.heap.size + 2) #[.int .i64 0, .int .i64 0, .int .i64 0] 32) ∧ Hid (Below w.heap.size w wr)) (fun _ _ _ _ _ _ c _ => 27 - (intOf c).toNat)
  case atStart => exact ⟨0, by omega, rfl, K1, K2, KB⟩
  case round =>
    clear K0 K1 K2 KB
    obtain ⟨k, hk, rfl, R1, R2, RB⟩ := hrel
    by_cases hlt : k < 27
    · have hl : (k : Int) < 27 := by omega
      have HI := r_index A k (by omega)
      have C := fun w hT => Lib.hid (set_first_none (A k) w hT (hE k hlt))
      go_wp2_with fail
      refine (C _ (HT.out.below RB.out)).out.mono ?_
      rintro e w2 ⟨rfl, hb⟩
      replace R1 := Lib.hid ((R1.out.kept hb).alloc (.cells #[.int .i64 0, .int .i64 0, .int .i64 0] 32))
      replace R2 := Lib.hid ((R2.out.kept hb).alloc (.cells #[.int .i64 0, .int .i64 0, .int .i64 0] 32))
      replace RB := Lib.hid (bput (bnext RB.out hb) (.cells #[.int .i64 0, .int .i64 0, .int .i64 0] 32))
      clear hb C HI
      go_wp2_with fail
      exact ⟨⟨k + 1, by omega, by go_num, R1, R2, RB⟩, by simp [intOf]; omega⟩
    · obtain rfl : k = 27 := by omega
      obtain ⟨g0, g1, g2, f0, f1, f2⟩ := R1.out.a3
      obtain ⟨g3, g4, g5, f3, f4, f5⟩ := R2.out.a3
      go_wp2_with fail
      have F1 : Blk _ _ #[.int .i64 0, .int .i64 0, .int .i64 0] _ := ((((((R1.out.set 0 (.int .i64 0)).set 1 (.int .i64 0)).set 2 (.int .i64 0)).setOther (p := ⟨w.heap.size + 1 + 1, 0, none⟩) (by show w.heap.size + 1 ≠ w.heap.size + 1 + 1; omega) (.int .i64 0)).setOther (p := ⟨w.heap.size + 1 + 1, 1, none⟩) (by show w.heap.size + 1 ≠ w.heap.size + 1 + 1; omega) (.int .i64 0)).setOther (p := ⟨w.heap.size + 1 + 1, 2, none⟩) (by show w.heap.size + 1 ≠ w.heap.size + 1 + 1; omega) (.int .i64 0))
      have F2 : Blk _ _ #[.int .i64 0, .int .i64 0, .int .i64 0] _ := ((((((R2.out.setOther (p := ⟨w.heap.size + 1, 0, none⟩) (by show w.heap.size + 2 ≠ w.heap.size + 1; omega) (.int .i64 0)).setOther (p := ⟨w.heap.size + 1, 1, none⟩) (by show w.heap.size + 2 ≠ w.heap.size + 1; omega) (.int .i64 0)).setOther (p := ⟨w.heap.size + 1, 2, none⟩) (by show w.heap.size + 2 ≠ w.heap.size + 1; omega) (.int .i64 0)).set 0 (.int .i64 0)).set 1 (.int .i64 0)).set 2 (.int .i64 0))
      obtain ⟨r0, r1, r2⟩ := F1.c3
      obtain ⟨r3, r4, r5⟩ := F2.c3
      have RF := ((((((RB.out.setCell (p := ⟨w.heap.size + 1, 0, none⟩) (by show w.heap.size ≤ w.heap.size + 1; omega) (.int .i64 0)).setCell (p := ⟨w.heap.size + 1, 1, none⟩) (by show w.heap.size ≤ w.heap.size + 1; omega) (.int .i64 0)).setCell (p := ⟨w.heap.size + 1, 2, none⟩) (by show w.heap.size ≤ w.heap.size + 1; omega) (.int .i64 0)).setCell (p := ⟨w.heap.size + 1 + 1, 0, none⟩) (by show w.heap.size ≤ w.heap.size + 1 + 1; omega) (.int .i64 0)).setCell (p := ⟨w.heap.size + 1 + 1, 1, none⟩) (by show w.heap.size ≤ w.heap.size + 1 + 1; omega) (.int .i64 0)).setCell (p := ⟨w.heap.size + 1 + 1, 2, none⟩) (by show w.heap.size ≤ w.heap.size + 1 + 1; omega) (.int .i64 0))
      exact bodyPost_ret (v := .tuple #[.agg #[.int .i64 0, .int .i64 0, .int .i64 0], .agg #[.int .i64 0, .int .i64 0, .int .i64 0], .bool false]) (by simp [results, Tryd.results55, go_sem, r0, r1, r2, r3, r4, r5]) rfl ⟨rfl, RF⟩
end Go.Proofs.YtheclmdpiijakaaDoor
