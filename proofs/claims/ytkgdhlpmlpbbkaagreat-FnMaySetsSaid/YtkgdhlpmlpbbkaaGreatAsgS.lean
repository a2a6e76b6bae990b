/-
  The model's assignments: l2With, l2Assign, AssignPre, AssignPost.
-/
import Derived.Test.YtkgdhlpmlpbbkaaGreatAsgR
import Derived.Test.YtkgdhlpmlpbbkaaGreatSpecValid
namespace Go.Proofs.YtkgdhlpmlpbbkaaGreat
open Go.RowKit Tm

/-- The place of a variable's letter. -/
def VarAt (c : UInt8) (j : Nat) : Prop := (c = 120 ∧ j = 0) ∨ (c = 121 ∧ j = 1) ∨ (c = 122 ∧ j = 2)
def setX (c : UInt8) (n : Int) (i : Int) : Int := if c = 120 then n else ax i
def setY (c : UInt8) (n : Int) (i : Int) : Int := if c = 120 then ay i else if c = 121 then n else ay i
def setZ (c : UInt8) (n : Int) (i : Int) : Int := if c = 120 then az i else if c = 121 then az i else n
theorem setN_eq (c : UInt8) (n : Int) (i : Nat) : setN c n i = ixx (setX c n i) (setY c n i) (setZ c n i) := by
  unfold setN setX setY setZ
  split
  · rfl
  · split <;> rfl
theorem set_st3 {c : UInt8} {n : Int} {i : Nat} (hn : val3 n = true) (hi : i < 27) : st3 (setX c n i) (setY c n i) (setZ c n i) = true := by
  obtain ⟨hx, hy, hz⟩ := st3_parts (at_st3 (i := (i : Int)) (by omega) (by omega))
  unfold setX setY setZ
  split
  · exact st3_of hn hy hz
  · split
    · exact st3_of hx hn hz
    · exact st3_of hx hy hn

set_option maxHeartbeats 2000000 in
theorem specWith_of (x y z p q r n : Int) (j : Nat) (w : World)
    (C : ∀ w, Calls Tryz.prog 157 #[.agg #[.int .i64 x, .int .i64 y, .int .i64 z, .int .i64 0, .int .i64 0, .int .i64 0], .int .i64 j, .int .i64 n] w fun e w' => e = .returned (.agg #[.int .i64 p, .int .i64 q, .int .i64 r, .int .i64 0, .int .i64 0, .int .i64 0]) ∧ Below w.heap.size w w') :
    Calls Tryz.prog 147 #[.agg #[.int .i64 x, .int .i64 y, .int .i64 z], .int .i64 j, .int .i64 n] w fun e w' => e = .returned (.agg #[.int .i64 p, .int .i64 q, .int .i64 r]) ∧ Below w.heap.size w w' := by
  have C' := Lib.hid C
  clear C
  go_enter Tryz.func147, Tryz.ntmps147
  go_wp2_with fail
  have HB0 := Lib.hid ((Below.refl _ w).alloc (Nat.le_refl _) (.cells #[.int .i64 x, .int .i64 y, .int .i64 z] 33))
  have HK0 := Lib.hid (Blk.new w #[.int .i64 x, .int .i64 y, .int .i64 z] 33)
  have HB1 := Lib.hid (bput HB0.out (.cells #[.int .i64 0, .int .i64 0, .int .i64 0] 33))
  have HK1 := Lib.hid (Blk.new (w.alloc (.cells #[.int .i64 x, .int .i64 y, .int .i64 z] 33)) #[.int .i64 0, .int .i64 0, .int .i64 0] 33)
  generalize (w.alloc (.cells #[.int .i64 x, .int .i64 y, .int .i64 z] 33)).alloc (.cells #[.int .i64 0, .int .i64 0, .int .i64 0] 33) = w0 at *
  rw [show (w.alloc (.cells #[.int .i64 x, .int .i64 y, .int .i64 z] 33)).heap.size = w.heap.size + 1 by simp] at HK1
  refine (specOneS _ _ _ _).mono ?_
  rintro e w1 ⟨rfl, hb⟩
  have HB2 := Lib.hid (bnext HB1.out hb)
  have HK2 := Lib.hid (HK1.out.kept hb)
  clear hb
  go_wp2_with fail
  refine (C'.out _).mono ?_
  rintro e w2 ⟨rfl, hb⟩
  have HB3 := Lib.hid (bnext HB2.out hb)
  have HK3 := Lib.hid (HK2.out.kept hb)
  clear hb
  go_wp2_with fail
  refine (specStateS _ _ _ _ _ _ _).mono ?_
  rintro e w3 ⟨rfl, hb⟩
  have HB4 := Lib.hid (bnext HB3.out hb)
  have HK4 := Lib.hid (HK3.out.kept hb)
  clear hb
  obtain ⟨q0, q1, q2, f0, f1, f2⟩ := HK4.out.a3
  go_wp2_with fail
  exact bodyPost_ret (v := .agg #[.int .i64 p, .int .i64 q, .int .i64 r]) (by simp [results, Tryz.results147, go_sem, q0, q1, q2]) rfl ⟨rfl, by (repeat refine Below.setCell ?_ (by simp) _); exact HB4.out⟩

theorem specWith (c : UInt8) (j : Nat) (h : VarAt c j) (n : Int) (i : Nat) (w : World) :
    Calls Tryz.prog 147 #[.agg #[.int .i64 (ax i), .int .i64 (ay i), .int .i64 (az i)], .int .i64 j, .int .i64 n] w fun e w' => e = .returned (.agg #[.int .i64 (setX c n i), .int .i64 (setY c n i), .int .i64 (setZ c n i)]) ∧ Below w.heap.size w w' := by
  rcases h with ⟨rfl, rfl⟩ | ⟨rfl, rfl⟩ | ⟨rfl, rfl⟩
  · exact specWith_of _ _ _ n (ay i) (az i) n 0 w (fun w => specSetS0 _ _ _ _ _ _ _ w)
  · exact specWith_of _ _ _ (ax i) n (az i) n 1 w (fun w => specSetS1 _ _ _ _ _ _ _ w)
  · exact specWith_of _ _ _ (ax i) (ay i) n n 2 w (fun w => specSetS2 _ _ _ _ _ _ _ w)

set_option maxHeartbeats 2000000 in
theorem specAsg (c : UInt8) (j : Nat) (h : VarAt c j) (e : ByteArray) {t : Tm} (ht : Ok false false t) (he : e.data.toList = t.ser) (hl : e.size ≤ 200) (i : Nat) (hi : i < 27) (w : World) :
    Calls Tryz.prog 130 #[.agg #[.int .i64 (ax i), .int .i64 (ay i), .int .i64 (az i)], .int .i64 j, .string e] w fun e w' => e = .returned (.agg #[.int .i64 (setX c (val (env i) t) i), .int .i64 (setY c (val (env i) t) i), .int .i64 (setZ c (val (env i) t) i)]) ∧ Below w.heap.size w w' := by
  have hat := at_st3 (i := (i : Int)) (by omega) (by omega)
  have V := fun w => Lib.hid (spv_any (env i) (one_bd hat) e (by omega) t 0 [] w (ok_wide ht) (by rw [List.drop_zero, List.append_nil]; exact he))
  have W := fun w => Lib.hid (specWith c j h (val (env i) t) i w)
  have O := fun w => Lib.hid (specOne (ax i) (ay i) (az i) w)
  clear hat he h
  go_enter Tryz.func130, Tryz.ntmps130
  go_wp2_with fail
  have HB0 := Lib.hid ((Below.refl _ w).alloc (Nat.le_refl _) (.cells #[.int .i64 (ax i), .int .i64 (ay i), .int .i64 (az i)] 33))
  have HK0 := Lib.hid ((Blk.new w #[.int .i64 (ax i), .int .i64 (ay i), .int .i64 (az i)] 33).alloc (.cells #[.int .i64 0, .int .i64 0, .int .i64 0] 33))
  have HB1 := Lib.hid (bput HB0.out (.cells #[.int .i64 0, .int .i64 0, .int .i64 0] 33))
  have HK1 := Lib.hid (Blk.new (w.alloc (.cells #[.int .i64 (ax i), .int .i64 (ay i), .int .i64 (az i)] 33)) #[.int .i64 0, .int .i64 0, .int .i64 0] 33)
  generalize (w.alloc (.cells #[.int .i64 (ax i), .int .i64 (ay i), .int .i64 (az i)] 33)).alloc (.cells #[.int .i64 0, .int .i64 0, .int .i64 0] 33) = w0 at *
  rw [show (w.alloc (.cells #[.int .i64 (ax i), .int .i64 (ay i), .int .i64 (az i)] 33)).heap.size = w.heap.size + 1 by simp] at HK1
  refine (O _).out.mono ?_
  rintro e w1 ⟨rfl, hb⟩
  have HB2 := Lib.hid (bnext HB1.out hb)
  have HK2 := Lib.hid (HK1.out.kept hb)
  have HL2 := Lib.hid (HK0.out.kept hb)
  clear hb
  go_wp2_with fail
  refine (V _).out.mono ?_
  rintro e w2 ⟨rfl, hb⟩
  have HB3 := Lib.hid (bnext HB2.out hb)
  have HK3 := Lib.hid (HK2.out.kept hb)
  have HL3 := Lib.hid (HL2.out.kept hb)
  clear hb
  obtain ⟨r0, r1, r2⟩ := HL3.out.c3
  go_wp2_with fail
  clear r0 r1 r2
  refine (W _).out.mono ?_
  rintro e w3 ⟨rfl, hb⟩
  have HB4 := Lib.hid (bnext HB3.out hb)
  have HK4 := Lib.hid (HK3.out.kept hb)
  clear hb
  obtain ⟨q0, q1, q2, f0, f1, f2⟩ := HK4.out.a3
  go_wp2_with fail
  exact bodyPost_ret (v := .agg #[.int .i64 (setX c (val (env i) t) i), .int .i64 (setY c (val (env i) t) i), .int .i64 (setZ c (val (env i) t) i)]) (by simp [results, Tryz.results130, go_sem, q0, q1, q2]) rfl ⟨rfl, by (repeat refine Below.setCell ?_ (by simp) _); exact HB4.out⟩

theorem hs_byte {s : ByteArray} {n : Nat} (h : Bits n s.data.toList) (k : Nat) (hk : k < s.size) : s[k] = bitc (hs s.data.toList k) := hs_cases h (by simpa using hk)

theorem var_at {v : ByteArray} (h : IsVar v) : ∃ c j, v = ⟨#[c]⟩ ∧ VarAt c j ∧ (c = 120 ∨ c = 121 ∨ c = 122) := by
  rcases h with rfl | rfl | rfl
  · exact ⟨120, 0, rfl, .inl ⟨rfl, rfl⟩, .inl rfl⟩
  · exact ⟨121, 1, rfl, .inr (.inl ⟨rfl, rfl⟩), .inr (.inl rfl)⟩
  · exact ⟨122, 2, rfl, .inr (.inr ⟨rfl, rfl⟩), .inr (.inr rfl)⟩
theorem varAt_bd {c : UInt8} {j : Nat} (h : VarAt c j) : (j : Int) < 3 ∧ (0 : Int) ≤ j ∧ decide ((j : Int) < 0) = false :=
  ⟨by rcases h with ⟨_, rfl⟩ | ⟨_, rfl⟩ | ⟨_, rfl⟩ <;> decide, by omega, decide_eq_false (by omega)⟩
end Go.Proofs.YtkgdhlpmlpbbkaaGreat
