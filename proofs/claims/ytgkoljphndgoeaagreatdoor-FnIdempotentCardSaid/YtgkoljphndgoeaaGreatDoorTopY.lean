import Derived.Test.YtgkoljphndgoeaaGreatDoorTopB
import Derived.Test.YtgkoljphndgoeaaGreatDoorTopU
import Derived.Test.YtgkoljphndgoeaaGreatDoorShelf
import Derived.Test.YtgkoljphndgoeaaGreatDoorTopH
import Derived.Test.YtgkoljphndgoeaaGreatDoorTopT
namespace Go.Proofs.YtgkoljphndgoeaaGreatDoor
open Go.RowKit
theorem xyz_find (c : UInt8) (r : Int) (w : World) (h : fnd [120, 121, 122] c = r) : Calls Tryz.prog 210 #[.string ⟨#[120, 121, 122]⟩, .int .u8 c.toNat] w fun e w' => e = .returned (.int .i64 r) ∧ w = w' := by
 subst h
 exact find_any ⟨#[120, 121, 122]⟩ c w (by simp [maxLen, ByteArray.size])
set_option maxHeartbeats 1000000 in
theorem specVar_yes (c : UInt8) (i : Nat) (w : World) (hv : (c = 120 ∧ i = 0) ∨ (c = 121 ∧ i = 1) ∨ (c = 122 ∧ i = 2)) : Calls Tryz.prog 159 #[.string ⟨#[c]⟩] w fun e w' => e = .returned (.int .i64 i) ∧ w = w' := by
 have K := fun w => Lib.hid (xyz_find c i w (by rcases hv with ⟨rfl, rfl⟩ | ⟨rfl, rfl⟩ | ⟨rfl, rfl⟩ <;> rfl))
 clear hv
 go_enter Tryz.func159, Tryz.ntmps159
 go_wp2_with fail
 refine (K _).out.mono ?_
 rintro e w' ⟨rfl, rfl⟩
 go_wp2_with fail
 go_ret
 exact ⟨rfl, rfl⟩
set_option maxHeartbeats 1000000 in
theorem specOneS (x y z : Int) (w : World) : Calls Tryz.prog 212 #[.agg #[.int .i64 x, .int .i64 y, .int .i64 z]] w fun e w' => e = .returned (.agg #[.int .i64 x, .int .i64 y, .int .i64 z, .int .i64 0, .int .i64 0, .int .i64 0]) ∧ Below w.heap.size w w' := by
 go_enter Tryz.func212, Tryz.ntmps212
 go_wp2_with fail
 exact bodyPost_ret (v := .agg #[.int .i64 x, .int .i64 y, .int .i64 z, .int .i64 0, .int .i64 0, .int .i64 0]) (by simp [results, Tryz.results212, go_sem]) rfl ⟨rfl, ((Below.refl _ _).alloc (Nat.le_refl _) _).alloc (by simp) _⟩
set_option maxHeartbeats 1000000 in
theorem specStateS (e0 e1 e2 e3 e4 e5 : Int) (w : World) : Calls Tryz.prog 274 #[.agg #[.int .i64 e0, .int .i64 e1, .int .i64 e2, .int .i64 e3, .int .i64 e4, .int .i64 e5]] w fun e w' => e = .returned (.agg #[.int .i64 e0, .int .i64 e1, .int .i64 e2]) ∧ Below w.heap.size w w' := by
 go_enter Tryz.func274, Tryz.ntmps274
 go_wp2_with fail
 exact bodyPost_ret (v := .agg #[.int .i64 e0, .int .i64 e1, .int .i64 e2]) (by simp [results, Tryz.results274, go_sem]) rfl ⟨rfl, ((Below.refl _ _).alloc (Nat.le_refl _) _).alloc (by simp) _⟩
set_option maxHeartbeats 1000000 in
theorem specSetS0 (e0 e1 e2 e3 e4 e5 n : Int) (w : World) : Calls Tryz.prog 275 #[.agg #[.int .i64 e0, .int .i64 e1, .int .i64 e2, .int .i64 e3, .int .i64 e4, .int .i64 e5], .int .i64 0, .int .i64 n] w fun e w' => e = .returned (.agg #[.int .i64 n, .int .i64 e1, .int .i64 e2, .int .i64 e3, .int .i64 e4, .int .i64 e5]) ∧ Below w.heap.size w w' := by
 go_enter Tryz.func275, Tryz.ntmps275
 go_wp2_with fail
 exact bodyPost_ret (v := .agg #[.int .i64 n, .int .i64 e1, .int .i64 e2, .int .i64 e3, .int .i64 e4, .int .i64 e5]) (by simp [results, Tryz.results275, go_sem]) rfl ⟨rfl, ((Below.refl _ _).alloc (Nat.le_refl _) _).alloc (by simp) _⟩
set_option maxHeartbeats 1000000 in
theorem specSetS1 (e0 e1 e2 e3 e4 e5 n : Int) (w : World) : Calls Tryz.prog 275 #[.agg #[.int .i64 e0, .int .i64 e1, .int .i64 e2, .int .i64 e3, .int .i64 e4, .int .i64 e5], .int .i64 1, .int .i64 n] w fun e w' => e = .returned (.agg #[.int .i64 e0, .int .i64 n, .int .i64 e2, .int .i64 e3, .int .i64 e4, .int .i64 e5]) ∧ Below w.heap.size w w' := by
 go_enter Tryz.func275, Tryz.ntmps275
 go_wp2_with fail
 exact bodyPost_ret (v := .agg #[.int .i64 e0, .int .i64 n, .int .i64 e2, .int .i64 e3, .int .i64 e4, .int .i64 e5]) (by simp [results, Tryz.results275, go_sem]) rfl ⟨rfl, ((Below.refl _ _).alloc (Nat.le_refl _) _).alloc (by simp) _⟩
set_option maxHeartbeats 1000000 in
theorem specSetS2 (e0 e1 e2 e3 e4 e5 n : Int) (w : World) : Calls Tryz.prog 275 #[.agg #[.int .i64 e0, .int .i64 e1, .int .i64 e2, .int .i64 e3, .int .i64 e4, .int .i64 e5], .int .i64 2, .int .i64 n] w fun e w' => e = .returned (.agg #[.int .i64 e0, .int .i64 e1, .int .i64 n, .int .i64 e3, .int .i64 e4, .int .i64 e5]) ∧ Below w.heap.size w w' := by
 go_enter Tryz.func275, Tryz.ntmps275
 go_wp2_with fail
 exact bodyPost_ret (v := .agg #[.int .i64 e0, .int .i64 e1, .int .i64 n, .int .i64 e3, .int .i64 e4, .int .i64 e5]) (by simp [results, Tryz.results275, go_sem]) rfl ⟨rfl, ((Below.refl _ _).alloc (Nat.le_refl _) _).alloc (by simp) _⟩
end Go.Proofs.YtgkoljphndgoeaaGreatDoor
namespace Go.Proofs.YtgkoljphndgoeaaGreatDoor
open Go.RowKit Tm
def ixx (x y z : Int) : Nat := (x + 3 * y + 9 * z).toNat
def setN (c : UInt8) (n : Int) (i : Nat) : Nat := if c = 120 then ixx n (ay i) (az i) else if c = 121 then ixx (ax i) n (az i) else ixx (ax i) (ay i) n
def asg (c : UInt8) (t : Tm) (i : Nat) : Nat := setN c (val (env i) t) i
theorem ixx_lt {x y z : Int} (h : st3 x y z = true) : ixx x y z < 27 ∧ ((ixx x y z : Nat) : Int) = x + 3 * y + 9 * z := by
 have h := st3_lt h
 unfold ixx; omega
theorem st3_parts {x y z : Int} (h : st3 x y z = true) : val3 x = true ∧ val3 y = true ∧ val3 z = true := by
 unfold st3 at h
 simp only [Bool.and_eq_true] at h
 exact ⟨h.1.1, h.1.2, h.2⟩
theorem st3_of {x y z : Int} (hx : val3 x = true) (hy : val3 y = true) (hz : val3 z = true) : st3 x y z = true := by unfold st3; rw [hx, hy, hz]; rfl
theorem val_env {t : Tm} (ht : Ok false false t) {i : Nat} (hi : i < 27) : val3 (val (env i) t) = true := by
 have h := val_bd (one_bd (at_st3 (i := (i : Int)) (by omega) (by omega))) ht
 exact val3_t h.1 (by have := h.2; unfold env; omega)
theorem setN_lt {c : UInt8} {n : Int} {i : Nat} (hn : val3 n = true) (hi : i < 27) : setN c n i < 27 := by
 obtain ⟨hx, hy, hz⟩ := st3_parts (at_st3 (i := (i : Int)) (by omega) (by omega))
 unfold setN
 split
 ·exact (ixx_lt (st3_of hn hy hz)).1
 ·split
  ·exact (ixx_lt (st3_of hx hn hz)).1
  ·exact (ixx_lt (st3_of hx hy hn)).1
theorem asg_lt {c : UInt8} {t : Tm} (ht : Ok false false t) {i : Nat} (hi : i < 27) : asg c t i < 27 := setN_lt (val_env ht hi) hi
def VarAt (c : UInt8) (j : Nat) : Prop := (c = 120 ∧ j = 0) ∨ (c = 121 ∧ j = 1) ∨ (c = 122 ∧ j = 2)
def setX (c : UInt8) (n : Int) (i : Int) : Int := if c = 120 then n else ax i
def setY (c : UInt8) (n : Int) (i : Int) : Int := if c = 120 then ay i else if c = 121 then n else ay i
def setZ (c : UInt8) (n : Int) (i : Int) : Int := if c = 120 then az i else if c = 121 then az i else n
theorem setN_eq (c : UInt8) (n : Int) (i : Nat) : setN c n i = ixx (setX c n i) (setY c n i) (setZ c n i) := by
 unfold setN setX setY setZ
 split
 ·rfl
 ·split <;> rfl
theorem set_st3 {c : UInt8} {n : Int} {i : Nat} (hn : val3 n = true) (hi : i < 27) : st3 (setX c n i) (setY c n i) (setZ c n i) = true := by
 obtain ⟨hx, hy, hz⟩ := st3_parts (at_st3 (i := (i : Int)) (by omega) (by omega))
 unfold setX setY setZ
 split
 ·exact st3_of hn hy hz
 ·split
  ·exact st3_of hx hn hz
  ·exact st3_of hx hy hn
set_option maxHeartbeats 2000000 in
theorem specWith_of (x y z p q r n : Int) (j : Nat) (w : World)
  (C : ∀ w, Calls Tryz.prog 275 #[.agg #[.int .i64 x, .int .i64 y, .int .i64 z, .int .i64 0, .int .i64 0, .int .i64 0], .int .i64 j, .int .i64 n] w fun e w' => e = .returned (.agg #[.int .i64 p, .int .i64 q, .int .i64 r, .int .i64 0, .int .i64 0, .int .i64 0]) ∧ Below w.heap.size w w') :
  Calls Tryz.prog 253 #[.agg #[.int .i64 x, .int .i64 y, .int .i64 z], .int .i64 j, .int .i64 n] w fun e w' => e = .returned (.agg #[.int .i64 p, .int .i64 q, .int .i64 r]) ∧ Below w.heap.size w w' := by
 have C' := Lib.hid C
 clear C
 go_enter Tryz.func253, Tryz.ntmps253
 go_wp2_with fail
 have HB0 := Lib.hid ((Below.refl _ w).alloc (Nat.le_refl _) (.cells #[.int .i64 x, .int .i64 y, .int .i64 z] 43))
 have HK0 := Lib.hid (Blk.new w #[.int .i64 x, .int .i64 y, .int .i64 z] 43)
 have HB1 := Lib.hid (bput HB0.out (.cells #[.int .i64 0, .int .i64 0, .int .i64 0] 43))
 have HK1 := Lib.hid (Blk.new (w.alloc (.cells #[.int .i64 x, .int .i64 y, .int .i64 z] 43)) #[.int .i64 0, .int .i64 0, .int .i64 0] 43)
 generalize (w.alloc (.cells #[.int .i64 x, .int .i64 y, .int .i64 z] 43)).alloc (.cells #[.int .i64 0, .int .i64 0, .int .i64 0] 43) = w0 at *
 rw [show (w.alloc (.cells #[.int .i64 x, .int .i64 y, .int .i64 z] 43)).heap.size = w.heap.size + 1 by simp] at HK1
 refine (specOneS _ _ _ _).mono ?_
 rintro e w1 ⟨rfl, hb⟩
 have HB2 := Lib.hid (bnext HB1.out hb)
 have HK2 := Lib.hid (HK1.out.kept hb)
 clear hb
 go_wp2_with fail
 refine (C'.out _).mono ?_
 rintro e w2 ⟨rfl, hb⟩
 have HB3 := Lib.hid (bnext HB2.out hb)
 have HK3 := Lib.hid (HK2.out.kept hb)
 clear hb
 go_wp2_with fail
 refine (specStateS _ _ _ _ _ _ _).mono ?_
 rintro e w3 ⟨rfl, hb⟩
 have HB4 := Lib.hid (bnext HB3.out hb)
 have HK4 := Lib.hid (HK3.out.kept hb)
 clear hb
 obtain ⟨q0, q1, q2, f0, f1, f2⟩ := HK4.out.a3
 go_wp2_with fail
 exact bodyPost_ret (v := .agg #[.int .i64 p, .int .i64 q, .int .i64 r]) (by simp [results, Tryz.results253, go_sem, q0, q1, q2]) rfl ⟨rfl, by (repeat refine Below.setCell ?_ (by simp) _); exact HB4.out⟩
theorem specWith (c : UInt8) (j : Nat) (h : VarAt c j) (n : Int) (i : Nat) (w : World) :
  Calls Tryz.prog 253 #[.agg #[.int .i64 (ax i), .int .i64 (ay i), .int .i64 (az i)], .int .i64 j, .int .i64 n] w fun e w' => e = .returned (.agg #[.int .i64 (setX c n i), .int .i64 (setY c n i), .int .i64 (setZ c n i)]) ∧ Below w.heap.size w w' := by
 rcases h with ⟨rfl, rfl⟩ | ⟨rfl, rfl⟩ | ⟨rfl, rfl⟩
 ·exact specWith_of _ _ _ n (ay i) (az i) n 0 w (fun w => specSetS0 _ _ _ _ _ _ _ w)
 ·exact specWith_of _ _ _ (ax i) n (az i) n 1 w (fun w => specSetS1 _ _ _ _ _ _ _ w)
 ·exact specWith_of _ _ _ (ax i) (ay i) n n 2 w (fun w => specSetS2 _ _ _ _ _ _ _ w)
set_option maxHeartbeats 2000000 in
theorem specAsg (c : UInt8) (j : Nat) (h : VarAt c j) (e : ByteArray) {t : Tm} (ht : Ok false false t) (he : e.data.toList = t.ser) (hl : e.size ≤ 200) (i : Nat) (hi : i < 27) (w : World) :
  Calls Tryz.prog 209 #[.agg #[.int .i64 (ax i), .int .i64 (ay i), .int .i64 (az i)], .int .i64 j, .string e] w fun e w' => e = .returned (.agg #[.int .i64 (setX c (val (env i) t) i), .int .i64 (setY c (val (env i) t) i), .int .i64 (setZ c (val (env i) t) i)]) ∧ Below w.heap.size w w' := by
 have hat := at_st3 (i := (i : Int)) (by omega) (by omega)
 have V := fun w => Lib.hid (spv_any (env i) (one_bd hat) e (by omega) t 0 [] w (ok_wide ht) (by rw [List.drop_zero, List.append_nil]; exact he))
 have W := fun w => Lib.hid (specWith c j h (val (env i) t) i w)
 have O := fun w => Lib.hid (specOne (ax i) (ay i) (az i) w)
 clear hat he h
 go_enter Tryz.func209, Tryz.ntmps209
 go_wp2_with fail
 have HB0 := Lib.hid ((Below.refl _ w).alloc (Nat.le_refl _) (.cells #[.int .i64 (ax i), .int .i64 (ay i), .int .i64 (az i)] 43))
 have HK0 := Lib.hid ((Blk.new w #[.int .i64 (ax i), .int .i64 (ay i), .int .i64 (az i)] 43).alloc (.cells #[.int .i64 0, .int .i64 0, .int .i64 0] 43))
 have HB1 := Lib.hid (bput HB0.out (.cells #[.int .i64 0, .int .i64 0, .int .i64 0] 43))
 have HK1 := Lib.hid (Blk.new (w.alloc (.cells #[.int .i64 (ax i), .int .i64 (ay i), .int .i64 (az i)] 43)) #[.int .i64 0, .int .i64 0, .int .i64 0] 43)
 generalize (w.alloc (.cells #[.int .i64 (ax i), .int .i64 (ay i), .int .i64 (az i)] 43)).alloc (.cells #[.int .i64 0, .int .i64 0, .int .i64 0] 43) = w0 at *
 rw [show (w.alloc (.cells #[.int .i64 (ax i), .int .i64 (ay i), .int .i64 (az i)] 43)).heap.size = w.heap.size + 1 by simp] at HK1
 refine (O _).out.mono ?_
 rintro e w1 ⟨rfl, hb⟩
 have HB2 := Lib.hid (bnext HB1.out hb)
 have HK2 := Lib.hid (HK1.out.kept hb)
 have HL2 := Lib.hid (HK0.out.kept hb)
 clear hb
 go_wp2_with fail
 refine (V _).out.mono ?_
 rintro e w2 ⟨rfl, hb⟩
 have HB3 := Lib.hid (bnext HB2.out hb)
 have HK3 := Lib.hid (HK2.out.kept hb)
 have HL3 := Lib.hid (HL2.out.kept hb)
 clear hb
 obtain ⟨r0, r1, r2⟩ := HL3.out.c3
 go_wp2_with fail
 clear r0 r1 r2
 refine (W _).out.mono ?_
 rintro e w3 ⟨rfl, hb⟩
 have HB4 := Lib.hid (bnext HB3.out hb)
 have HK4 := Lib.hid (HK3.out.kept hb)
 clear hb
 obtain ⟨q0, q1, q2, f0, f1, f2⟩ := HK4.out.a3
 go_wp2_with fail
 exact bodyPost_ret (v := .agg #[.int .i64 (setX c (val (env i) t) i), .int .i64 (setY c (val (env i) t) i), .int .i64 (setZ c (val (env i) t) i)]) (by simp [results, Tryz.results209, go_sem, q0, q1, q2]) rfl ⟨rfl, by (repeat refine Below.setCell ?_ (by simp) _); exact HB4.out⟩
theorem hs_byte {s : ByteArray} {n : Nat} (h : Bits n s.data.toList) (k : Nat) (hk : k < s.size) : s[k] = bitc (hs s.data.toList k) := hs_cases h (by simpa using hk)
end Go.Proofs.YtgkoljphndgoeaaGreatDoor
