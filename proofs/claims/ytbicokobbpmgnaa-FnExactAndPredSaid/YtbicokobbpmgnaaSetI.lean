/-
  The program's functions on sets: PredValid, HasState, AndPred, OrPred, NotPred, PredWithin.
-/
import Derived.Test.YtbicokobbpmgnaaSetX
import Derived.Test.YtbicokobbpmgnaaIx0
namespace Go.Proofs.Ytbicokobbpmgnaa
open Go.RowKit

set_option maxHeartbeats 1000000 in
theorem implPredValid_yes (s : ByteArray) (w : World) (hv : Set27 s) : Calls Try.prog 11 #[.string s] w fun e w' => e = .returned (.bool true) ∧ w = w' := by
  have C := fun w => Lib.hid (implRead_yes s w hv)
  go_enter Try.func11, Try.ntmps11
  go_wp2_with fail
  refine (C _).out.mono ?_
  rintro e w' ⟨rfl, rfl⟩
  go_wp2_with fail
  go_ret
  exact ⟨rfl, rfl⟩
set_option maxHeartbeats 1000000 in
theorem implPredValid_no (s : ByteArray) (w : World) (hv : ¬ Set27 s) : Calls Try.prog 11 #[.string s] w fun e w' => e = .returned (.bool false) ∧ w = w' := by
  have C := fun w => Lib.hid (implRead_no s w hv)
  clear hv
  go_enter Try.func11, Try.ntmps11
  go_wp2_with fail
  refine (C _).out.mono ?_
  rintro e w' ⟨rfl, rfl⟩
  go_wp2_with fail
  go_ret
  exact ⟨rfl, rfl⟩

set_option maxHeartbeats 1000000 in
theorem implReads_yes (p q : ByteArray) (w : World) (hp : Set27 p) (hq : Set27 q) : Calls Try.prog 33 #[.string p, .string q] w fun e w' => e = .returned (.tuple #[.int .u32 (nb 27 (hs p.data.toList)), .int .u32 (nb 27 (hs q.data.toList)), .bool true]) ∧ w = w' := by
  have C := fun w => Lib.hid (implRead_yes p w hp)
  have D := fun w => Lib.hid (implRead_yes q w hq)
  go_enter Try.func33, Try.ntmps33
  go_wp2_with fail
  refine (C _).out.mono ?_
  rintro e w' ⟨rfl, rfl⟩
  go_wp2_with fail
  refine (D _).out.mono ?_
  rintro e w' ⟨rfl, rfl⟩
  go_wp2_with fail
  go_ret3
  exact ⟨rfl, rfl⟩
set_option maxHeartbeats 1000000 in
theorem implReads_no (p q : ByteArray) (w : World) (h : ¬ (Set27 p ∧ Set27 q)) : Calls Try.prog 33 #[.string p, .string q] w fun e w' => e = .returned (.tuple #[.int .u32 0, .int .u32 0, .bool false]) ∧ w = w' := by
  by_cases hp : Set27 p
  · have hq : ¬ Set27 q := fun hq => h ⟨hp, hq⟩
    have C := fun w => Lib.hid (implRead_yes p w hp)
    have D := fun w => Lib.hid (implRead_no q w hq)
    clear h hq
    go_enter Try.func33, Try.ntmps33
    go_wp2_with fail
    refine (C _).out.mono ?_
    rintro e w' ⟨rfl, rfl⟩
    go_wp2_with fail
    refine (D _).out.mono ?_
    rintro e w' ⟨rfl, rfl⟩
    go_wp2_with fail
    go_ret3
    exact ⟨rfl, rfl⟩
  · have C := fun w => Lib.hid (implRead_no p w hp)
    clear h hp
    by_cases hq : Set27 q
    · have D := fun w => Lib.hid (implRead_yes q w hq)
      clear hq
      go_enter Try.func33, Try.ntmps33
      go_wp2_with fail
      refine (C _).out.mono ?_
      rintro e w' ⟨rfl, rfl⟩
      go_wp2_with fail
      refine (D _).out.mono ?_
      rintro e w' ⟨rfl, rfl⟩
      go_wp2_with fail
      go_ret3
      exact ⟨rfl, rfl⟩
    · have D := fun w => Lib.hid (implRead_no q w hq)
      clear hq
      go_enter Try.func33, Try.ntmps33
      go_wp2_with fail
      refine (C _).out.mono ?_
      rintro e w' ⟨rfl, rfl⟩
      go_wp2_with fail
      refine (D _).out.mono ?_
      rintro e w' ⟨rfl, rfl⟩
      go_wp2_with fail
      go_ret3
      exact ⟨rfl, rfl⟩

theorem and_bits (F G : Nat → Bool) : bits .and .u32 (nb 27 F : Nat) (nb 27 G : Nat) = (nb 27 (fun i => F i && G i) : Nat) := by
  have h := nb_lt27 F; have h' := nb_lt27 G
  rw [u32_and_nat _ _ (by omega) (by omega), nb_and]
theorem or_bits (F G : Nat → Bool) : bits .or .u32 (nb 27 F : Nat) (nb 27 G : Nat) = (nb 27 (fun i => F i || G i) : Nat) := by
  have h := nb_lt27 F; have h' := nb_lt27 G
  rw [u32_or_nat _ _ (by omega) (by omega), nb_or2]

set_option maxHeartbeats 1000000 in
theorem implAnd_yes (p q : ByteArray) (w : World) (hp : Set27 p) (hq : Set27 q) : Calls Try.prog 16 #[.string p, .string q] w fun e w' => e = .returned (.tuple #[.string (bs (tb (fun i => hs p.data.toList i && hs q.data.toList i))), .bool true]) ∧ Below w.heap.size w w' := by
  have C := fun w => Lib.hid (implReads_yes p q w hp hq)
  have H := Lib.hid (and_bits (hs p.data.toList) (hs q.data.toList))
  have D := fun w => Lib.hid (implText (fun i => hs p.data.toList i && hs q.data.toList i) w)
  go_enter Try.func16, Try.ntmps16
  go_wp2_with fail
  refine (C _).out.mono ?_
  rintro e w' ⟨rfl, rfl⟩
  go_wp2_with fail
  rw [H.out]
  refine (D _).out.mono ?_
  rintro e w1 ⟨rfl, hb⟩
  have HB := Lib.hid hb
  clear hb
  go_wp2_with fail
  go_ret2
  exact ⟨rfl, HB.out⟩
set_option maxHeartbeats 1000000 in
theorem implAnd_no (p q : ByteArray) (w : World) (h : ¬ (Set27 p ∧ Set27 q)) : Calls Try.prog 16 #[.string p, .string q] w fun e w' => e = .returned (.tuple #[.string (bs []), .bool false]) ∧ Below w.heap.size w w' := by
  have C := fun w => Lib.hid (implReads_no p q w h)
  clear h
  go_enter Try.func16, Try.ntmps16
  go_wp2_with fail
  refine (C _).out.mono ?_
  rintro e w' ⟨rfl, rfl⟩
  go_wp2_with fail
  go_ret2
  exact ⟨rfl, Below.refl _ _⟩

set_option maxHeartbeats 1000000 in
theorem implOr_yes (p q : ByteArray) (w : World) (hp : Set27 p) (hq : Set27 q) : Calls Try.prog 18 #[.string p, .string q] w fun e w' => e = .returned (.tuple #[.string (bs (tb (fun i => hs p.data.toList i || hs q.data.toList i))), .bool true]) ∧ Below w.heap.size w w' := by
  have C := fun w => Lib.hid (implReads_yes p q w hp hq)
  have H := Lib.hid (or_bits (hs p.data.toList) (hs q.data.toList))
  have D := fun w => Lib.hid (implText (fun i => hs p.data.toList i || hs q.data.toList i) w)
  go_enter Try.func18, Try.ntmps18
  go_wp2_with fail
  refine (C _).out.mono ?_
  rintro e w' ⟨rfl, rfl⟩
  go_wp2_with fail
  rw [H.out]
  refine (D _).out.mono ?_
  rintro e w1 ⟨rfl, hb⟩
  have HB := Lib.hid hb
  clear hb
  go_wp2_with fail
  go_ret2
  exact ⟨rfl, HB.out⟩
set_option maxHeartbeats 1000000 in
theorem implOr_no (p q : ByteArray) (w : World) (h : ¬ (Set27 p ∧ Set27 q)) : Calls Try.prog 18 #[.string p, .string q] w fun e w' => e = .returned (.tuple #[.string (bs []), .bool false]) ∧ Below w.heap.size w w' := by
  have C := fun w => Lib.hid (implReads_no p q w h)
  clear h
  go_enter Try.func18, Try.ntmps18
  go_wp2_with fail
  refine (C _).out.mono ?_
  rintro e w' ⟨rfl, rfl⟩
  go_wp2_with fail
  go_ret2
  exact ⟨rfl, Below.refl _ _⟩

set_option maxHeartbeats 1000000 in
theorem implNotP_yes (p : ByteArray) (w : World) (hp : Set27 p) : Calls Try.prog 20 #[.string p] w fun e w' => e = .returned (.tuple #[.string (bs (tb (fun i => !hs p.data.toList i))), .bool true]) ∧ Below w.heap.size w w' := by
  have C := fun w => Lib.hid (implRead_yes p w hp)
  have N := fun w => Lib.hid (implNot (hs p.data.toList) w)
  have D := fun w => Lib.hid (implText (fun i => !hs p.data.toList i) w)
  go_enter Try.func20, Try.ntmps20
  go_wp2_with fail
  refine (C _).out.mono ?_
  rintro e w' ⟨rfl, rfl⟩
  go_wp2_with fail
  refine (N _).out.mono ?_
  rintro e w' ⟨rfl, rfl⟩
  go_wp2_with fail
  refine (D _).out.mono ?_
  rintro e w1 ⟨rfl, hb⟩
  have HB := Lib.hid hb
  clear hb
  go_wp2_with fail
  go_ret2
  exact ⟨rfl, HB.out⟩
set_option maxHeartbeats 1000000 in
theorem implNotP_no (p : ByteArray) (w : World) (h : ¬ Set27 p) : Calls Try.prog 20 #[.string p] w fun e w' => e = .returned (.tuple #[.string (bs []), .bool false]) ∧ Below w.heap.size w w' := by
  have C := fun w => Lib.hid (implRead_no p w h)
  clear h
  go_enter Try.func20, Try.ntmps20
  go_wp2_with fail
  refine (C _).out.mono ?_
  rintro e w' ⟨rfl, rfl⟩
  go_wp2_with fail
  go_ret2
  exact ⟨rfl, Below.refl _ _⟩

set_option maxHeartbeats 1000000 in
theorem implPWithin_yes (p q : ByteArray) (w : World) (hp : Set27 p) (hq : Set27 q) : Calls Try.prog 22 #[.string p, .string q] w fun e w' => e = .returned (.bool (wi 27 (hs p.data.toList) (hs q.data.toList))) ∧ w = w' := by
  have C := fun w => Lib.hid (implReads_yes p q w hp hq)
  have D := fun w => Lib.hid (implWithin (hs p.data.toList) (hs q.data.toList) w)
  go_enter Try.func22, Try.ntmps22
  go_wp2_with fail
  refine (C _).out.mono ?_
  rintro e w' ⟨rfl, rfl⟩
  go_wp2_with fail
  refine (D _).out.mono ?_
  rintro e w' ⟨rfl, rfl⟩
  go_wp2_with fail
  go_ret
  exact ⟨rfl, rfl⟩
set_option maxHeartbeats 1000000 in
theorem implPWithin_no (p q : ByteArray) (w : World) (h : ¬ (Set27 p ∧ Set27 q)) : Calls Try.prog 22 #[.string p, .string q] w fun e w' => e = .returned (.bool false) ∧ w = w' := by
  have C := fun w => Lib.hid (implReads_no p q w h)
  clear h
  go_enter Try.func22, Try.ntmps22
  go_wp2_with fail
  refine (C _).out.mono ?_
  rintro e w' ⟨rfl, rfl⟩
  go_wp2_with fail
  go_ret
  exact ⟨rfl, rfl⟩

/-- The number of a state. -/
def ixn (x y z : Int) : Nat := (x + 3 * y + 9 * z).toNat
theorem ixn_lt {x y z : Int} (h : st3 x y z = true) : ixn x y z < 27 ∧ ((ixn x y z : Nat) : Int) = x + 3 * y + 9 * z := by
  have h := st3_bd h
  unfold ixn; omega

set_option maxHeartbeats 1000000 in
theorem implHasS_yes (p : ByteArray) (x y z : Int) (w : World) (hp : Set27 p) (h : st3 x y z = true) : Calls Try.prog 14 #[.string p, .agg #[.int .i64 x, .int .i64 y, .int .i64 z]] w fun e w' => e = .returned (.bool (hs p.data.toList (ixn x y z))) ∧ Below w.heap.size w w' := by
  have C := fun w => Lib.hid (implRead_yes p w hp)
  have V := fun w => Lib.hid (implStateValid x y z w)
  rw [h] at V
  have hi := ixn_lt h
  have I := fun w => Lib.hid (implIx_yes x y z w h)
  rw [← hi.2] at I
  have D := fun w => Lib.hid (implHasB (hs p.data.toList) (ixn x y z) w hi.1)
  clear hi h
  go_enter Try.func14, Try.ntmps14
  go_wp2_with fail
  have HT0 := Lib.hid (Blk.new w #[.int .i64 x, .int .i64 y, .int .i64 z] 26)
  have HB0 := Lib.hid ((Below.refl _ w).alloc (Nat.le_refl _) (.cells #[.int .i64 x, .int .i64 y, .int .i64 z] 26))
  generalize w.alloc (.cells #[.int .i64 x, .int .i64 y, .int .i64 z] 26) = w0 at *
  refine (C _).out.mono ?_
  rintro e w' ⟨rfl, rfl⟩
  obtain ⟨q0, q1, q2⟩ := HT0.out.c3
  go_wp2_with fail
  clear q0 q1 q2
  refine (V _).out.mono ?_
  rintro e w1 ⟨rfl, hb⟩
  have HB1 := Lib.hid (bnext HB0.out hb)
  have HT1 := Lib.hid (HT0.out.kept hb)
  clear hb
  obtain ⟨q0, q1, q2⟩ := HT1.out.c3
  go_wp2_with fail
  clear q0 q1 q2
  refine (I _).out.mono ?_
  rintro e w2 ⟨rfl, hb⟩
  have HB2 := Lib.hid (bnext HB1.out hb)
  clear hb
  go_wp2_with fail
  refine (D _).out.mono ?_
  rintro e w' ⟨rfl, rfl⟩
  go_wp2_with fail
  go_ret
  exact ⟨rfl, HB2.out⟩
set_option maxHeartbeats 1000000 in
theorem implHasS_st (p : ByteArray) (x y z : Int) (w : World) (hp : Set27 p) (h : st3 x y z = false) : Calls Try.prog 14 #[.string p, .agg #[.int .i64 x, .int .i64 y, .int .i64 z]] w fun e w' => e = .returned (.bool false) ∧ Below w.heap.size w w' := by
  have C := fun w => Lib.hid (implRead_yes p w hp)
  have V := fun w => Lib.hid (implStateValid x y z w)
  rw [h] at V
  clear h
  go_enter Try.func14, Try.ntmps14
  go_wp2_with fail
  have HT0 := Lib.hid (Blk.new w #[.int .i64 x, .int .i64 y, .int .i64 z] 26)
  have HB0 := Lib.hid ((Below.refl _ w).alloc (Nat.le_refl _) (.cells #[.int .i64 x, .int .i64 y, .int .i64 z] 26))
  generalize w.alloc (.cells #[.int .i64 x, .int .i64 y, .int .i64 z] 26) = w0 at *
  refine (C _).out.mono ?_
  rintro e w' ⟨rfl, rfl⟩
  obtain ⟨q0, q1, q2⟩ := HT0.out.c3
  go_wp2_with fail
  clear q0 q1 q2
  refine (V _).out.mono ?_
  rintro e w1 ⟨rfl, hb⟩
  have HB1 := Lib.hid (bnext HB0.out hb)
  clear hb
  go_wp2_with fail
  go_ret
  exact ⟨rfl, HB1.out⟩
set_option maxHeartbeats 1000000 in
theorem implHasS_no (p : ByteArray) (x y z : Int) (w : World) (hp : ¬ Set27 p) : Calls Try.prog 14 #[.string p, .agg #[.int .i64 x, .int .i64 y, .int .i64 z]] w fun e w' => e = .returned (.bool false) ∧ Below w.heap.size w w' := by
  have C := fun w => Lib.hid (implRead_no p w hp)
  clear hp
  go_enter Try.func14, Try.ntmps14
  go_wp2_with fail
  refine (C _).out.mono ?_
  rintro e w' ⟨rfl, rfl⟩
  go_wp2_with fail
  go_ret
  exact ⟨rfl, (Below.refl _ _).alloc (Nat.le_refl _) _⟩
end Go.Proofs.Ytbicokobbpmgnaa
