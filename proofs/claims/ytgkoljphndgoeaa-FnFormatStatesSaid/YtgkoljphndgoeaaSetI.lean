/-
  The program's functions on sets: PredValid, HasState, AndPred, OrPred, NotPred, PredWithin.
-/
import Derived.Test.YtgkoljphndgoeaaSetX
import Derived.Test.YtgkoljphndgoeaaIx0
namespace Go.Proofs.Ytgkoljphndgoeaa
open Go.RowKit

set_option maxHeartbeats 1000000 in
theorem implPredValid_yes (s : ByteArray) (w : World) (hv : Set27 s) : Calls Try.prog 8 #[.string s] w fun e w' => e = .returned (.bool true) ∧ w = w' := by
  have C := fun w => Lib.hid (implRead_yes s w hv)
  go_enter Try.func8, Try.ntmps8
  go_wp2_with fail
  refine (C _).out.mono ?_
  rintro e w' ⟨rfl, rfl⟩
  go_wp2_with fail
  go_ret
  exact ⟨rfl, rfl⟩
set_option maxHeartbeats 1000000 in
theorem implPredValid_no (s : ByteArray) (w : World) (hv : ¬ Set27 s) : Calls Try.prog 8 #[.string s] w fun e w' => e = .returned (.bool false) ∧ w = w' := by
  have C := fun w => Lib.hid (implRead_no s w hv)
  clear hv
  go_enter Try.func8, Try.ntmps8
  go_wp2_with fail
  refine (C _).out.mono ?_
  rintro e w' ⟨rfl, rfl⟩
  go_wp2_with fail
  go_ret
  exact ⟨rfl, rfl⟩

theorem and_bits (F G : Nat → Bool) : bits .and .u32 (nb 27 F : Nat) (nb 27 G : Nat) = (nb 27 (fun i => F i && G i) : Nat) := by
  have h := nb_lt27 F; have h' := nb_lt27 G
  rw [u32_and_nat _ _ (by omega) (by omega), nb_and]
theorem or_bits (F G : Nat → Bool) : bits .or .u32 (nb 27 F : Nat) (nb 27 G : Nat) = (nb 27 (fun i => F i || G i) : Nat) := by
  have h := nb_lt27 F; have h' := nb_lt27 G
  rw [u32_or_nat _ _ (by omega) (by omega), nb_or2]

/-- The number of a state. -/
def ixn (x y z : Int) : Nat := (x + 3 * y + 9 * z).toNat
theorem ixn_lt {x y z : Int} (h : st3 x y z = true) : ixn x y z < 27 ∧ ((ixn x y z : Nat) : Int) = x + 3 * y + 9 * z := by
  have h := st3_lt h
  unfold ixn; omega

set_option maxHeartbeats 1000000 in
theorem implHasS_yes (p : ByteArray) (x y z : Int) (w : World) (hp : Set27 p) (h : st3 x y z = true) : Calls Try.prog 11 #[.string p, .agg #[.int .i64 x, .int .i64 y, .int .i64 z]] w fun e w' => e = .returned (.bool (hs p.data.toList (ixn x y z))) ∧ Below w.heap.size w w' := by
  have C := fun w => Lib.hid (implRead_yes p w hp)
  have V := fun w => Lib.hid (implStateValid x y z w)
  rw [h] at V
  have hi := ixn_lt h
  have I := fun w => Lib.hid (implIx_yes x y z w h)
  rw [← hi.2] at I
  have D := fun w => Lib.hid (implHasB (hs p.data.toList) (ixn x y z) w hi.1)
  clear hi h
  go_enter Try.func11, Try.ntmps11
  go_wp2_with fail
  have HT0 := Lib.hid (Blk.new w #[.int .i64 x, .int .i64 y, .int .i64 z] 28)
  have HB0 := Lib.hid ((Below.refl _ w).alloc (Nat.le_refl _) (.cells #[.int .i64 x, .int .i64 y, .int .i64 z] 28))
  generalize w.alloc (.cells #[.int .i64 x, .int .i64 y, .int .i64 z] 28) = w0 at *
  refine (C _).out.mono ?_
  rintro e w' ⟨rfl, rfl⟩
  obtain ⟨q0, q1, q2⟩ := HT0.out.c3
  go_wp2_with fail
  clear q0 q1 q2
  refine (V _).out.mono ?_
  rintro e w1 ⟨rfl, hb⟩
  have HB1 := Lib.hid (bnext HB0.out hb)
  have HT1 := Lib.hid (HT0.out.kept hb)
  clear hb
  obtain ⟨q0, q1, q2⟩ := HT1.out.c3
  go_wp2_with fail
  clear q0 q1 q2
  refine (I _).out.mono ?_
  rintro e w2 ⟨rfl, hb⟩
  have HB2 := Lib.hid (bnext HB1.out hb)
  clear hb
  go_wp2_with fail
  refine (D _).out.mono ?_
  rintro e w' ⟨rfl, rfl⟩
  go_wp2_with fail
  go_ret
  exact ⟨rfl, HB2.out⟩
set_option maxHeartbeats 1000000 in
theorem implHasS_st (p : ByteArray) (x y z : Int) (w : World) (hp : Set27 p) (h : st3 x y z = false) : Calls Try.prog 11 #[.string p, .agg #[.int .i64 x, .int .i64 y, .int .i64 z]] w fun e w' => e = .returned (.bool false) ∧ Below w.heap.size w w' := by
  have C := fun w => Lib.hid (implRead_yes p w hp)
  have V := fun w => Lib.hid (implStateValid x y z w)
  rw [h] at V
  clear h
  go_enter Try.func11, Try.ntmps11
  go_wp2_with fail
  have HT0 := Lib.hid (Blk.new w #[.int .i64 x, .int .i64 y, .int .i64 z] 28)
  have HB0 := Lib.hid ((Below.refl _ w).alloc (Nat.le_refl _) (.cells #[.int .i64 x, .int .i64 y, .int .i64 z] 28))
  generalize w.alloc (.cells #[.int .i64 x, .int .i64 y, .int .i64 z] 28) = w0 at *
  refine (C _).out.mono ?_
  rintro e w' ⟨rfl, rfl⟩
  obtain ⟨q0, q1, q2⟩ := HT0.out.c3
  go_wp2_with fail
  clear q0 q1 q2
  refine (V _).out.mono ?_
  rintro e w1 ⟨rfl, hb⟩
  have HB1 := Lib.hid (bnext HB0.out hb)
  clear hb
  go_wp2_with fail
  go_ret
  exact ⟨rfl, HB1.out⟩
set_option maxHeartbeats 1000000 in
theorem implHasS_no (p : ByteArray) (x y z : Int) (w : World) (hp : ¬ Set27 p) : Calls Try.prog 11 #[.string p, .agg #[.int .i64 x, .int .i64 y, .int .i64 z]] w fun e w' => e = .returned (.bool false) ∧ Below w.heap.size w w' := by
  have C := fun w => Lib.hid (implRead_no p w hp)
  clear hp
  go_enter Try.func11, Try.ntmps11
  go_wp2_with fail
  refine (C _).out.mono ?_
  rintro e w' ⟨rfl, rfl⟩
  go_wp2_with fail
  go_ret
  exact ⟨rfl, (Below.refl _ _).alloc (Nat.le_refl _) _⟩
end Go.Proofs.Ytgkoljphndgoeaa
