/-
  Several small texts in one: SetX SetI SetJ Pop SetC QntT PV SetL SetM DrawW DrawS DrawV DrawL PpF Has Row PpS HasK PredOf DrawB SpecVars VIn Vars Free PpV.
-/
import Derived.Test.YtnhadmeadegckaaSetW
import Derived.Test.YtnhadmeadegckaaIx0
import Derived.Test.YtnhadmeadegckaaSetS
import Derived.Deep.QuietTactic
import Derived.BigQuiet
import Derived.Test.YtnhadmeadegckaaQntS
import Derived.Test.YtnhadmeadegckaaQntI
import Derived.Test.YtnhadmeadegckaaAsgS
import Derived.Deep.RegionHeld3
import Derived.Test.YtnhadmeadegckaaDraw
import Derived.Test.YtnhadmeadegckaaDrawUV
import Derived.Test.YtnhadmeadegckaaTst
import Derived.Test.YtnhadmeadegckaaBlk
import Derived.Test.YtnhadmeadegckaaBytes
import Derived.Laws.OwnMore
import Derived.Deep.AppendLies
import Derived.Deep.Onto
import Derived.RowKit3
import Derived.Test.YtnhadmeadegckaaSpecValid
import Derived.Test.YtnhadmeadegckaaRead
import Derived.Test.YtnhadmeadegckaaDrawU
import Derived.Test.YtnhadmeadegckaaExpr
import Derived.Test.YtnhadmeadegckaaShelf
import Derived.Test.YtnhadmeadegckaaHolds
namespace Go.Proofs.Ytnhadmeadegckaa
open Go.RowKit

set_option maxHeartbeats 1000000 in
theorem implWithin (F G : Nat → Bool) (w : World) : Calls Try.prog 61 #[.int .u32 (nb 27 F), .int .u32 (nb 27 G)] w fun e w' => e = .returned (.bool (wi 27 F G)) ∧ w = w' := by
  have H := Lib.hid (within_bits F G)
  go_enter Try.func61, Try.ntmps61
  go_wp2_with fail
  go_ret
  exact ⟨by rw [← H.out]; rfl, rfl⟩
end Go.Proofs.Ytnhadmeadegckaa

namespace Go.Proofs.Ytnhadmeadegckaa
open Go.RowKit

set_option maxHeartbeats 1000000 in
theorem implPredValid_yes (s : ByteArray) (w : World) (hv : Set27 s) : Calls Try.prog 18 #[.string s] w fun e w' => e = .returned (.bool true) ∧ w = w' := by
  have C := fun w => Lib.hid (implRead_yes s w hv)
  go_enter Try.func18, Try.ntmps18
  go_wp2_with fail
  refine (C _).out.mono ?_
  rintro e w' ⟨rfl, rfl⟩
  go_wp2_with fail
  go_ret
  exact ⟨rfl, rfl⟩
set_option maxHeartbeats 1000000 in
theorem implPredValid_no (s : ByteArray) (w : World) (hv : ¬ Set27 s) : Calls Try.prog 18 #[.string s] w fun e w' => e = .returned (.bool false) ∧ w = w' := by
  have C := fun w => Lib.hid (implRead_no s w hv)
  clear hv
  go_enter Try.func18, Try.ntmps18
  go_wp2_with fail
  refine (C _).out.mono ?_
  rintro e w' ⟨rfl, rfl⟩
  go_wp2_with fail
  go_ret
  exact ⟨rfl, rfl⟩

set_option maxHeartbeats 1000000 in
theorem implReads_yes (p q : ByteArray) (w : World) (hp : Set27 p) (hq : Set27 q) : Calls Try.prog 56 #[.string p, .string q] w fun e w' => e = .returned (.tuple #[.int .u32 (nb 27 (hs p.data.toList)), .int .u32 (nb 27 (hs q.data.toList)), .bool true]) ∧ w = w' := by
  have C := fun w => Lib.hid (implRead_yes p w hp)
  have D := fun w => Lib.hid (implRead_yes q w hq)
  go_enter Try.func56, Try.ntmps56
  go_wp2_with fail
  refine (C _).out.mono ?_
  rintro e w' ⟨rfl, rfl⟩
  go_wp2_with fail
  refine (D _).out.mono ?_
  rintro e w' ⟨rfl, rfl⟩
  go_wp2_with fail
  go_ret3
  exact ⟨rfl, rfl⟩
set_option maxHeartbeats 1000000 in
theorem implReads_no (p q : ByteArray) (w : World) (h : ¬ (Set27 p ∧ Set27 q)) : Calls Try.prog 56 #[.string p, .string q] w fun e w' => e = .returned (.tuple #[.int .u32 0, .int .u32 0, .bool false]) ∧ w = w' := by
  by_cases hp : Set27 p
  · have hq : ¬ Set27 q := fun hq => h ⟨hp, hq⟩
    have C := fun w => Lib.hid (implRead_yes p w hp)
    have D := fun w => Lib.hid (implRead_no q w hq)
    clear h hq
    go_enter Try.func56, Try.ntmps56
    go_wp2_with fail
    refine (C _).out.mono ?_
    rintro e w' ⟨rfl, rfl⟩
    go_wp2_with fail
    refine (D _).out.mono ?_
    rintro e w' ⟨rfl, rfl⟩
    go_wp2_with fail
    go_ret3
    exact ⟨rfl, rfl⟩
  · have C := fun w => Lib.hid (implRead_no p w hp)
    clear h hp
    by_cases hq : Set27 q
    · have D := fun w => Lib.hid (implRead_yes q w hq)
      clear hq
      go_enter Try.func56, Try.ntmps56
      go_wp2_with fail
      refine (C _).out.mono ?_
      rintro e w' ⟨rfl, rfl⟩
      go_wp2_with fail
      refine (D _).out.mono ?_
      rintro e w' ⟨rfl, rfl⟩
      go_wp2_with fail
      go_ret3
      exact ⟨rfl, rfl⟩
    · have D := fun w => Lib.hid (implRead_no q w hq)
      clear hq
      go_enter Try.func56, Try.ntmps56
      go_wp2_with fail
      refine (C _).out.mono ?_
      rintro e w' ⟨rfl, rfl⟩
      go_wp2_with fail
      refine (D _).out.mono ?_
      rintro e w' ⟨rfl, rfl⟩
      go_wp2_with fail
      go_ret3
      exact ⟨rfl, rfl⟩

theorem and_bits (F G : Nat → Bool) : bits .and .u32 (nb 27 F : Nat) (nb 27 G : Nat) = (nb 27 (fun i => F i && G i) : Nat) := by
  have h := nb_lt27 F; have h' := nb_lt27 G
  rw [u32_and_nat _ _ (by omega) (by omega), nb_and]
theorem or_bits (F G : Nat → Bool) : bits .or .u32 (nb 27 F : Nat) (nb 27 G : Nat) = (nb 27 (fun i => F i || G i) : Nat) := by
  have h := nb_lt27 F; have h' := nb_lt27 G
  rw [u32_or_nat _ _ (by omega) (by omega), nb_or2]

set_option maxHeartbeats 1000000 in
theorem implAnd_yes (p q : ByteArray) (w : World) (hp : Set27 p) (hq : Set27 q) : Calls Try.prog 21 #[.string p, .string q] w fun e w' => e = .returned (.tuple #[.string (bs (tb (fun i => hs p.data.toList i && hs q.data.toList i))), .bool true]) ∧ Below w.heap.size w w' := by
  have C := fun w => Lib.hid (implReads_yes p q w hp hq)
  have H := Lib.hid (and_bits (hs p.data.toList) (hs q.data.toList))
  have D := fun w => Lib.hid (implText (fun i => hs p.data.toList i && hs q.data.toList i) w)
  go_enter Try.func21, Try.ntmps21
  go_wp2_with fail
  refine (C _).out.mono ?_
  rintro e w' ⟨rfl, rfl⟩
  go_wp2_with fail
  rw [H.out]
  refine (D _).out.mono ?_
  rintro e w1 ⟨rfl, hb⟩
  have HB := Lib.hid hb
  clear hb
  go_wp2_with fail
  go_ret2
  exact ⟨rfl, HB.out⟩
set_option maxHeartbeats 1000000 in
theorem implAnd_no (p q : ByteArray) (w : World) (h : ¬ (Set27 p ∧ Set27 q)) : Calls Try.prog 21 #[.string p, .string q] w fun e w' => e = .returned (.tuple #[.string (bs []), .bool false]) ∧ Below w.heap.size w w' := by
  have C := fun w => Lib.hid (implReads_no p q w h)
  clear h
  go_enter Try.func21, Try.ntmps21
  go_wp2_with fail
  refine (C _).out.mono ?_
  rintro e w' ⟨rfl, rfl⟩
  go_wp2_with fail
  go_ret2
  exact ⟨rfl, Below.refl _ _⟩

set_option maxHeartbeats 1000000 in
theorem implOr_yes (p q : ByteArray) (w : World) (hp : Set27 p) (hq : Set27 q) : Calls Try.prog 23 #[.string p, .string q] w fun e w' => e = .returned (.tuple #[.string (bs (tb (fun i => hs p.data.toList i || hs q.data.toList i))), .bool true]) ∧ Below w.heap.size w w' := by
  have C := fun w => Lib.hid (implReads_yes p q w hp hq)
  have H := Lib.hid (or_bits (hs p.data.toList) (hs q.data.toList))
  have D := fun w => Lib.hid (implText (fun i => hs p.data.toList i || hs q.data.toList i) w)
  go_enter Try.func23, Try.ntmps23
  go_wp2_with fail
  refine (C _).out.mono ?_
  rintro e w' ⟨rfl, rfl⟩
  go_wp2_with fail
  rw [H.out]
  refine (D _).out.mono ?_
  rintro e w1 ⟨rfl, hb⟩
  have HB := Lib.hid hb
  clear hb
  go_wp2_with fail
  go_ret2
  exact ⟨rfl, HB.out⟩
set_option maxHeartbeats 1000000 in
theorem implOr_no (p q : ByteArray) (w : World) (h : ¬ (Set27 p ∧ Set27 q)) : Calls Try.prog 23 #[.string p, .string q] w fun e w' => e = .returned (.tuple #[.string (bs []), .bool false]) ∧ Below w.heap.size w w' := by
  have C := fun w => Lib.hid (implReads_no p q w h)
  clear h
  go_enter Try.func23, Try.ntmps23
  go_wp2_with fail
  refine (C _).out.mono ?_
  rintro e w' ⟨rfl, rfl⟩
  go_wp2_with fail
  go_ret2
  exact ⟨rfl, Below.refl _ _⟩

set_option maxHeartbeats 1000000 in
theorem implNotP_yes (p : ByteArray) (w : World) (hp : Set27 p) : Calls Try.prog 29 #[.string p] w fun e w' => e = .returned (.tuple #[.string (bs (tb (fun i => !hs p.data.toList i))), .bool true]) ∧ Below w.heap.size w w' := by
  have C := fun w => Lib.hid (implRead_yes p w hp)
  have N := fun w => Lib.hid (implNot (hs p.data.toList) w)
  have D := fun w => Lib.hid (implText (fun i => !hs p.data.toList i) w)
  go_enter Try.func29, Try.ntmps29
  go_wp2_with fail
  refine (C _).out.mono ?_
  rintro e w' ⟨rfl, rfl⟩
  go_wp2_with fail
  refine (N _).out.mono ?_
  rintro e w' ⟨rfl, rfl⟩
  go_wp2_with fail
  refine (D _).out.mono ?_
  rintro e w1 ⟨rfl, hb⟩
  have HB := Lib.hid hb
  clear hb
  go_wp2_with fail
  go_ret2
  exact ⟨rfl, HB.out⟩
set_option maxHeartbeats 1000000 in
theorem implNotP_no (p : ByteArray) (w : World) (h : ¬ Set27 p) : Calls Try.prog 29 #[.string p] w fun e w' => e = .returned (.tuple #[.string (bs []), .bool false]) ∧ Below w.heap.size w w' := by
  have C := fun w => Lib.hid (implRead_no p w h)
  clear h
  go_enter Try.func29, Try.ntmps29
  go_wp2_with fail
  refine (C _).out.mono ?_
  rintro e w' ⟨rfl, rfl⟩
  go_wp2_with fail
  go_ret2
  exact ⟨rfl, Below.refl _ _⟩

set_option maxHeartbeats 1000000 in
theorem implPWithin_yes (p q : ByteArray) (w : World) (hp : Set27 p) (hq : Set27 q) : Calls Try.prog 27 #[.string p, .string q] w fun e w' => e = .returned (.bool (wi 27 (hs p.data.toList) (hs q.data.toList))) ∧ w = w' := by
  have C := fun w => Lib.hid (implReads_yes p q w hp hq)
  have D := fun w => Lib.hid (implWithin (hs p.data.toList) (hs q.data.toList) w)
  go_enter Try.func27, Try.ntmps27
  go_wp2_with fail
  refine (C _).out.mono ?_
  rintro e w' ⟨rfl, rfl⟩
  go_wp2_with fail
  refine (D _).out.mono ?_
  rintro e w' ⟨rfl, rfl⟩
  go_wp2_with fail
  go_ret
  exact ⟨rfl, rfl⟩
set_option maxHeartbeats 1000000 in
theorem implPWithin_no (p q : ByteArray) (w : World) (h : ¬ (Set27 p ∧ Set27 q)) : Calls Try.prog 27 #[.string p, .string q] w fun e w' => e = .returned (.bool false) ∧ w = w' := by
  have C := fun w => Lib.hid (implReads_no p q w h)
  clear h
  go_enter Try.func27, Try.ntmps27
  go_wp2_with fail
  refine (C _).out.mono ?_
  rintro e w' ⟨rfl, rfl⟩
  go_wp2_with fail
  go_ret
  exact ⟨rfl, rfl⟩

/-- The number of a state. -/
def ixn (x y z : Int) : Nat := (x + 3 * y + 9 * z).toNat
theorem ixn_lt {x y z : Int} (h : st3 x y z = true) : ixn x y z < 27 ∧ ((ixn x y z : Nat) : Int) = x + 3 * y + 9 * z := by
  have h := st3_lt h
  unfold ixn; omega

set_option maxHeartbeats 1000000 in
theorem implHasS_yes (p : ByteArray) (x y z : Int) (w : World) (hp : Set27 p) (h : st3 x y z = true) : Calls Try.prog 13 #[.string p, .agg #[.int .i64 x, .int .i64 y, .int .i64 z]] w fun e w' => e = .returned (.bool (hs p.data.toList (ixn x y z))) ∧ Below w.heap.size w w' := by
  have C := fun w => Lib.hid (implRead_yes p w hp)
  have V := fun w => Lib.hid (implStateValid x y z w)
  rw [h] at V
  have hi := ixn_lt h
  have I := fun w => Lib.hid (implIx_yes x y z w h)
  rw [← hi.2] at I
  have D := fun w => Lib.hid (implHasB (hs p.data.toList) (ixn x y z) w hi.1)
  clear hi h
  go_enter Try.func13, Try.ntmps13
  go_wp2_with fail
  have HT0 := Lib.hid (Blk.new w #[.int .i64 x, .int .i64 y, .int .i64 z] 30)
  have HB0 := Lib.hid ((Below.refl _ w).alloc (Nat.le_refl _) (.cells #[.int .i64 x, .int .i64 y, .int .i64 z] 30))
  generalize w.alloc (.cells #[.int .i64 x, .int .i64 y, .int .i64 z] 30) = w0 at *
  refine (C _).out.mono ?_
  rintro e w' ⟨rfl, rfl⟩
  obtain ⟨q0, q1, q2⟩ := HT0.out.c3
  go_wp2_with fail
  clear q0 q1 q2
  refine (V _).out.mono ?_
  rintro e w1 ⟨rfl, hb⟩
  have HB1 := Lib.hid (bnext HB0.out hb)
  have HT1 := Lib.hid (HT0.out.kept hb)
  clear hb
  obtain ⟨q0, q1, q2⟩ := HT1.out.c3
  go_wp2_with fail
  clear q0 q1 q2
  refine (I _).out.mono ?_
  rintro e w2 ⟨rfl, hb⟩
  have HB2 := Lib.hid (bnext HB1.out hb)
  clear hb
  go_wp2_with fail
  refine (D _).out.mono ?_
  rintro e w' ⟨rfl, rfl⟩
  go_wp2_with fail
  go_ret
  exact ⟨rfl, HB2.out⟩
set_option maxHeartbeats 1000000 in
theorem implHasS_st (p : ByteArray) (x y z : Int) (w : World) (hp : Set27 p) (h : st3 x y z = false) : Calls Try.prog 13 #[.string p, .agg #[.int .i64 x, .int .i64 y, .int .i64 z]] w fun e w' => e = .returned (.bool false) ∧ Below w.heap.size w w' := by
  have C := fun w => Lib.hid (implRead_yes p w hp)
  have V := fun w => Lib.hid (implStateValid x y z w)
  rw [h] at V
  clear h
  go_enter Try.func13, Try.ntmps13
  go_wp2_with fail
  have HT0 := Lib.hid (Blk.new w #[.int .i64 x, .int .i64 y, .int .i64 z] 30)
  have HB0 := Lib.hid ((Below.refl _ w).alloc (Nat.le_refl _) (.cells #[.int .i64 x, .int .i64 y, .int .i64 z] 30))
  generalize w.alloc (.cells #[.int .i64 x, .int .i64 y, .int .i64 z] 30) = w0 at *
  refine (C _).out.mono ?_
  rintro e w' ⟨rfl, rfl⟩
  obtain ⟨q0, q1, q2⟩ := HT0.out.c3
  go_wp2_with fail
  clear q0 q1 q2
  refine (V _).out.mono ?_
  rintro e w1 ⟨rfl, hb⟩
  have HB1 := Lib.hid (bnext HB0.out hb)
  clear hb
  go_wp2_with fail
  go_ret
  exact ⟨rfl, HB1.out⟩
set_option maxHeartbeats 1000000 in
theorem implHasS_no (p : ByteArray) (x y z : Int) (w : World) (hp : ¬ Set27 p) : Calls Try.prog 13 #[.string p, .agg #[.int .i64 x, .int .i64 y, .int .i64 z]] w fun e w' => e = .returned (.bool false) ∧ Below w.heap.size w w' := by
  have C := fun w => Lib.hid (implRead_no p w hp)
  clear hp
  go_enter Try.func13, Try.ntmps13
  go_wp2_with fail
  refine (C _).out.mono ?_
  rintro e w' ⟨rfl, rfl⟩
  go_wp2_with fail
  go_ret
  exact ⟨rfl, (Below.refl _ _).alloc (Nat.le_refl _) _⟩
end Go.Proofs.Ytnhadmeadegckaa

namespace Go.Proofs.Ytnhadmeadegckaa
open Go.RowKit

theorem set27_size {p : ByteArray} (h : Set27 p) : p.size = 27 := by have := h.1; simpa using this

set_option maxHeartbeats 1000000 in
theorem specAnd_yes (p q : ByteArray) (w : World) (hp : Set27 p) (hq : Set27 q) : Calls Try.prog 22 #[.string p, .string q] w fun e w' => e = .returned (.tuple #[.string (bs (tb (fun i => hs p.data.toList i && hs q.data.toList i))), .bool true]) ∧ Below w.heap.size w w' := by
  have C := fun w => Lib.hid (specPredValid_yes p w hp)
  have D := fun w => Lib.hid (specPredValid_yes q w hq)
  have E := fun w => Lib.hid (specAnd0 p q 27 w (set27_size hp) (set27_size hq) (by omega))
  go_enter Try.func22, Try.ntmps22
  go_wp2_with fail
  refine (C _).out.mono ?_
  rintro e w' ⟨rfl, rfl⟩
  go_wp2_with fail
  refine (D _).out.mono ?_
  rintro e w' ⟨rfl, rfl⟩
  go_wp2_with fail
  refine (E _).out.mono ?_
  rintro e w1 ⟨rfl, hb⟩
  have HB := Lib.hid hb
  clear hb
  go_wp2_with fail
  go_ret2
  exact ⟨rfl, HB.out⟩
set_option maxHeartbeats 1000000 in
theorem specAnd_p (p q : ByteArray) (w : World) (hp : ¬ Set27 p) (hm : p.size ≤ maxLen) : Calls Try.prog 22 #[.string p, .string q] w fun e w' => e = .returned (.tuple #[.string (bs []), .bool false]) ∧ Below w.heap.size w w' := by
  have C := fun w => Lib.hid (specPredValid_no p w hp hm)
  clear hp
  go_enter Try.func22, Try.ntmps22
  go_wp2_with fail
  refine (C _).out.mono ?_
  rintro e w' ⟨rfl, rfl⟩
  go_wp2_with fail
  go_ret2
  exact ⟨rfl, Below.refl _ _⟩
set_option maxHeartbeats 1000000 in
theorem specAnd_q (p q : ByteArray) (w : World) (hp : Set27 p) (hq : ¬ Set27 q) (hm : q.size ≤ maxLen) : Calls Try.prog 22 #[.string p, .string q] w fun e w' => e = .returned (.tuple #[.string (bs []), .bool false]) ∧ Below w.heap.size w w' := by
  have C := fun w => Lib.hid (specPredValid_yes p w hp)
  have D := fun w => Lib.hid (specPredValid_no q w hq hm)
  clear hq
  go_enter Try.func22, Try.ntmps22
  go_wp2_with fail
  refine (C _).out.mono ?_
  rintro e w' ⟨rfl, rfl⟩
  go_wp2_with fail
  refine (D _).out.mono ?_
  rintro e w' ⟨rfl, rfl⟩
  go_wp2_with fail
  go_ret2
  exact ⟨rfl, Below.refl _ _⟩
theorem specAnd_no (p q : ByteArray) (w : World) (h : ¬ (Set27 p ∧ Set27 q)) (hm : p.size ≤ maxLen) (hm2 : q.size ≤ maxLen) : Calls Try.prog 22 #[.string p, .string q] w fun e w' => e = .returned (.tuple #[.string (bs []), .bool false]) ∧ Below w.heap.size w w' := by
  by_cases hp : Set27 p
  · exact specAnd_q p q w hp (fun hq => h ⟨hp, hq⟩) hm2
  · exact specAnd_p p q w hp hm

set_option maxHeartbeats 1000000 in
theorem specOr_yes (p q : ByteArray) (w : World) (hp : Set27 p) (hq : Set27 q) : Calls Try.prog 24 #[.string p, .string q] w fun e w' => e = .returned (.tuple #[.string (bs (tb (fun i => hs p.data.toList i || hs q.data.toList i))), .bool true]) ∧ Below w.heap.size w w' := by
  have C := fun w => Lib.hid (specPredValid_yes p w hp)
  have D := fun w => Lib.hid (specPredValid_yes q w hq)
  have E := fun w => Lib.hid (specOr0 p q 27 w (set27_size hp) (set27_size hq) (by omega))
  go_enter Try.func24, Try.ntmps24
  go_wp2_with fail
  refine (C _).out.mono ?_
  rintro e w' ⟨rfl, rfl⟩
  go_wp2_with fail
  refine (D _).out.mono ?_
  rintro e w' ⟨rfl, rfl⟩
  go_wp2_with fail
  refine (E _).out.mono ?_
  rintro e w1 ⟨rfl, hb⟩
  have HB := Lib.hid hb
  clear hb
  go_wp2_with fail
  go_ret2
  exact ⟨rfl, HB.out⟩
set_option maxHeartbeats 1000000 in
theorem specOr_p (p q : ByteArray) (w : World) (hp : ¬ Set27 p) (hm : p.size ≤ maxLen) : Calls Try.prog 24 #[.string p, .string q] w fun e w' => e = .returned (.tuple #[.string (bs []), .bool false]) ∧ Below w.heap.size w w' := by
  have C := fun w => Lib.hid (specPredValid_no p w hp hm)
  clear hp
  go_enter Try.func24, Try.ntmps24
  go_wp2_with fail
  refine (C _).out.mono ?_
  rintro e w' ⟨rfl, rfl⟩
  go_wp2_with fail
  go_ret2
  exact ⟨rfl, Below.refl _ _⟩
set_option maxHeartbeats 1000000 in
theorem specOr_q (p q : ByteArray) (w : World) (hp : Set27 p) (hq : ¬ Set27 q) (hm : q.size ≤ maxLen) : Calls Try.prog 24 #[.string p, .string q] w fun e w' => e = .returned (.tuple #[.string (bs []), .bool false]) ∧ Below w.heap.size w w' := by
  have C := fun w => Lib.hid (specPredValid_yes p w hp)
  have D := fun w => Lib.hid (specPredValid_no q w hq hm)
  clear hq
  go_enter Try.func24, Try.ntmps24
  go_wp2_with fail
  refine (C _).out.mono ?_
  rintro e w' ⟨rfl, rfl⟩
  go_wp2_with fail
  refine (D _).out.mono ?_
  rintro e w' ⟨rfl, rfl⟩
  go_wp2_with fail
  go_ret2
  exact ⟨rfl, Below.refl _ _⟩
theorem specOr_no (p q : ByteArray) (w : World) (h : ¬ (Set27 p ∧ Set27 q)) (hm : p.size ≤ maxLen) (hm2 : q.size ≤ maxLen) : Calls Try.prog 24 #[.string p, .string q] w fun e w' => e = .returned (.tuple #[.string (bs []), .bool false]) ∧ Below w.heap.size w w' := by
  by_cases hp : Set27 p
  · exact specOr_q p q w hp (fun hq => h ⟨hp, hq⟩) hm2
  · exact specOr_p p q w hp hm
set_option maxHeartbeats 1000000 in
theorem specNotP_yes (p : ByteArray) (w : World) (hp : Set27 p) : Calls Try.prog 30 #[.string p] w fun e w' => e = .returned (.tuple #[.string (bs (tb (fun i => !hs p.data.toList i))), .bool true]) ∧ Below w.heap.size w w' := by
  have C := fun w => Lib.hid (specPredValid_yes p w hp)
  have E := fun w => Lib.hid (specNot0 p 27 w (set27_size hp) hp (by omega))
  go_enter Try.func30, Try.ntmps30
  go_wp2_with fail
  refine (C _).out.mono ?_
  rintro e w' ⟨rfl, rfl⟩
  go_wp2_with fail
  refine (E _).out.mono ?_
  rintro e w1 ⟨rfl, hb⟩
  have HB := Lib.hid hb
  clear hb
  go_wp2_with fail
  go_ret2
  exact ⟨rfl, HB.out⟩
set_option maxHeartbeats 1000000 in
theorem specNotP_no (p : ByteArray) (w : World) (hp : ¬ Set27 p) (hm : p.size ≤ maxLen) : Calls Try.prog 30 #[.string p] w fun e w' => e = .returned (.tuple #[.string (bs []), .bool false]) ∧ Below w.heap.size w w' := by
  have C := fun w => Lib.hid (specPredValid_no p w hp hm)
  clear hp
  go_enter Try.func30, Try.ntmps30
  go_wp2_with fail
  refine (C _).out.mono ?_
  rintro e w' ⟨rfl, rfl⟩
  go_wp2_with fail
  go_ret2
  exact ⟨rfl, Below.refl _ _⟩

theorem wi_eq (p q : ByteArray) (hp : Set27 p) : ((bs (tb (fun i => hs p.data.toList i && hs q.data.toList i))).toList == p.toList) = wi 27 (hs p.data.toList) (hs q.data.toList) := by
  rw [bytes_eq, Bool.eq_iff_iff, decide_eq_true_eq, wi_iff]
  have e : bs p.data.toList = p := by apply ByteArray.ext; simp [bs]
  constructor
  · intro h i hi hF
    have h2 : tb (fun i => hs p.data.toList i && hs q.data.toList i) = tbn 27 (hs p.data.toList) := by
      rw [tbn_hs hp]
      have := congrArg (fun b : ByteArray => b.data.toList) h
      simpa [bs] using this
    have h3 := tbn_inj h2 i hi
    simpa [hF] using h3
  · intro h
    rw [show tb (fun i => hs p.data.toList i && hs q.data.toList i) = tbn 27 (hs p.data.toList) from tbn_congr fun i hi => by
      cases hF : hs p.data.toList i
      · rfl
      · simp [h i hi hF], tbn_hs hp, e]

set_option maxHeartbeats 1000000 in
theorem specPWithin_yes (p q : ByteArray) (w : World) (hp : Set27 p) (hq : Set27 q) : Calls Try.prog 33 #[.string p, .string q] w fun e w' => e = .returned (.bool (wi 27 (hs p.data.toList) (hs q.data.toList))) ∧ Below w.heap.size w w' := by
  have C := fun w => Lib.hid (specPredValid_yes p w hp)
  have D := fun w => Lib.hid (specPredValid_yes q w hq)
  have E := fun w => Lib.hid (specAnd0 p q 27 w (set27_size hp) (set27_size hq) (by omega))
  have H := Lib.hid (wi_eq p q hp)
  go_enter Try.func33, Try.ntmps33
  go_wp2_with fail
  refine (C _).out.mono ?_
  rintro e w' ⟨rfl, rfl⟩
  go_wp2_with fail
  refine (D _).out.mono ?_
  rintro e w' ⟨rfl, rfl⟩
  go_wp2_with fail
  refine (E _).out.mono ?_
  rintro e w1 ⟨rfl, hb⟩
  have HB := Lib.hid hb
  clear hb
  go_wp2_with fail
  go_ret
  exact ⟨by rw [← H.out]; rfl, HB.out⟩
set_option maxHeartbeats 1000000 in
theorem specPWithin_no (p q : ByteArray) (w : World) (h : ¬ (Set27 p ∧ Set27 q)) (hm : p.size ≤ maxLen) (hm2 : q.size ≤ maxLen) : Calls Try.prog 33 #[.string p, .string q] w fun e w' => e = .returned (.bool false) ∧ Below w.heap.size w w' := by
  by_cases hp : Set27 p
  · have C := fun w => Lib.hid (specPredValid_yes p w hp)
    have D := fun w => Lib.hid (specPredValid_no q w (fun hq => h ⟨hp, hq⟩) hm2)
    clear h
    go_enter Try.func33, Try.ntmps33
    go_wp2_with fail
    refine (C _).out.mono ?_
    rintro e w' ⟨rfl, rfl⟩
    go_wp2_with fail
    refine (D _).out.mono ?_
    rintro e w' ⟨rfl, rfl⟩
    go_wp2_with fail
    go_ret
    exact ⟨rfl, Below.refl _ _⟩
  · have C := fun w => Lib.hid (specPredValid_no p w hp hm)
    clear h hp
    go_enter Try.func33, Try.ntmps33
    go_wp2_with fail
    refine (C _).out.mono ?_
    rintro e w' ⟨rfl, rfl⟩
    go_wp2_with fail
    go_ret
    exact ⟨rfl, Below.refl _ _⟩

/-- The number of a state. -/
def ixs (x y z : Int) : Nat := (x + 3 * y + 9 * z).toNat
theorem ixs_lt {x y z : Int} (h : st3 x y z = true) : ixs x y z < 27 ∧ ((ixs x y z : Nat) : Int) = x + 3 * y + 9 * z := by
  have h := st3_lt h
  unfold ixs; omega

end Go.Proofs.Ytnhadmeadegckaa

namespace Go.Proofs.Ytnhadmeadegckaa
open Go.RowKit

theorem mask8 (m : Nat) (hm : m < 4294967296) : bits .and .u32 (m : Int) 255 = ((m % 256 : Nat) : Int) := by
  rw [show (255 : Int) = ((255 : Nat) : Int) from rfl, u32_and_nat _ _ hm (by omega), nat_mask8]

def tabl : List UInt8 := (List.range 256).map fun x => UInt8.ofNat (cnt 8 x.testBit)
theorem tab_at (T : ByteArray) (hT : T.data.toList = tabl) (a : Nat) (h : a < T.size) : ((T[a]'h).toNat : Int) = (cnt 8 a.testBit : Nat) := by
  have e : T[a] = T.data.toList[a]'(by simpa using h) := rfl
  have h2 : a < tabl.length := by rw [← hT]; simpa using h
  have e2 : T[a] = tabl[a] := by rw [e]; simp only [hT]
  rw [e2]
  simp only [tabl, List.getElem_map, List.getElem_range]
  have := cnt_le 8 a.testBit
  rw [UInt8.toNat_ofNat_of_lt' (by show _ < 256; omega)]
theorem cnt_add (k m : Nat) (F : Nat → Bool) : cnt (k + m) F = cnt k F + cnt m (fun i => F (k + i)) := by
  induction m with
  | zero => rfl
  | succ m ih => rw [← Nat.add_assoc]; simp only [cnt]; rw [ih]; omega
theorem cnt_congr {k : Nat} {F G : Nat → Bool} (h : ∀ i, i < k → F i = G i) : cnt k F = cnt k G := by
  induction k with
  | zero => rfl
  | succ k ih => simp only [cnt]; rw [ih (fun i hi => h i (by omega)), h k (by omega)]
theorem cnt_zero {k : Nat} {F : Nat → Bool} (h : ∀ i, i < k → F i = false) : cnt k F = 0 := by
  induction k with
  | zero => rfl
  | succ k ih => simp only [cnt]; rw [ih (fun i hi => h i (by omega)), h k (by omega)]; rfl
theorem pop_split (n : Nat) (hn : n < 134217728) : cnt 27 n.testBit = cnt 8 (n / 16777216).testBit + cnt 8 (n / 65536 % 256).testBit + cnt 8 (n / 256 % 256).testBit + cnt 8 (n % 256).testBit := by
  have h32 : cnt 32 n.testBit = cnt 27 n.testBit := by
    rw [show (32 : Nat) = 27 + 5 from rfl, cnt_add]
    rw [cnt_zero (k := 5) (F := fun i => n.testBit (27 + i)) (fun i _ => Nat.testBit_lt_two_pow (Nat.lt_of_lt_of_le hn (Nat.pow_le_pow_right (n := 2) (by omega) (by omega : 27 ≤ 27 + i))))]
    omega
  rw [← h32, show (32 : Nat) = 8 + (8 + (8 + 8)) from rfl, cnt_add, cnt_add, cnt_add]
  rw [cnt_congr (G := (n % 256).testBit) (F := n.testBit) (fun i hi => by rw [show (256 : Nat) = 2 ^ 8 from rfl, Nat.testBit_mod_two_pow]; simp [hi])]
  rw [cnt_congr (G := (n / 256 % 256).testBit) (F := fun i => n.testBit (8 + i)) (fun i hi => by rw [show n / 256 % 256 = n / 2 ^ 8 % 2 ^ 8 from rfl, Nat.testBit_mod_two_pow, Nat.testBit_div_two_pow]; simp [hi, Nat.add_comm])]
  rw [cnt_congr (G := (n / 65536 % 256).testBit) (F := fun i => n.testBit (8 + (8 + i))) (fun i hi => by rw [show n / 65536 % 256 = n / 2 ^ 16 % 2 ^ 8 from rfl, Nat.testBit_mod_two_pow, Nat.testBit_div_two_pow]; simp [hi]; congr 1; omega)]
  rw [cnt_congr (G := (n / 16777216).testBit) (F := fun i => n.testBit (8 + (8 + (8 + i)))) (fun i hi => by rw [show n / 16777216 = n / 2 ^ 24 from rfl, Nat.testBit_div_two_pow]; congr 1; omega)]
  omega

set_option maxRecDepth 100000 in
set_option maxHeartbeats 4000000 in
theorem popAny (n : Nat) (w : World) (hn : n < 134217728) : Calls Try.prog 60 #[.int .u32 n] w fun e w' => e = .returned (.int .i64 (cnt 27 n.testBit : Nat)) ∧ ∃ m, w' = w.drewN m := by
  have HN := Lib.hid (pop_split n hn)
  obtain ⟨a, ha⟩ : ∃ a : Nat, n / 16777216 = a := ⟨_, rfl⟩
  obtain ⟨b, hb⟩ : ∃ a : Nat, n / 65536 % 256 = a := ⟨_, rfl⟩
  obtain ⟨c, hc⟩ : ∃ a : Nat, n / 256 % 256 = a := ⟨_, rfl⟩
  obtain ⟨d, hd⟩ : ∃ a : Nat, n % 256 = a := ⟨_, rfl⟩
  have ea : (n : Int) / 16777216 = a := by omega
  have eb : bits .and .u32 ((n : Int) / 65536) 255 = b := by rw [show (n : Int) / 65536 = ((n / 65536 : Nat) : Int) by omega, mask8 _ (by omega), hb]
  have ec : bits .and .u32 ((n : Int) / 256) 255 = c := by rw [show (n : Int) / 256 = ((n / 256 : Nat) : Int) by omega, mask8 _ (by omega), hc]
  have ed : bits .and .u32 (n : Int) 255 = d := by rw [mask8 _ (by omega), hd]
  have la : (a : Int) < 256 := by omega
  have lb : (b : Int) < 256 := by omega
  have lc : (c : Int) < 256 := by omega
  have ld : (d : Int) < 256 := by omega
  have ka : (0 : Int) ≤ a := by omega
  have kb : (0 : Int) ≤ b := by omega
  have kc : (0 : Int) ≤ c := by omega
  have kd : (0 : Int) ≤ d := by omega
  have HA := Lib.hid ha
  have HB := Lib.hid hb
  have HC := Lib.hid hc
  have HD := Lib.hid hd
  clear ha hb hc hd
  go_enter Try.func60, Try.ntmps60
  go_wp2_with fail
  go_quiet (fail)
  go_wp2_with fail
  go_ret
  refine ⟨?_, _, rfl⟩
  refine congrArg (fun z : Int => Ending.returned (.int .i64 z)) ?_
  rw [HN.out, HA.out, HB.out, HC.out, HD.out, tab_at (a := a), tab_at (a := b), tab_at (a := c), tab_at (a := d)]
  · have h1 := cnt_le 8 a.testBit
    have h2 := cnt_le 8 b.testBit
    have h3 := cnt_le 8 c.testBit
    have h4 := cnt_le 8 d.testBit
    omega
  all_goals kernel_rfl
end Go.Proofs.Ytnhadmeadegckaa

namespace Go.Proofs.Ytnhadmeadegckaa
open Go.RowKit

theorem cnt_nb (F : Nat → Bool) : cnt 27 (nb 27 F).testBit = cnt 27 F := cnt_congr fun i hi => by rw [nb_bit]; simp [hi]

set_option maxHeartbeats 1000000 in
theorem implCountP_yes (p : ByteArray) (w : World) (hp : Set27 p) : Calls Try.prog 25 #[.string p] w fun e w' => e = .returned (.int .i64 (cnt 27 (hs p.data.toList))) ∧ Below w.heap.size w w' := by
  have C := fun w => Lib.hid (implRead_yes p w hp)
  have E := fun w => Lib.hid (popAny (nb 27 (hs p.data.toList)) w (nb_lt27 _))
  rw [cnt_nb] at E
  go_enter Try.func25, Try.ntmps25
  go_wp2_with fail
  refine (C _).out.mono ?_
  rintro e w' ⟨rfl, rfl⟩
  go_wp2_with fail
  refine (E _).out.mono ?_
  rintro e w1 ⟨rfl, m, rfl⟩
  go_wp2_with fail
  go_ret
  exact ⟨rfl, bdrewN (Below.refl _ _) m⟩
set_option maxHeartbeats 1000000 in
theorem implCountP_no (p : ByteArray) (w : World) (hp : ¬ Set27 p) : Calls Try.prog 25 #[.string p] w fun e w' => e = .returned (.int .i64 (-1)) ∧ Below w.heap.size w w' := by
  have C := fun w => Lib.hid (implRead_no p w hp)
  clear hp
  go_enter Try.func25, Try.ntmps25
  go_wp2_with fail
  refine (C _).out.mono ?_
  rintro e w' ⟨rfl, rfl⟩
  go_wp2_with fail
  go_ret
  exact ⟨rfl, Below.refl _ _⟩
end Go.Proofs.Ytnhadmeadegckaa

namespace Go.Proofs.Ytnhadmeadegckaa
open Go.RowKit Tm

set_option maxHeartbeats 1000000 in
theorem specSomeV_yes (p v : ByteArray) (c : UInt8) (j : Nat) (w : World) (hp : Set27 p) (hv : v = ⟨#[c]⟩) (hj : VarAt c j) : Calls Try.prog 39 #[.string p, .string v] w fun e w' => e = .returned (.tuple #[.string (bs (tb (someF c (hs p.data.toList)))), .bool true]) ∧ Below w.heap.size w w' := by
  subst hv
  have C1 := fun w => Lib.hid (specPredValid_yes p w hp)
  have C2 := fun w => Lib.hid (specVar_yes c j w hj)
  have Q := fun w => Lib.hid (specQuant false p c j hj hp w)
  obtain ⟨hj3, hj0, hjd⟩ := varAt_bd hj
  clear hp hj
  go_enter Try.func39, Try.ntmps39
  go_wp2_with fail
  refine (C1 _).out.mono ?_
  rintro e w' ⟨rfl, rfl⟩
  go_wp2_with fail
  refine (C2 _).out.mono ?_
  rintro e w' ⟨rfl, rfl⟩
  go_wp2_with fail
  refine (C2 _).out.mono ?_
  rintro e w' ⟨rfl, rfl⟩
  go_wp2_with fail
  refine (Q _).out.mono ?_
  rintro e w1 ⟨rfl, hb⟩
  have HB := Lib.hid hb
  clear hb
  go_wp2_with fail
  go_ret2
  exact ⟨rfl, HB.out⟩
set_option maxHeartbeats 1000000 in
theorem specSomeV_p (p v : ByteArray) (w : World) (hp : ¬ Set27 p) (hm : p.size ≤ maxLen) : Calls Try.prog 39 #[.string p, .string v] w fun e w' => e = .returned (.tuple #[.string (bs []), .bool false]) ∧ Below w.heap.size w w' := by
  have C1 := fun w => Lib.hid (specPredValid_no p w hp hm)
  clear hp
  go_enter Try.func39, Try.ntmps39
  go_wp2_with fail
  refine (C1 _).out.mono ?_
  rintro e w' ⟨rfl, rfl⟩
  go_wp2_with fail
  go_ret2
  exact ⟨rfl, Below.refl _ _⟩
set_option maxHeartbeats 1000000 in
theorem specSomeV_v (p v : ByteArray) (w : World) (hp : Set27 p) (hv : ¬ IsVar v) (hm : v.size ≤ maxLen) : Calls Try.prog 39 #[.string p, .string v] w fun e w' => e = .returned (.tuple #[.string (bs []), .bool false]) ∧ Below w.heap.size w w' := by
  have C1 := fun w => Lib.hid (specPredValid_yes p w hp)
  have C2 := fun w => Lib.hid (specVar_no v w hm hv)
  clear hv
  go_enter Try.func39, Try.ntmps39
  go_wp2_with fail
  refine (C1 _).out.mono ?_
  rintro e w' ⟨rfl, rfl⟩
  go_wp2_with fail
  refine (C2 _).out.mono ?_
  rintro e w' ⟨rfl, rfl⟩
  go_wp2_with fail
  go_ret2
  exact ⟨rfl, Below.refl _ _⟩
theorem specSomeV_no (p v : ByteArray) (w : World) (hm : p.size ≤ maxLen) (hm2 : v.size ≤ maxLen) (h : ¬ (Set27 p ∧ IsVar v)) : Calls Try.prog 39 #[.string p, .string v] w fun e w' => e = .returned (.tuple #[.string (bs []), .bool false]) ∧ Below w.heap.size w w' := by
  by_cases hp : Set27 p
  · exact specSomeV_v p v w hp (fun hv => h ⟨hp, hv⟩) hm2
  · exact specSomeV_p p v w hp hm

set_option maxHeartbeats 1000000 in
theorem specAllV_yes (p v : ByteArray) (c : UInt8) (j : Nat) (w : World) (hp : Set27 p) (hv : v = ⟨#[c]⟩) (hj : VarAt c j) : Calls Try.prog 40 #[.string p, .string v] w fun e w' => e = .returned (.tuple #[.string (bs (tb (allF c (hs p.data.toList)))), .bool true]) ∧ Below w.heap.size w w' := by
  subst hv
  have C1 := fun w => Lib.hid (specPredValid_yes p w hp)
  have C2 := fun w => Lib.hid (specVar_yes c j w hj)
  have Q := fun w => Lib.hid (specQuant true p c j hj hp w)
  obtain ⟨hj3, hj0, hjd⟩ := varAt_bd hj
  clear hp hj
  go_enter Try.func40, Try.ntmps40
  go_wp2_with fail
  refine (C1 _).out.mono ?_
  rintro e w' ⟨rfl, rfl⟩
  go_wp2_with fail
  refine (C2 _).out.mono ?_
  rintro e w' ⟨rfl, rfl⟩
  go_wp2_with fail
  refine (C2 _).out.mono ?_
  rintro e w' ⟨rfl, rfl⟩
  go_wp2_with fail
  refine (Q _).out.mono ?_
  rintro e w1 ⟨rfl, hb⟩
  have HB := Lib.hid hb
  clear hb
  go_wp2_with fail
  go_ret2
  exact ⟨rfl, HB.out⟩
set_option maxHeartbeats 1000000 in
theorem specAllV_p (p v : ByteArray) (w : World) (hp : ¬ Set27 p) (hm : p.size ≤ maxLen) : Calls Try.prog 40 #[.string p, .string v] w fun e w' => e = .returned (.tuple #[.string (bs []), .bool false]) ∧ Below w.heap.size w w' := by
  have C1 := fun w => Lib.hid (specPredValid_no p w hp hm)
  clear hp
  go_enter Try.func40, Try.ntmps40
  go_wp2_with fail
  refine (C1 _).out.mono ?_
  rintro e w' ⟨rfl, rfl⟩
  go_wp2_with fail
  go_ret2
  exact ⟨rfl, Below.refl _ _⟩
set_option maxHeartbeats 1000000 in
theorem specAllV_v (p v : ByteArray) (w : World) (hp : Set27 p) (hv : ¬ IsVar v) (hm : v.size ≤ maxLen) : Calls Try.prog 40 #[.string p, .string v] w fun e w' => e = .returned (.tuple #[.string (bs []), .bool false]) ∧ Below w.heap.size w w' := by
  have C1 := fun w => Lib.hid (specPredValid_yes p w hp)
  have C2 := fun w => Lib.hid (specVar_no v w hm hv)
  clear hv
  go_enter Try.func40, Try.ntmps40
  go_wp2_with fail
  refine (C1 _).out.mono ?_
  rintro e w' ⟨rfl, rfl⟩
  go_wp2_with fail
  refine (C2 _).out.mono ?_
  rintro e w' ⟨rfl, rfl⟩
  go_wp2_with fail
  go_ret2
  exact ⟨rfl, Below.refl _ _⟩
theorem specAllV_no (p v : ByteArray) (w : World) (hm : p.size ≤ maxLen) (hm2 : v.size ≤ maxLen) (h : ¬ (Set27 p ∧ IsVar v)) : Calls Try.prog 40 #[.string p, .string v] w fun e w' => e = .returned (.tuple #[.string (bs []), .bool false]) ∧ Below w.heap.size w w' := by
  by_cases hp : Set27 p
  · exact specAllV_v p v w hp (fun hv => h ⟨hp, hv⟩) hm2
  · exact specAllV_p p v w hp hm
end Go.Proofs.Ytnhadmeadegckaa

namespace Go.Proofs.Ytnhadmeadegckaa
open Go.RowKit Tm

/-- Does a set depend on a variable, up to a state? -/
def depU (c : UInt8) (F : Nat → Bool) (k : Nat) : Bool := (List.range k).any fun i => F i != F (setN c 0 i)
theorem depU_succ (c : UInt8) (F : Nat → Bool) (k : Nat) : depU c F (k + 1) = (depU c F k || F k != F (setN c 0 k)) := by simp [depU, List.range_succ]

theorem byte_neq {s : ByteArray} {n : Nat} (h : Bits n s.data.toList) (a b : Nat) (ha : a < s.size) (hb : b < s.size) : ((s[a].toNat : Int) != (s[b].toNat : Int)) = (hs s.data.toList a != hs s.data.toList b) := by
  rw [hs_int s a ha, hs_int s b hb]
  have h1 : s[a] = 48 ∨ s[a] = 49 := h.2 a (by simpa using ha)
  have h2 : s[b] = 48 ∨ s[b] = 49 := h.2 b (by simpa using hb)
  rcases h1 with h1 | h1 <;> rcases h2 with h2 | h2 <;> rw [h1, h2] <;> rfl

def chr (j : Nat) : UInt8 := if j = 0 then 120 else if j = 1 then 121 else 122
theorem chr_var (j : Nat) (h : j < 3) : VarAt (chr j) j := by
  have hc : j = 0 ∨ j = 1 ∨ j = 2 := by omega
  rcases hc with rfl | rfl | rfl <;> simp [VarAt, chr]
theorem xyz_at (j : Nat) (h : j < 3) : (ByteArray.mk #[120, 121, 122]).extract j (j + 1) = bs [chr j] := by
  have hc : j = 0 ∨ j = 1 ∨ j = 2 := by omega
  rcases hc with rfl | rfl | rfl <;> rfl
/-- The letters of the first variables on which a set depends. -/
def depP (F : Nat → Bool) : Nat → List UInt8
  | 0 => []
  | j + 1 => depP F j ++ (if depU (chr j) F 27 then [chr j] else [])
theorem depP_len (F : Nat → Bool) (j : Nat) : (depP F j).length ≤ j := by
  induction j with
  | zero => exact Nat.le_refl _
  | succ j ih => unfold depP; split <;> simp <;> omega

set_option maxRecDepth 100000 in
set_option maxHeartbeats 4000000 in
theorem specPV_yes (p : ByteArray) (w : World) (hp : Set27 p) : Calls Try.prog 35 #[.string p] w fun e w' => e = .returned (.string (bs (depP (hs p.data.toList) 3))) ∧ Below w.heap.size w w' := by
  have C := fun w => Lib.hid (specPredValid_yes p w hp)
  have hp27 : p.size = 27 := by have := hp.1; simpa using this
  have HP := Lib.hid hp
  clear hp
  go_enter Try.func35, Try.ntmps35
  go_wp2_with fail
  go_loopw [3, 4] (fun o v wr => ∃ j : Nat, j ≤ 3 ∧ v = .int .i64 j ∧ o = .string (bs (depP (hs p.data.toList) j)) ∧ Below w.heap.size w wr) (fun _ v _ => 3 - (intOf v).toNat)
  case atStart => exact ⟨0, by omega, rfl, rfl, Below.refl _ _⟩
  case round =>
    obtain ⟨j, hj, rfl, rfl, hb⟩ := hrel
    have HB := Lib.hid hb
    clear hb
    by_cases hlt : j < 3
    · obtain ⟨wo, hwo⟩ : ∃ wo : World, wo = wr := ⟨_, rfl⟩
      rw [← hwo]
      rw [← hwo] at HB
      clear hwo
      have hvj := chr_var j hlt
      go_wp2_with fail
      refine (C _).out.mono ?_
      rintro e w' ⟨rfl, rfl⟩
      go_wp2_with fail
      go_loopw [5, 6] (fun d i wr => ∃ k : Nat, k ≤ 27 ∧ i = .int .i64 k ∧ d = .bool (depU (chr j) (hs p.data.toList) k) ∧ Below w.heap.size w wr) (fun _ i _ => 27 - (intOf i).toNat)
      case atStart => exact ⟨0, by omega, rfl, rfl, HB.out⟩
      case round =>
        clear HB
        obtain ⟨k, hk, rfl, rfl, hb⟩ := hrel
        have HB := Lib.hid hb
        by_cases hk27 : k < 27
        · have A := fun w => Lib.hid (specAt0 k w (by omega) (by omega))
          have W := fun w => Lib.hid (specWith (chr j) j hvj 0 k w)
          have T := set_st3 (c := chr j) (n := 0) rfl hk27
          have I := fun w => Lib.hid (specIx0 _ _ _ w T)
          rw [← (ixx_lt T).2, ← setN_eq] at I
          have L := setN_lt (c := chr j) (n := 0) rfl hk27
          have U := depU_succ (chr j) (hs p.data.toList) k
          obtain ⟨a, ha⟩ : ∃ a, setN (chr j) 0 k = a := ⟨_, rfl⟩
          rw [ha] at I L U
          have hka : k < p.size := by omega
          have hap : a < p.size := by omega
          rw [← byte_neq HP.out k a hka hap] at U
          clear T ha
          cases hd : depU (chr j) (hs p.data.toList) k
          · rw [hd, Bool.false_or] at U
            have HU := Lib.hid U
            clear U hd
            have hbd := hb.drew
            go_wp2_with fail
            go_region_held3 (fun w' => Below w.heap.size w w')
              ((first | assumption | exact bnext (by assumption) hq))
              (first
                | (go_at_call 67; (with_reducible refine (A _).out.mono ?_); rintro e w2 ⟨rfl, hq⟩)
                | (go_at_call 66; (with_reducible refine (W _).out.mono ?_); rintro e w2 ⟨rfl, hq⟩)
                | (go_at_call 65; (with_reducible refine (I _).out.mono ?_); rintro e w2 ⟨rfl, hq⟩))
            all_goals
              go_wp2_with fail
              exact ⟨⟨k + 1, by omega, by go_num, by rw [HU.out], by assumption⟩, by simp [intOf]; omega⟩
          · rw [hd, Bool.true_or] at U
            have HU := Lib.hid U
            clear U hd
            go_wp2_with fail
            go_quiet (fail)
            go_wp2_with fail
            exact ⟨⟨k + 1, by omega, by go_num, by rw [HU.out], bdrewN HB.out _⟩, by simp [intOf]; omega⟩
        · have hk2 : k = 27 := by omega
          subst hk2
          clear hb
          have hl := depP_len (hs p.data.toList) j
          have X := xyz_at j hlt
          cases hd : depU (chr j) (hs p.data.toList) 27
          · have HP1 : Hid (depP (hs p.data.toList) (j + 1) = depP (hs p.data.toList) j) := by show _ = _; simp [depP, hd]
            clear hd
            go_wp2_with fail
            exact ⟨⟨j + 1, by omega, by go_num, by rw [HP1.out], HB.out⟩, by simp [intOf]; omega⟩
          · have HP1 : Hid (depP (hs p.data.toList) (j + 1) = depP (hs p.data.toList) j ++ [chr j]) := by show _ = _; simp [depP, hd]
            clear hd
            have hno : ¬ (9223372036854775807 < (bs (depP (hs p.data.toList) j)).size + (bs [chr j]).size) := by rw [bs_size, bs_size]; simp; omega
            go_wp2_with fail
            exact ⟨⟨j + 1, by omega, by go_num, by rw [HP1.out, bs_append], HB.out⟩, by simp [intOf]; omega⟩
    · have hj3 : j = 3 := by omega
      subst hj3
      go_wp2_with fail
      go_ret
      exact ⟨rfl, HB.out⟩

theorem setN_setN : ∀ c ∈ [(120 : UInt8), 121, 122], ∀ n, n < 3 → ∀ m, m < 3 → ∀ i, i < 27 → setN c (m : Nat) (setN c (n : Nat) i) = setN c (m : Nat) i := by decide +kernel

theorem dep_eq (c : UInt8) (hc : c ∈ [(120 : UInt8), 121, 122]) (F : Nat → Bool) : depU c F 27 = depB c F := by
  have hlt : ∀ n, n < 3 → ∀ i, i < 27 → setN c (n : Nat) i < 27 := fun n hn i hi => setN_lt (val3_t (by omega) (by omega)) hi
  rw [Bool.eq_iff_iff]
  unfold depU depB
  rw [List.any_eq_true, bne_iff_ne]
  constructor
  · rintro ⟨i, hi, hne⟩ e
    have hi : i < 27 := by simpa using hi
    have heq : nb 27 (someF c F) = nb 27 F := by omega
    have e1 := nb_inj heq i hi
    have e2 : someF c F (setN c 0 i) = F (setN c 0 i) := nb_inj heq (setN c 0 i) (hlt 0 (by omega) i hi)
    have a0 : setN c 0 (setN c 0 i) = setN c 0 i := setN_setN c hc 0 (by omega) 0 (by omega) i hi
    have a1 : setN c 1 (setN c 0 i) = setN c 1 i := setN_setN c hc 0 (by omega) 1 (by omega) i hi
    have a2 : setN c 2 (setN c 0 i) = setN c 2 i := setN_setN c hc 0 (by omega) 2 (by omega) i hi
    have e3 : someF c F (setN c 0 i) = someF c F i := by unfold someF; rw [a0, a1, a2]
    rw [e1, e2] at e3
    rw [e3] at hne
    simp at hne
  · intro hne
    refine Decidable.byContradiction fun hno => hne ?_
    have hall : ∀ i, i < 27 → F i = F (setN c 0 i) := fun i hi => by
      refine Decidable.byContradiction fun h => hno ⟨i, by simpa using hi, ?_⟩
      simpa using h
    have : nb 27 (someF c F) = nb 27 F := nb_congr fun i hi => by
      have b1 : F (setN c 1 i) = F (setN c 0 (setN c 1 i)) := hall (setN c 1 i) (hlt 1 (by omega) i hi)
      have b2 : F (setN c 2 i) = F (setN c 0 (setN c 2 i)) := hall (setN c 2 i) (hlt 2 (by omega) i hi)
      have a1 : setN c 0 (setN c 1 i) = setN c 0 i := setN_setN c hc 1 (by omega) 0 (by omega) i hi
      have a2 : setN c 0 (setN c 2 i) = setN c 0 i := setN_setN c hc 2 (by omega) 0 (by omega) i hi
      unfold someF
      rw [b1, b2, a1, a2, ← hall i hi, Bool.or_self, Bool.or_self]
    rw [this]

theorem depP_eq (F : Nat → Bool) : depP F 3 = depL F := by
  show (([] ++ (if depU (chr 0) F 27 then [chr 0] else [])) ++ (if depU (chr 1) F 27 then [chr 1] else [])) ++ (if depU (chr 2) F 27 then [chr 2] else []) = _
  rw [show chr 0 = 120 from rfl, show chr 1 = 121 from rfl, show chr 2 = 122 from rfl, dep_eq 120 (by simp) F, dep_eq 121 (by simp) F, dep_eq 122 (by simp) F]
  rfl

set_option maxHeartbeats 1000000 in
theorem specPV_no (p : ByteArray) (w : World) (hp : ¬ Set27 p) (hm : p.size ≤ maxLen) : Calls Try.prog 35 #[.string p] w fun e w' => e = .returned (.string (bs [])) ∧ Below w.heap.size w w' := by
  have C := fun w => Lib.hid (specPredValid_no p w hp hm)
  clear hp
  go_enter Try.func35, Try.ntmps35
  go_wp2_with fail
  refine wp_loop_rounds 1 ?_
  rw [rounds_succ]
  go_wp2_with fail
  refine (C _).out.mono ?_
  rintro e w' ⟨rfl, rfl⟩
  go_wp2_with fail
  go_ret
  exact ⟨rfl, Below.refl _ _⟩
end Go.Proofs.Ytnhadmeadegckaa

namespace Go.Proofs.Ytnhadmeadegckaa
open Go.RowKit

theorem hs_bs (F : Nat → Bool) (i : Nat) (hi : i < 27) : hs (bs (tb F)).data.toList i = F i := by
  rw [show (bs (tb F)).data.toList = tb F by simp [bs]]
  rw [show tb F = tbn 27 F from rfl, hs_tbn]
  simp [hi]
theorem bs_hs {p : ByteArray} (h : Set27 p) : bs (tb (hs p.data.toList)) = p := by
  rw [show tb (hs p.data.toList) = tbn 27 (hs p.data.toList) from rfl, tbn_hs h]
  exact ByteArray.ext (by simp [bs])
theorem bs_ext {F G : Nat → Bool} (h : ∀ i, i < 27 → F i = G i) : bs (tb F) = bs (tb G) := by rw [tb_congr h]
theorem set27_tb (F : Nat → Bool) : Set27 (bs (tb F)) := by
  unfold Set27
  rw [show (bs (tb F)).data.toList = tb F by simp [bs]]
  exact bits_tbn 27 F
theorem set27_max {p : ByteArray} (h : Set27 p) : p.size ≤ 28 := by have := set27_size h; omega
theorem bs_inj {F G : Nat → Bool} (h : bs (tb F) = bs (tb G)) (i : Nat) (hi : i < 27) : F i = G i := by
  rw [← hs_bs F i hi, ← hs_bs G i hi, h]

theorem cnt_same {n : Nat} {F G : Nat → Bool} (h : ∀ i, i < n → F i = G i) : cnt n F = cnt n G := by
  induction n with
  | zero => rfl
  | succ n ih => unfold cnt; rw [ih (fun i hi => h i (by omega)), h n (by omega)]
theorem cnt_not (n : Nat) (F : Nat → Bool) : cnt n F + cnt n (fun i => !F i) = n := by
  induction n with
  | zero => rfl
  | succ n ih => unfold cnt; cases h : F n <;> simp [h] <;> omega
theorem cnt_and_or (n : Nat) (F G : Nat → Bool) : cnt n (fun i => F i && G i) + cnt n (fun i => F i || G i) = cnt n F + cnt n G := by
  induction n with
  | zero => rfl
  | succ n ih => unfold cnt; cases h : F n <;> cases h2 : G n <;> simp [h, h2] <;> omega
theorem cnt_nil {n : Nat} {F : Nat → Bool} : cnt n F = 0 ↔ ∀ i, i < n → F i = false := by
  induction n with
  | zero => exact ⟨fun _ i hi => by omega, fun _ => rfl⟩
  | succ n ih =>
    unfold cnt
    constructor
    · intro h i hi
      have h1 : cnt n F = 0 := by omega
      by_cases e : i = n
      · subst e; cases hF : F i <;> simp [hF] at h ⊢
      · exact ih.1 h1 i (by omega)
    · intro h
      rw [ih.2 (fun i hi => h i (by omega)), h n (by omega)]; rfl

theorem letter_mem {c : UInt8} (h : c = 120 ∨ c = 121 ∨ c = 122) : c ∈ [(120 : UInt8), 121, 122] := by simp [h]
theorem depU_congr {c : UInt8} {F G : Nat → Bool} (h : ∀ i, i < 27 → F i = G i) : depU c F 27 = depU c G 27 := by
  unfold depU
  rw [Bool.eq_iff_iff, List.any_eq_true, List.any_eq_true]
  constructor
  · rintro ⟨i, hi, he⟩
    have hi2 : i < 27 := by simpa using hi
    exact ⟨i, hi, by rw [← h i hi2, ← h _ (setN_lt (by rfl) hi2)]; exact he⟩
  · rintro ⟨i, hi, he⟩
    have hi2 : i < 27 := by simpa using hi
    exact ⟨i, hi, by rw [h i hi2, h _ (setN_lt (by rfl) hi2)]; exact he⟩
theorem depU_not (c : UInt8) (F : Nat → Bool) : depU c (fun i => !F i) 27 = depU c F 27 := by
  unfold depU
  congr 1
  funext i
  cases h : F i <;> cases h2 : F (setN c 0 i) <;> simp [h, h2]
theorem depB_congr {c : UInt8} (hc : c ∈ [(120 : UInt8), 121, 122]) {F G : Nat → Bool} (h : ∀ i, i < 27 → F i = G i) : depB c F = depB c G := by
  rw [← dep_eq c hc, ← dep_eq c hc, depU_congr h]
theorem depL_congr {F G : Nat → Bool} (h : ∀ i, i < 27 → F i = G i) : depL F = depL G := by
  unfold depL
  rw [depB_congr (c := 120) (by simp) h, depB_congr (c := 121) (by simp) h, depB_congr (c := 122) (by simp) h]
theorem depL_not (F : Nat → Bool) : depL (fun i => !F i) = depL F := by
  unfold depL
  rw [← dep_eq 120 (by simp), ← dep_eq 121 (by simp), ← dep_eq 122 (by simp), ← dep_eq 120 (by simp), ← dep_eq 121 (by simp), ← dep_eq 122 (by simp), depU_not, depU_not, depU_not]
theorem depL_mem {c : UInt8} (hc : c = 120 ∨ c = 121 ∨ c = 122) (F : Nat → Bool) : c ∈ depL F ↔ depB c F = true := by
  unfold depL lst
  rcases hc with rfl | rfl | rfl <;> cases depB 120 F <;> cases depB 121 F <;> cases depB 122 F <;> simp
theorem depL_size (F : Nat → Bool) : (bs (depL F)).size ≤ 3 := by
  rw [bs_size]; unfold depL lst
  cases depB 120 F <;> cases depB 121 F <;> cases depB 122 F <;> simp
/-- What does not depend on a variable is the same for each value of it. -/
theorem depB_false {c : UInt8} (hc : c = 120 ∨ c = 121 ∨ c = 122) {F : Nat → Bool} : depB c F = false ↔ ∀ i, i < 27 → F i = F (setN c 0 i) := by
  rw [← dep_eq c (letter_mem hc)]
  unfold depU
  rw [List.any_eq_false]
  constructor
  · intro h i hi
    have := h i (by simpa using hi)
    simpa using this
  · intro h i hi
    have := h i (by simpa using hi)
    simpa using this

theorem wi_congr {n : Nat} {F G F' G' : Nat → Bool} (h : ∀ i, i < n → F i = F' i) (h' : ∀ i, i < n → G i = G' i) : wi n F G = wi n F' G' := by
  rw [Bool.eq_iff_iff, wi_iff, wi_iff]
  exact ⟨fun k i hi => by rw [← h i hi, ← h' i hi]; exact k i hi, fun k i hi => by rw [h i hi, h' i hi]; exact k i hi⟩
theorem wi_not (n : Nat) (F G : Nat → Bool) : wi n (fun i => !G i) (fun i => !F i) = wi n F G := by
  rw [Bool.eq_iff_iff, wi_iff, wi_iff]
  exact ⟨fun k i hi => by have := k i hi; cases h : F i <;> cases h2 : G i <;> simp_all, fun k i hi => by have := k i hi; cases h : F i <;> cases h2 : G i <;> simp_all⟩
end Go.Proofs.Ytnhadmeadegckaa

namespace Go.Proofs.Ytnhadmeadegckaa
open Go.RowKit

theorem setN_own : ∀ c ∈ [(120 : UInt8), 121, 122], ∀ i, i < 27 → (setN c 0 i = i ∨ setN c 1 i = i ∨ setN c 2 i = i) := by decide +kernel
theorem setN_lt' {c : UInt8} (n : Nat) (h : n < 3) {i : Nat} (hi : i < 27) : setN c (n : Int) i < 27 := by
  refine setN_lt ?_ hi
  unfold val3; simp; omega
theorem some_iff {c : UInt8} {F : Nat → Bool} {i : Nat} : someF c F i = true ↔ ∃ n : Nat, n < 3 ∧ F (setN c (n : Int) i) = true := by
  unfold someF
  rw [Bool.or_eq_true, Bool.or_eq_true]
  constructor
  · rintro ((h | h) | h)
    · exact ⟨0, by omega, h⟩
    · exact ⟨1, by omega, h⟩
    · exact ⟨2, by omega, h⟩
  · rintro ⟨n, hn, h⟩
    rcases (show n = 0 ∨ n = 1 ∨ n = 2 by omega) with rfl | rfl | rfl
    · exact .inl (.inl h)
    · exact .inl (.inr h)
    · exact .inr h
theorem all_iff {c : UInt8} {F : Nat → Bool} {i : Nat} : allF c F i = true ↔ ∀ n : Nat, n < 3 → F (setN c (n : Int) i) = true := by
  unfold allF
  rw [Bool.not_eq_true', Bool.eq_false_iff, ne_eq, some_iff]
  constructor
  · intro h n hn
    cases e : F (setN c (n : Int) i)
    · exact absurd ⟨n, hn, by rw [e]; rfl⟩ h
    · rfl
  · rintro h ⟨n, hn, e⟩
    rw [h n hn] at e
    cases e
theorem own {c : UInt8} (hc : c = 120 ∨ c = 121 ∨ c = 122) {i : Nat} (hi : i < 27) : ∃ n : Nat, n < 3 ∧ setN c (n : Int) i = i := by
  rcases setN_own c (letter_mem hc) i hi with h | h | h
  · exact ⟨0, by omega, h⟩
  · exact ⟨1, by omega, h⟩
  · exact ⟨2, by omega, h⟩
theorem twice {c : UInt8} (hc : c = 120 ∨ c = 121 ∨ c = 122) {n m i : Nat} (hn : n < 3) (hm : m < 3) (hi : i < 27) : setN c (m : Int) (setN c (n : Int) i) = setN c (m : Int) i :=
  setN_setN c (letter_mem hc) n hn m hm i hi
theorem some_same {c : UInt8} (hc : c = 120 ∨ c = 121 ∨ c = 122) (F : Nat → Bool) {n i : Nat} (hn : n < 3) (hi : i < 27) : someF c F (setN c (n : Int) i) = someF c F i := by
  rw [Bool.eq_iff_iff, some_iff, some_iff]
  exact ⟨fun ⟨m, hm, h⟩ => ⟨m, hm, by rwa [twice hc hn hm hi] at h⟩, fun ⟨m, hm, h⟩ => ⟨m, hm, by rwa [twice hc hn hm hi]⟩⟩
theorem all_same {c : UInt8} (hc : c = 120 ∨ c = 121 ∨ c = 122) (F : Nat → Bool) {n i : Nat} (hn : n < 3) (hi : i < 27) : allF c F (setN c (n : Int) i) = allF c F i := by
  unfold allF; rw [some_same hc _ hn hi]
theorem some_dep {c : UInt8} (hc : c = 120 ∨ c = 121 ∨ c = 122) (F : Nat → Bool) : depB c (someF c F) = false := by
  rw [depB_false hc]
  exact fun i hi => (some_same hc F (n := 0) (by omega) hi).symm
theorem all_dep {c : UInt8} (hc : c = 120 ∨ c = 121 ∨ c = 122) (F : Nat → Bool) : depB c (allF c F) = false := by
  rw [depB_false hc]
  exact fun i hi => (all_same hc F (n := 0) (by omega) hi).symm
theorem some_in {c : UInt8} (hc : c = 120 ∨ c = 121 ∨ c = 122) {F : Nat → Bool} {i : Nat} (hi : i < 27) (h : F i = true) : someF c F i = true := by
  obtain ⟨n, hn, e⟩ := own hc hi
  exact some_iff.2 ⟨n, hn, by rwa [e]⟩
theorem all_in {c : UInt8} (hc : c = 120 ∨ c = 121 ∨ c = 122) {F : Nat → Bool} {i : Nat} (hi : i < 27) (h : allF c F i = true) : F i = true := by
  obtain ⟨n, hn, e⟩ := own hc hi
  have := all_iff.1 h n hn
  rwa [e] at this
theorem galois {c : UInt8} (hc : c = 120 ∨ c = 121 ∨ c = 122) (F G : Nat → Bool) : wi 27 (someF c F) G = wi 27 F (allF c G) := by
  rw [Bool.eq_iff_iff, wi_iff, wi_iff]
  constructor
  · intro h i hi hF
    refine all_iff.2 fun n hn => h _ (setN_lt' n hn hi) ?_
    rw [some_same hc F hn hi]
    exact some_in hc hi hF
  · intro h i hi hS
    obtain ⟨n, hn, hF⟩ := some_iff.1 hS
    have h1 := h _ (setN_lt' n hn hi) hF
    rw [all_same hc G hn hi] at h1
    exact all_in hc hi h1
theorem some_not (c : UInt8) (F : Nat → Bool) (i : Nat) : someF c (fun j => !F j) i = !allF c F i := by unfold allF; rw [Bool.not_not]
theorem some_congr {c : UInt8} {F G : Nat → Bool} (h : ∀ i, i < 27 → F i = G i) {i : Nat} (hi : i < 27) : someF c F i = someF c G i := by
  rw [Bool.eq_iff_iff, some_iff, some_iff]
  exact ⟨fun ⟨m, hm, k⟩ => ⟨m, hm, by rwa [← h _ (setN_lt' m hm hi)]⟩, fun ⟨m, hm, k⟩ => ⟨m, hm, by rwa [h _ (setN_lt' m hm hi)]⟩⟩
theorem all_congr {c : UInt8} {F G : Nat → Bool} (h : ∀ i, i < 27 → F i = G i) {i : Nat} (hi : i < 27) : allF c F i = allF c G i := by
  unfold allF; rw [some_congr (G := fun j => !G j) (fun j hj => by rw [h j hj]) hi]
/-- A set depends on a variable exactly if some value of it makes another set. -/
theorem dep_some {c : UInt8} (hc : c = 120 ∨ c = 121 ∨ c = 122) (F : Nat → Bool) : depB c F = false ↔ ∀ i, i < 27 → someF c F i = F i := by
  constructor
  · intro h i hi
    have h := (depB_false hc).1 h
    rw [Bool.eq_iff_iff]
    refine ⟨fun hs => ?_, some_in hc hi⟩
    obtain ⟨n, hn, hF⟩ := some_iff.1 hs
    have h1 := h (setN c (n : Int) i) (setN_lt' n hn hi)
    rw [show setN c 0 (setN c (n : Int) i) = setN c 0 i from twice hc (m := 0) hn (by omega) hi, ← h i hi] at h1
    rw [← h1]; exact hF
  · intro h
    rw [depB_false hc]
    intro i hi
    rw [← h i hi, ← h (setN c 0 i) (setN_lt' 0 (by omega) hi)]
    exact (some_same hc F (n := 0) (by omega) hi).symm
theorem dep_all {c : UInt8} (hc : c = 120 ∨ c = 121 ∨ c = 122) (F : Nat → Bool) : depB c F = false ↔ ∀ i, i < 27 → allF c F i = F i := by
  have h1 : depB c F = depB c (fun i => !F i) := by rw [← dep_eq c (letter_mem hc), ← dep_eq c (letter_mem hc), depU_not]
  rw [h1, dep_some hc]
  constructor
  · intro h i hi
    unfold allF; rw [h i hi, Bool.not_not]
  · intro h i hi
    rw [some_not, h i hi]
end Go.Proofs.Ytnhadmeadegckaa

namespace Go.Proofs.Ytnhadmeadegckaa
open Go.RowKit

set_option maxHeartbeats 4000000 in
theorem which_any {a p : Nat} {w : World} (hr : Rd a p w) (hp : p ≤ 900000) :
    Calls Try.prog 71 #[.pointer (some ⟨a, 0, none⟩)] w fun e w' => ∃ s : ByteArray, s.size ≤ 2 ∧ e = .returned (.string s) ∧ Rd a (p + 1) w' ∧ Kp a w w' := by
  have HL := Lib.hid (Blk.new w #[.string ⟨#[120]⟩, .string ⟨#[121]⟩, .string ⟨#[122]⟩, .string ⟨#[120]⟩, .string ⟨#[121]⟩, .string ⟨#[122]⟩, .string ⟨#[120]⟩, .string ⟨#[121]⟩, .string ⟨#[]⟩, .string ⟨#[88]⟩, .string ⟨#[119]⟩, .string ⟨#[120, 121]⟩] 9)
  have hax := (Below.refl _ w).alloc (Nat.le_refl _) (.cells #[.string ⟨#[120]⟩, .string ⟨#[121]⟩, .string ⟨#[122]⟩, .string ⟨#[120]⟩, .string ⟨#[121]⟩, .string ⟨#[122]⟩, .string ⟨#[120]⟩, .string ⟨#[121]⟩, .string ⟨#[]⟩, .string ⟨#[88]⟩, .string ⟨#[119]⟩, .string ⟨#[120, 121]⟩] 9)
  have HR := Lib.hid (hr.kept hax)
  have HK := Lib.hid ((Kp.refl a w).next hax)
  have hneL : w.heap.size ≠ a := by have := hr.lt; omega
  clear hax hr
  go_enter Try.func71, Try.ntmps71
  go_wp2_with fail
  refine (of_any 12 12 (fun s => s.size ≤ 2) HR.out (by omega) HL.out hneL (by omega) (by omega) (fun i hi => by
    have hi : i = 0 ∨ i = 1 ∨ i = 2 ∨ i = 3 ∨ i = 4 ∨ i = 5 ∨ i = 6 ∨ i = 7 ∨ i = 8 ∨ i = 9 ∨ i = 10 ∨ i = 11 := by omega
    rcases hi with rfl | rfl | rfl | rfl | rfl | rfl | rfl | rfl | rfl | rfl | rfl | rfl <;> exact ⟨_, rfl, by decide⟩)).mono ?_
  rintro e w1 ⟨s, hs, rfl, hr, hk⟩
  have HR1 := Lib.hid hr
  have HK1 := Lib.hid (HK.out.trans hk)
  clear hr hk
  go_wp2_with fail
  go_ret
  exact ⟨s, hs, rfl, HR1.out, HK1.out⟩

end Go.Proofs.Ytnhadmeadegckaa

namespace Go.Proofs.Ytnhadmeadegckaa
open Go.RowKit

end Go.Proofs.Ytnhadmeadegckaa

namespace Go.Proofs.Ytnhadmeadegckaa
open Go.RowKit

theorem IsRow.kept {w w' : World} {a : Option Addr} {len cap : Nat} {zs : List Int} (h : IsRow w a len cap zs) (hb : Below w.heap.size w w') : IsRow w' a len cap zs := by
  rcases h with h | ⟨x, rfl, hl, hm, hz, hc, hw⟩
  · exact .inl h
  · exact .inr ⟨x, rfl, hl, hm, hz, fun i hi => by
      have h1 := hc i hi
      have hlt := World.block_lt_of_cell? w _ h1
      exact (hb.cell hlt).trans h1, hw⟩

theorem keepS {w w1 : World} {b c : Nat} {v0 v1 v2 x y z : Value} (h : Below c w w1) (hne : ¬ b = c) (h0 : w1.cell? ⟨b, 0, none⟩ = some x) (h1 : w1.cell? ⟨b, 1, none⟩ = some y) (h2 : w1.cell? ⟨b, 2, none⟩ = some z) :
    Below c w (((w1.setCell ⟨c, 0, none⟩ v0).setCell ⟨c, 1, none⟩ v1).setCell ⟨c, 2, none⟩ v2) ∧
    (((w1.setCell ⟨c, 0, none⟩ v0).setCell ⟨c, 1, none⟩ v1).setCell ⟨c, 2, none⟩ v2).cell? ⟨b, 0, none⟩ = some x ∧
    (((w1.setCell ⟨c, 0, none⟩ v0).setCell ⟨c, 1, none⟩ v1).setCell ⟨c, 2, none⟩ v2).cell? ⟨b, 1, none⟩ = some y ∧
    (((w1.setCell ⟨c, 0, none⟩ v0).setCell ⟨c, 1, none⟩ v1).setCell ⟨c, 2, none⟩ v2).cell? ⟨b, 2, none⟩ = some z := by
  have hne2 : ¬ c = b := fun h => hne h.symm
  exact ⟨Below.setCell (Below.setCell (Below.setCell h (by simp) _) (by simp) _) (by simp) _, by simp [go_sem, h0], by simp [go_sem, h1], by simp [go_sem, h2]⟩

end Go.Proofs.Ytnhadmeadegckaa

namespace Go.Proofs.Ytnhadmeadegckaa
open Go.RowKit

theorem part_upd (n k : Nat) (F : Nat → Bool) (b : Bool) (h : k < n) : (part n k F).set k (bitc b) = part n (k + 1) (fun j => if j = k then b else F j) := by
  rw [← part_step n k _ h]
  unfold part
  rw [tbn_congr (F := fun j => if j = k then b else F j) (G := F) (fun i hi => by rw [if_neg (by omega)])]
  simp
theorem set27_bs (F : Nat → Bool) : Set27 (bs (tb F)) := by
  unfold Set27
  rw [show (bs (tb F)).data.toList = tb F by simp [bs]]
  exact bits_tbn 27 F

set_option maxRecDepth 100000 in
set_option maxHeartbeats 8000000 in
/-- A text of a set is drawn. -/
theorem some_any {a p : Nat} {w : World} (hr : Rd a p w) (hp : p ≤ 400000) :
    Calls Try.prog 87 #[.pointer (some ⟨a, 0, none⟩)] w (DrQ Set27 a p 27 27 80 w) := by
  have HR := Lib.hid hr
  have hlt := hr.lt
  clear hr
  have hmk : ∀ w, (Instr.makeSlice 22 (.int .i64 27) (.int .i64 27)).run Try.prog w = .ok (.slice (some ⟨w.heap.size, 0, none⟩) 27 27) (w.alloc (.cells (u8s (zs 27)) 5)) := fun w => mkBytes 27 (by omega) w
  have C := Lib.hid (pick_any 3 HR.out (by omega) (by omega) (by omega))
  go_enter Try.func87, Try.ntmps87
  go_wp2_with fail
  refine C.out.mono ?_
  rintro e w1 ⟨k, k0, k1, rfl, hr, hk⟩
  have HR1 := Lib.hid hr
  have HK1 := Lib.hid hk
  clear hr hk C
  by_cases h0 : (0 : Int) < k
  · have HC := Lib.hid (vT_2 (bs [120, 121, 122]) (by decide) (by decide) nm_xyz HR1.out (by omega))
    go_wp2_with fail
    refine HC.out.mono ?_
    rintro e w2 ⟨t, q, t1, t2, hq, hv, rfl, hr, hk⟩
    obtain ⟨tm, htm, etm⟩ := hv
    have HR2 := Lib.hid hr
    have HK2 := Lib.hid (HK1.out.trans hk)
    have HO := fun w => Lib.hid (specOf0 t tm w (ok_wide htm) etm (by omega))
    clear hr hk HC htm etm
    have HS := Lib.hid (set27_bs (tst tm))
    have HZ : Hid ((bs (tb (tst tm))).size = 27) := by show _ = _; rw [bs_size]; exact tbn_length 27 _
    generalize bs (tb (tst tm)) = r at *
    go_wp2_with fail
    refine (HO _).out.mono ?_
    rintro e w3 ⟨rfl, hb⟩
    have HR3 := Lib.hid (HR2.out.kept hb)
    have HK3 := Lib.hid (HK2.out.next hb)
    clear hb
    go_wp2_with fail
    go_ret
    exact ⟨_, q, Nat.le_of_eq HZ.out.symm, Nat.le_of_eq HZ.out, by omega, HS.out, rfl, HR3.out, HK3.out⟩
  · have HT0 := Lib.hid (BBlk.made 27 w1)
    have hax := (Below.refl _ w1).alloc (Nat.le_refl _) (.cells (u8s (zs 27)) 5)
    have HR2 := Lib.hid (HR1.out.kept hax)
    have HK2 := Lib.hid (HK1.out.next hax)
    have hne : w1.heap.size ≠ a := by have := HR1.out.lt; omega
    clear hax
    go_wp2_with fail
    generalize w1.alloc (.cells (u8s (zs 27)) 5) = w0 at *
    go_loopw [4] (fun i wr => ∃ (k q : Nat) (F : Nat → Bool), k ≤ 27 ∧ i = .int .i64 k ∧ q ≤ p + 1 + k ∧ Hid (Rd a q wr) ∧ Hid (Kp a w wr) ∧ Hid (BBlk wr w1.heap.size (part 27 k F))) (fun i _ => 27 - (intOf i).toNat)
    case atStart => exact ⟨0, p + 1, fun _ => false, by omega, rfl, by omega, HR2, HK2, HT0⟩
    case round =>
      clear HT0 HR2 HK2
      obtain ⟨k, q, F, hk, rfl, hq, HRk, HKk, HTk⟩ := hrel
      by_cases hlt2 : k < 27
      · have HC := Lib.hid (pick_any 2 HRk.out (by omega) (by omega) (by omega))
        have hl := Lib.hid (part_len 27 k F (by omega))
        go_wp2_with fail
        refine HC.out.mono ?_
        rintro e w2 ⟨b, b0, b1, rfl, hr, hk⟩
        have HR3 := Lib.hid hr
        have HK3 := Lib.hid (HKk.out.trans hk)
        have HT3 : Hid (BBlk w2 w1.heap.size (part 27 k F)) := Blk.kp HTk.out hk hne
        have HB2 := Lib.hid HK1.out.size
        clear hr hk HC
        obtain ⟨old, hc⟩ := HT3.out.some k (by rw [hl.out]; omega)
        have hf := HT3.out.free k
        have hgt : a + 1 ≤ w1.heap.size := by have := HR1.out.lt; omega
        cases hb0 : (b == 0)
        · have HP := Lib.hid (part_upd 27 k F false hlt2)
          go_wp2_with fail
          refine (specBit _ _).mono ?_
          rintro e w' ⟨rfl, rfl⟩
          go_wp2_with fail
          refine ⟨⟨k + 1, q + 1, (fun j => if j = k then false else F j), by omega, by go_num, by omega, HR3.out.keepB (Below.setCell (Below.refl (a + 1) _) (p := ⟨w1.heap.size, k, none⟩) hgt _) (by omega), HK3.out.setNew (q := ⟨w1.heap.size, k, none⟩) HB2.out _, ?_⟩, by simp [intOf]; omega⟩
          refine ?_
          show BBlk _ _ (part 27 (k + 1) (fun j => if j = k then false else F j))
          rw [← HP.out]
          exact HT3.out.set k _
        · have HP := Lib.hid (part_upd 27 k F true hlt2)
          go_wp2_with fail
          refine (specBit _ _).mono ?_
          rintro e w' ⟨rfl, rfl⟩
          go_wp2_with fail
          refine ⟨⟨k + 1, q + 1, (fun j => if j = k then true else F j), by omega, by go_num, by omega, HR3.out.keepB (Below.setCell (Below.refl (a + 1) _) (p := ⟨w1.heap.size, k, none⟩) hgt _) (by omega), HK3.out.setNew (q := ⟨w1.heap.size, k, none⟩) HB2.out _, ?_⟩, by simp [intOf]; omega⟩
          refine ?_
          show BBlk _ _ (part 27 (k + 1) (fun j => if j = k then true else F j))
          rw [← HP.out]
          exact HT3.out.set k _
      · have hk3 : k = 27 := by omega
        subst hk3
        have hv := toStr HTk.out 27 27 (part_len 27 27 _ (by omega)).symm
        rw [part_all] at hv
        have HS := Lib.hid (set27_bs F)
        have HZ : Hid ((bs (tb F)).size = 27) := by show _ = _; rw [bs_size]; exact tbn_length 27 _
        unfold tb at HS HZ
        generalize bs (tbn 27 F) = r at *
        go_wp2_with fail
        go_ret
        exact ⟨_, q, Nat.le_of_eq HZ.out.symm, Nat.le_of_eq HZ.out, by omega, HS.out, rfl, HRk.out, HKk.out⟩

theorem szl {x : Nat} (h : x = 27) : (¬ 9223372036854775807 < x + 1) ∧ (¬ 9223372036854775807 < x - 1 + 1) ∧ (¬ 9223372036854775807 < 26 + 1) := by omega
set_option maxRecDepth 100000 in
set_option maxHeartbeats 8000000 in
/-- A text of a set is spoilt, or not. -/
theorem bad2_any {a p : Nat} (t : ByteArray) (h1 : t.size = 27) {w : World} (hr : Rd a p w) (hp : p ≤ 900000) :
    Calls Try.prog 89 #[.pointer (some ⟨a, 0, none⟩), .string t] w (DrP a p 0 28 1 w) := by
  have HR := Lib.hid hr
  clear hr
  have C := Lib.hid (pick_any 40 HR.out (by omega) (by omega) (by omega))
  go_enter Try.func89, Try.ntmps89
  go_wp2_with fail
  refine C.out.mono ?_
  rintro e w1 ⟨k, k0, k1, rfl, hr, hk⟩
  have HR1 := Lib.hid hr
  have HK1 := Lib.hid hk
  clear hr hk C
  obtain ⟨n1, n2, n3⟩ := szl h1
  by_cases e0 : k = 0
  · subst e0
    go_wp2_with fail
    go_ret
    exact ⟨_, p + 1, Nat.zero_le _, by rw [ByteArray.size_append, h1]; decide, by omega, rfl, HR1.out, HK1.out⟩
  have g0 : (k == 0) = false := by rw [beq_eq_false_iff_ne]; exact e0
  clear e0
  by_cases e1 : k = 1
  · subst e1
    have ew : IntKind.i64.wrap ((t.size : Int) - 1) = 26 := (IntWalk.i64_in _ (by omega)).trans (by omega)
    have ew2 : (26 : Int) ≤ (t.size : Int) := by omega
    have ez : (t.extract 0 26).size = 26 := by simp [ByteArray.size_extract]; omega
    have EZ := Lib.hid ez
    clear h1
    go_wp2_with fail
    go_ret
    exact ⟨_, p + 1, Nat.zero_le _, by rw [ByteArray.size_append, EZ.out]; decide, by omega, rfl, HR1.out, HK1.out⟩
  have g1 : (k == 1) = false := by rw [beq_eq_false_iff_ne]; exact e1
  clear e1
  by_cases e2 : k = 2
  · subst e2
    go_wp2_with fail
    go_ret
    exact ⟨_, p + 1, Nat.zero_le _, by decide, by omega, rfl, HR1.out, HK1.out⟩
  have g2 : (k == 2) = false := by rw [beq_eq_false_iff_ne]; exact e2
  clear e2
  go_wp2_with fail
  go_ret
  exact ⟨_, p + 1, Nat.zero_le _, by omega, by omega, rfl, HR1.out, HK1.out⟩

set_option maxHeartbeats 4000000 in
/-- A text is drawn where a set is asked. -/
theorem open2_any {a p : Nat} {w : World} (hr : Rd a p w) (hp : p ≤ 400000) :
    Calls Try.prog 62 #[.pointer (some ⟨a, 0, none⟩)] w (DrP a p 0 28 81 w) := by
  have HC := Lib.hid (some_any hr hp)
  clear hr
  go_enter Try.func62, Try.ntmps62
  go_wp2_with fail
  refine HC.out.mono ?_
  rintro e w1 ⟨t, q, t1, t2, hq, hv, rfl, hr, hk⟩
  have HK1 := Lib.hid hk
  have HC := Lib.hid (bad2_any t (by omega) hr (by omega))
  clear hr hk hv
  go_wp2_with fail
  refine HC.out.mono ?_
  rintro e w2 ⟨x, q', x1, x2, hq', rfl, hr, hk⟩
  have HR2 := Lib.hid hr
  have HK2 := Lib.hid (HK1.out.trans hk)
  clear hr hk
  go_wp2_with fail
  go_ret
  exact ⟨x, q', by omega, by omega, by omega, rfl, HR2.out, HK2.out⟩

theorem or_size (p q : List UInt8) : (bs (tbn 27 (fun i => hs p i || hs q i))).size = 27 := by rw [bs_size]; exact tbn_length 27 _

set_option maxRecDepth 100000 in
set_option maxHeartbeats 8000000 in
/-- Two texts are drawn where sets are asked. -/
theorem two2_any {a p : Nat} {w : World} (hr : Rd a p w) (hp : p ≤ 300000) :
    Calls Try.prog 54 #[.pointer (some ⟨a, 0, none⟩)] w fun e w' => ∃ (s t : ByteArray) (q : Nat), s.size ≤ 28 ∧ t.size ≤ 28 ∧ q ≤ p + 163 ∧ e = .returned (.tuple #[.string s, .string t]) ∧ Rd a q w' ∧ Kp a w w' := by
  have HC := Lib.hid (open2_any hr (by omega))
  clear hr
  go_enter Try.func54, Try.ntmps54
  go_wp2_with fail
  refine HC.out.mono ?_
  rintro e w1 ⟨s, q, s1, s2, hq, rfl, hr, hk⟩
  have HK1 := Lib.hid hk
  have HC := Lib.hid (some_any hr (by omega))
  clear hr hk
  go_wp2_with fail
  refine HC.out.mono ?_
  rintro e w2 ⟨t, q', t1, t2, hq', hv, rfl, hr, hk⟩
  have hlt := hr.lt
  have HR2 := Lib.hid hr
  have HK2 := Lib.hid (HK1.out.trans hk)
  have tz : t.size = 27 := by omega
  clear hr hk hv HC
  by_cases hs27 : s.size = 27
  · have hg : ((s.size : Int) == (t.size : Int)) = true := by rw [beq_iff_eq]; omega
    have HC := Lib.hid (pick_any 3 HR2.out (by omega) (by omega) (by omega))
    go_wp2_with fail
    refine HC.out.mono ?_
    rintro e w3 ⟨k, k0, k1, rfl, hr, hk⟩
    have HR3 := Lib.hid hr
    have HK3 := Lib.hid (HK2.out.trans hk)
    clear hr hk HC
    by_cases e0 : k = 0
    · subst e0
      have HO := fun w => Lib.hid (specOr0 s t 27 w hs27 tz (by omega))
      have oz := or_size s.data.toList t.data.toList
      generalize bs (tbn 27 (fun i => hs s.data.toList i || hs t.data.toList i)) = o at *
      go_wp2_with fail
      refine (HO _).out.mono ?_
      rintro e w4 ⟨rfl, hb⟩
      have HK4 := Lib.hid (HK3.out.next hb)
      have HC := Lib.hid (bad2_any o oz (HR3.out.kept hb) (by omega))
      clear hb
      go_wp2_with fail
      refine HC.out.mono ?_
      rintro e w5 ⟨x, q5, x1, x2, hq5, rfl, hr, hk⟩
      have HR5 := Lib.hid hr
      have HK5 := Lib.hid (HK4.out.trans hk)
      clear hr hk
      go_wp2_with fail
      go_ret2
      exact ⟨s, x, q5, by omega, by omega, by omega, rfl, HR5.out, HK5.out⟩
    · have g0 : (k == 0) = false := by rw [beq_eq_false_iff_ne]; exact e0
      clear e0
      have HC := Lib.hid (bad2_any t tz HR3.out (by omega))
      go_wp2_with fail
      refine HC.out.mono ?_
      rintro e w5 ⟨x, q5, x1, x2, hq5, rfl, hr, hk⟩
      have HR5 := Lib.hid hr
      have HK5 := Lib.hid (HK3.out.trans hk)
      clear hr hk
      go_wp2_with fail
      go_ret2
      exact ⟨s, x, q5, by omega, by omega, by omega, rfl, HR5.out, HK5.out⟩
  · have hg : ((s.size : Int) == (t.size : Int)) = false := by rw [beq_eq_false_iff_ne]; omega
    have HC := Lib.hid (bad2_any t tz HR2.out (by omega))
    go_wp2_with fail
    refine HC.out.mono ?_
    rintro e w5 ⟨x, q5, x1, x2, hq5, rfl, hr, hk⟩
    have HR5 := Lib.hid hr
    have HK5 := Lib.hid (HK2.out.trans hk)
    clear hr hk
    go_wp2_with fail
    go_ret2
    exact ⟨s, x, q5, by omega, by omega, by omega, rfl, HR5.out, HK5.out⟩

set_option maxHeartbeats 4000000 in
theorem drawNP {a : Option Addr} {len cap : Nat} {zs : List Int} {w : World} (h : IsRow w a len cap zs) :
    Calls Try.prog 28 #[.slice a len cap] w fun e w' => ∃ t : ByteArray, t.size ≤ 28 ∧ e = .returned (.string t) ∧ Below w.heap.size w w' := by
  have HO := Lib.hid (open_any h)
  clear h
  go_enter Try.func28, Try.ntmps28
  go_wp2_with fail
  refine HO.out.mono ?_
  rintro e w1 ⟨rfl, hr, hb⟩
  have HW1 := Lib.hid hb
  have HC := Lib.hid (open2_any hr (by omega))
  clear hr hb
  go_wp2_with fail
  refine HC.out.mono ?_
  rintro e w2 ⟨t, q, t1, t2, hq, rfl, hr, hk⟩
  have HW2 := Lib.hid (HW1.out.trans (hk.below (Nat.le_refl _) HW1.out.size))
  clear hr hk
  go_wp2_with fail
  go_ret
  exact ⟨t, by omega, rfl, HW2.out⟩

set_option maxHeartbeats 4000000 in
theorem drawPVs {a : Option Addr} {len cap : Nat} {zs : List Int} {w : World} (h : IsRow w a len cap zs) :
    Calls Try.prog 34 #[.slice a len cap] w fun e w' => ∃ t : ByteArray, t.size ≤ 28 ∧ e = .returned (.string t) ∧ Below w.heap.size w w' := by
  have HO := Lib.hid (open_any h)
  clear h
  go_enter Try.func34, Try.ntmps34
  go_wp2_with fail
  refine HO.out.mono ?_
  rintro e w1 ⟨rfl, hr, hb⟩
  have HW1 := Lib.hid hb
  have HC := Lib.hid (open2_any hr (by omega))
  clear hr hb
  go_wp2_with fail
  refine HC.out.mono ?_
  rintro e w2 ⟨t, q, t1, t2, hq, rfl, hr, hk⟩
  have HW2 := Lib.hid (HW1.out.trans (hk.below (Nat.le_refl _) HW1.out.size))
  clear hr hk
  go_wp2_with fail
  go_ret
  exact ⟨t, by omega, rfl, HW2.out⟩

set_option maxHeartbeats 4000000 in
theorem drawAP {a : Option Addr} {len cap : Nat} {zs : List Int} {w : World} (h : IsRow w a len cap zs) :
    Calls Try.prog 20 #[.slice a len cap] w fun e w' => ∃ s t : ByteArray, s.size ≤ 28 ∧ t.size ≤ 28 ∧ e = .returned (.tuple #[.string s, .string t]) ∧ Below w.heap.size w w' := by
  have HO := Lib.hid (open_any h)
  clear h
  go_enter Try.func20, Try.ntmps20
  go_wp2_with fail
  refine HO.out.mono ?_
  rintro e w1 ⟨rfl, hr, hb⟩
  have HW1 := Lib.hid hb
  have HC := Lib.hid (two2_any hr (by omega))
  clear hr hb
  go_wp2_with fail
  refine HC.out.mono ?_
  rintro e w2 ⟨s, t, q, s1, t1, hq, rfl, hr, hk⟩
  have HW2 := Lib.hid (HW1.out.trans (hk.below (Nat.le_refl _) HW1.out.size))
  clear hr hk
  go_wp2_with fail
  go_ret2
  exact ⟨s, t, s1, t1, rfl, HW2.out⟩

set_option maxHeartbeats 4000000 in
theorem drawPW {a : Option Addr} {len cap : Nat} {zs : List Int} {w : World} (h : IsRow w a len cap zs) :
    Calls Try.prog 32 #[.slice a len cap] w fun e w' => ∃ s t : ByteArray, s.size ≤ 28 ∧ t.size ≤ 28 ∧ e = .returned (.tuple #[.string s, .string t]) ∧ Below w.heap.size w w' := by
  have HO := Lib.hid (open_any h)
  clear h
  go_enter Try.func32, Try.ntmps32
  go_wp2_with fail
  refine HO.out.mono ?_
  rintro e w1 ⟨rfl, hr, hb⟩
  have HW1 := Lib.hid hb
  have HC := Lib.hid (two2_any hr (by omega))
  clear hr hb
  go_wp2_with fail
  refine HC.out.mono ?_
  rintro e w2 ⟨s, t, q, s1, t1, hq, rfl, hr, hk⟩
  have HW2 := Lib.hid (HW1.out.trans (hk.below (Nat.le_refl _) HW1.out.size))
  clear hr hk
  go_wp2_with fail
  go_ret2
  exact ⟨s, t, s1, t1, rfl, HW2.out⟩

set_option maxHeartbeats 4000000 in
theorem drawSoV {a : Option Addr} {len cap : Nat} {zs : List Int} {w : World} (h : IsRow w a len cap zs) :
    Calls Try.prog 38 #[.slice a len cap] w fun e w' => ∃ s t : ByteArray, s.size ≤ 28 ∧ t.size ≤ 2 ∧ e = .returned (.tuple #[.string s, .string t]) ∧ Below w.heap.size w w' := by
  have HO := Lib.hid (open_any h)
  clear h
  go_enter Try.func38, Try.ntmps38
  go_wp2_with fail
  refine HO.out.mono ?_
  rintro e w1 ⟨rfl, hr, hb⟩
  have HW1 := Lib.hid hb
  have HC := Lib.hid (open2_any hr (by omega))
  clear hr hb
  go_wp2_with fail
  refine HC.out.mono ?_
  rintro e w2 ⟨t, q, t1, t2, hq, rfl, hr, hk⟩
  have HW2 := Lib.hid (HW1.out.trans (hk.below (Nat.le_refl _) HW1.out.size))
  have HC := Lib.hid (which_any hr (by omega))
  clear hr hk
  go_wp2_with fail
  refine HC.out.mono ?_
  rintro e w3 ⟨v, hv, rfl, hr, hk⟩
  have HW3 := Lib.hid (HW2.out.trans (hk.below (Nat.le_refl _) HW2.out.size))
  clear hr hk
  go_wp2_with fail
  go_ret2
  exact ⟨t, v, by omega, hv, rfl, HW3.out⟩
end Go.Proofs.Ytnhadmeadegckaa

namespace Go.Proofs.Ytnhadmeadegckaa
open Go.RowKit

set_option maxHeartbeats 1000000 in
theorem ppNot_of (p q : ByteArray) (b : Bool) (C : ∀ w, Hid (Calls Try.prog 29 #[.string p] w fun e w' => e = .returned (.tuple #[.string q, .bool b]) ∧ Below w.heap.size w w')) (w : World) :
    Calls Try.prog 19 #[.string p] w fun e w' => e = .returned (.string q) ∧ Below w.heap.size w w' := by
  go_enter Try.func19, Try.ntmps19
  go_wp2_with fail
  refine (C _).out.mono ?_
  rintro e w1 ⟨rfl, hb⟩
  have HB := Lib.hid hb
  clear hb
  go_wp2_with fail
  go_ret
  exact ⟨rfl, HB.out⟩
set_option maxHeartbeats 1000000 in
theorem ppAnd_of (p p2 q : ByteArray) (b : Bool) (C : ∀ w, Hid (Calls Try.prog 21 #[.string p, .string p2] w fun e w' => e = .returned (.tuple #[.string q, .bool b]) ∧ Below w.heap.size w w')) (w : World) :
    Calls Try.prog 31 #[.string p, .string p2] w fun e w' => e = .returned (.string q) ∧ Below w.heap.size w w' := by
  go_enter Try.func31, Try.ntmps31
  go_wp2_with fail
  refine (C _).out.mono ?_
  rintro e w1 ⟨rfl, hb⟩
  have HB := Lib.hid hb
  clear hb
  go_wp2_with fail
  go_ret
  exact ⟨rfl, HB.out⟩
set_option maxHeartbeats 1000000 in
theorem ppOr_of (p p2 q : ByteArray) (b : Bool) (C : ∀ w, Hid (Calls Try.prog 23 #[.string p, .string p2] w fun e w' => e = .returned (.tuple #[.string q, .bool b]) ∧ Below w.heap.size w w')) (w : World) :
    Calls Try.prog 26 #[.string p, .string p2] w fun e w' => e = .returned (.string q) ∧ Below w.heap.size w w' := by
  go_enter Try.func26, Try.ntmps26
  go_wp2_with fail
  refine (C _).out.mono ?_
  rintro e w1 ⟨rfl, hb⟩
  have HB := Lib.hid hb
  clear hb
  go_wp2_with fail
  go_ret
  exact ⟨rfl, HB.out⟩
end Go.Proofs.Ytnhadmeadegckaa

namespace Go.Proofs.Ytnhadmeadegckaa
open Go.RowKit

theorem ext1 (s : ByteArray) (i : Nat) (h : i < s.size) : s.extract i (i + 1) = ⟨#[s[i]]⟩ := by
  apply ByteArray.ext
  rw [ByteArray.data_extract]
  apply Array.ext
  · simp; have : s.data.size = s.size := rfl; omega
  · intro j h1 h2
    simp at h2
    subst h2
    simp; rfl

set_option maxHeartbeats 1000000 in
/-- ppHas(s, v) for a text v of one byte. -/
theorem has_any (s : ByteArray) (c : UInt8) (w : World) (hs : s.size ≤ 1000000) : Calls Try.prog 16 #[.string s, .string ⟨#[c]⟩] w fun e w' => e = .returned (.bool (decide (c ∈ s.data.toList))) ∧ w = w' := by
  obtain ⟨R, hR⟩ : ∃ R, decide (c ∈ s.data.toList) = R := ⟨_, rfl⟩
  have HR := Lib.hid hR
  rw [hR]
  clear hR
  go_enter Try.func16, Try.ntmps16
  go_wp2
  go_loop [5] (fun i => ∃ k : Nat, k ≤ s.size ∧ i = .int .i64 k ∧ Hid (∀ j, j < k → s.data.toList[j]? ≠ some c)) (fun i => s.size - (intOf i).toNat)
  case atStart => exact ⟨0, Nat.zero_le _, rfl, fun j hj => by omega⟩
  case round =>
    obtain ⟨k, hk, rfl, HH⟩ := hrel
    by_cases hlt : k < s.size
    · have hd : Hid (s.data.toList[k]? = some s[k]) := List.getElem?_eq_getElem (by simpa using hlt)
      have h1 : (k : Int) ≤ (s.size : Int) := by omega
      have h2 : (k : Int) + 1 ≤ (s.size : Int) := by omega
      by_cases hc : s[k] = c
      · have hfin : Hid (R = true) := HR.out.symm.trans <| decide_eq_true (List.mem_of_getElem? (hd.out.trans (by rw [hc])))
        have ht : ((s.extract k (k + 1)).toList == [c]) = true := by rw [ByteArray.toList_eq, ext1 s k hlt, hc]; simp
        clear hc
        go_wp2
        go_ret
        exact ⟨by rw [hfin.out]; rfl, rfl⟩
      · have ht : ((s.extract k (k + 1)).toList == [c]) = false := by
          rw [ByteArray.toList_eq, ext1 s k hlt]
          simpa using hc
        have H2 : Hid (∀ j, j < k + 1 → s.data.toList[j]? ≠ some c) := fun j hj => by
          by_cases e : j = k
          · subst e; rw [hd.out]; simpa using hc
          · exact HH.out j (by omega)
        clear hc
        go_wp2
        go_round
        case rel => exact ⟨k + 1, by omega, by go_num, H2⟩
        case measure => simp [intOf]; omega
    · have hfin : Hid (R = false) := HR.out.symm.trans <| decide_eq_false fun hm => by
        obtain ⟨j, hj, e⟩ := List.getElem_of_mem hm
        exact HH.out j (by simp at hj; have : s.data.size = s.size := rfl; omega) (by rw [List.getElem?_eq_getElem hj, e])
      go_wp2
      go_ret
      exact ⟨by rw [hfin.out]; rfl, rfl⟩
end Go.Proofs.Ytnhadmeadegckaa

namespace Go.Proofs.Ytnhadmeadegckaa
open Go.RowKit

def IntPost (n : Int) (w : World) (e : Ending) (w' : World) : Prop := e = .returned (.int .i64 n) ∧ Below w.heap.size w w'
def Row (w : World) (B : Nat) (T : TypeId) (v : Value) (xs : List Value) : Prop := w.ownsRow B T 1 v xs.length xs
theorem Row.kept {w w' : World} {B : Nat} {T : TypeId} {v : Value} {xs : List Value} (h : Row w B T v xs) (hb : Below w.heap.size w w') : Row w' B T v xs := by
  obtain ⟨h1, h2⟩ := h
  refine ⟨h1, ?_⟩
  rcases h2 with h2 | ⟨g, cap, cur, a, b, c, d⟩
  · exact .inl h2
  · exact .inr ⟨g, cap, cur, a, b, (hb.block g (Array.getElem?_eq_some_iff.1 c).1).trans c, d⟩
theorem Row.mono {w : World} {B B' : Nat} {T : TypeId} {v : Value} {xs : List Value} (h : Row w B T v xs) (hb : B' ≤ B) : Row w B' T v xs := World.ownsRow.mono h hb
theorem Row.nil (w : World) (B : Nat) (T : TypeId) : Row w B T (.slice none 0 0) [] := ⟨rfl, .inl ⟨rfl, rfl⟩⟩
theorem Row.new (w : World) (T : TypeId) (xs : List Value) (hx : xs.length ≤ 1000) : Row (w.alloc (.cells xs.toArray T)) w.heap.size T (.slice (some ⟨w.heap.size, 0, none⟩) xs.length xs.length) xs := by
  refine ⟨by simp, .inr ⟨w.heap.size, xs.length, xs.toArray, rfl, Nat.le_refl _, Blk.new w xs.toArray T, Nat.le_refl _, by unfold maxLen; omega, by simp, by simp⟩⟩
/-- The forms of a row's slice, and its cells. -/
theorem Row.cases {w : World} {B : Nat} {T : TypeId} {v : Value} {xs : List Value} (h : Row w B T v xs) : (v = .slice none 0 0 ∧ xs = []) ∨ ∃ g cap, v = .slice (some ⟨g, 0, none⟩) xs.length cap ∧ B ≤ g ∧ xs.length ≤ cap ∧ ∀ (j : Nat) (u : Value), xs[j]? = some u → w.cell? ⟨g, j, none⟩ = some u := by
  have h' := h
  obtain ⟨h1, h2⟩ := h
  rcases h2 with ⟨h2, h3⟩ | ⟨g, cap, cur, rfl, b, c, d, _⟩
  · exact .inl ⟨h2, List.eq_nil_of_length_eq_zero h3⟩
  · refine .inr ⟨g, cap, rfl, b, d, fun j u hu => ?_⟩
    have hj : j < xs.length := (List.getElem?_eq_some_iff.1 hu).1
    rw [World.ownsRow.cellAt (show World.ownsRow _ _ _ _ _ _ _ from h') j (by omega)]
    exact hu
theorem Row.one {w : World} {B : Nat} {T : TypeId} {v a : Value} (h : Row w B T v [a]) : ∃ g cap, v = .slice (some ⟨g, 0, none⟩) 1 cap ∧ w.cell? ⟨g, 0, none⟩ = some a := by
  rcases h.cases with ⟨_, h2⟩ | ⟨g, cap, h1, _, _, h3⟩
  · cases h2
  · exact ⟨g, cap, h1, h3 0 a rfl⟩
theorem Row.two {w : World} {B : Nat} {T : TypeId} {v a b : Value} (h : Row w B T v [a, b]) : ∃ g cap, v = .slice (some ⟨g, 0, none⟩) 2 cap ∧ w.cell? ⟨g, 0, none⟩ = some a ∧ w.cell? ⟨g, 1, none⟩ = some b := by
  rcases h.cases with ⟨_, h2⟩ | ⟨g, cap, h1, _, _, h3⟩
  · cases h2
  · exact ⟨g, cap, h1, h3 0 a rfl, h3 1 b rfl⟩
theorem Row.zero {w : World} {B : Nat} {T : TypeId} {v : Value} (h : Row w B T v []) : ∃ a cap, v = .slice a 0 cap := by
  rcases h.cases with ⟨h2, _⟩ | ⟨g, cap, h1, _⟩
  · exact ⟨_, _, h2⟩
  · exact ⟨_, _, h1⟩
theorem Row.one' {w : World} {B : Nat} {T : TypeId} {v a : Value} (h : Row w B T v [a]) : ∃ g cap, v = .slice (some ⟨g, 0, none⟩) 1 cap ∧ B ≤ g ∧ w.cell? ⟨g, 0, none⟩ = some a := by
  rcases h.cases with ⟨_, h2⟩ | ⟨g, cap, h1, hb, _, h3⟩
  · cases h2
  · exact ⟨g, cap, h1, hb, h3 0 a rfl⟩
theorem Row.two' {w : World} {B : Nat} {T : TypeId} {v a b : Value} (h : Row w B T v [a, b]) : ∃ g cap, v = .slice (some ⟨g, 0, none⟩) 2 cap ∧ B ≤ g ∧ w.cell? ⟨g, 0, none⟩ = some a ∧ w.cell? ⟨g, 1, none⟩ = some b := by
  rcases h.cases with ⟨_, h2⟩ | ⟨g, cap, h1, hb, _, h3⟩
  · cases h2
  · exact ⟨g, cap, h1, hb, h3 0 a rfl, h3 1 b rfl⟩
/-- A row that is not empty, as a list of cells that may be appended. -/
theorem Row.news {w : World} {B : Nat} {T : TypeId} {v : Value} {xs : List Value} (h : Row w B T v xs) (hx : 0 < xs.length) : ∃ g cap, v = .slice (some ⟨g, 0, none⟩) xs.length cap ∧ B ≤ g ∧ g < w.heap.size ∧ ∀ (j : Nat) (u : Value), xs[j]? = some u → w.cell? ((⟨g, 0, none⟩ : Addr).add j) = some u := by
  rcases h.cases with ⟨_, h2⟩ | ⟨g, cap, h1, hb, _, h3⟩
  · rw [h2] at hx; simp at hx
  · refine ⟨g, cap, h1, hb, ?_, World.ownsRow.cells h (by rw [h1]; rfl)⟩
    have := World.ownsRow.lt h g (by rw [h1]; rfl)
    exact this.2
/-- Behind an append. -/
theorem Row.after {w w2 w3 : World} {T : TypeId} {v : Value} {xs ys : List Value} {g3 cap3 : Nat} (hB : Below w.heap.size w w2) (hrow : Row w2 w.heap.size T v xs)
    (hown : w3.ownsRow w.heap.size T 1 (.slice (some ⟨g3, 0, none⟩) (xs.length + ys.length) cap3) (xs.length + ys.length) (xs ++ ys)) (hgrow : w2.grownBy w3 v.ownBlock) :
    Row w3 w.heap.size T (.slice (some ⟨g3, 0, none⟩) (xs.length + ys.length) cap3) (xs ++ ys) ∧ Below w.heap.size w w3 := by
  refine ⟨?_, hB.grown hgrow hB.size (fun k hk => (World.ownsRow.lt hrow k hk).1)⟩
  unfold Row
  rw [List.length_append]
  exact hown
end Go.Proofs.Ytnhadmeadegckaa

namespace Go.Proofs.Ytnhadmeadegckaa
open Go.RowKit

theorem infoState : (Try.prog.info? 30).map (fun i => (i.zero, i.size, i.bytes)) = some (some (.agg #[.int .i64 0, .int .i64 0, .int .i64 0]), 3, 24) := by kernel_rfl

/-- The cells of the first k states. -/
def stC : Nat → List Value
  | 0 => []
  | k + 1 => stC k ++ [.int .i64 (ax k), .int .i64 (ay k), .int .i64 (az k)]
theorem stC_len (k : Nat) : (stC k).length = k * 3 := by
  induction k with
  | zero => rfl
  | succ k ih => unfold stC; rw [List.length_append, ih]; simp; omega
theorem stC_get (n k : Nat) (h : k < n) : (stC n)[k * 3]? = some (.int .i64 (ax k)) ∧ (stC n)[k * 3 + 1]? = some (.int .i64 (ay k)) ∧ (stC n)[k * 3 + 2]? = some (.int .i64 (az k)) := by
  induction n with
  | zero => omega
  | succ n ih =>
    unfold stC
    by_cases e : k = n
    · subst e
      refine ⟨?_, ?_, ?_⟩ <;> rw [List.getElem?_append_right (by rw [stC_len]; omega), stC_len]
      · rw [show k * 3 - k * 3 = 0 by omega]; rfl
      · rw [show k * 3 + 1 - k * 3 = 1 by omega]; rfl
      · rw [show k * 3 + 2 - k * 3 = 2 by omega]; rfl
    · obtain ⟨h1, h2, h3⟩ := ih (by omega)
      refine ⟨?_, ?_, ?_⟩ <;> rw [List.getElem?_append_left (by rw [stC_len]; omega)] <;> assumption

/-- The list of all states lies at block g. -/
def Sts (w : World) (g : Nat) : Prop := ∀ k, k < 27 → w.cell? ⟨g, k * 3, none⟩ = some (.int .i64 (ax k)) ∧ w.cell? ⟨g, k * 3 + 1, none⟩ = some (.int .i64 (ay k)) ∧ w.cell? ⟨g, k * 3 + 2, none⟩ = some (.int .i64 (az k))
theorem Sts.kept {w w' : World} {g : Nat} (h : Sts w g) (hb : Below w.heap.size w w') : Sts w' g := fun k hk => by
  obtain ⟨h1, h2, h3⟩ := h k hk
  exact ⟨ckeep hb h1, ckeep hb h2, ckeep hb h3⟩

set_option maxRecDepth 100000 in
set_option maxHeartbeats 4000000 in
theorem states_any (w : World) : Calls Try.prog 12 #[] w fun e w' => ∃ g cap, 27 ≤ cap ∧ g < w'.heap.size ∧ e = .returned (.slice (some ⟨g, 0, none⟩) 27 cap) ∧ Sts w' g ∧ Below w.heap.size w w' := by
  obtain ⟨i0, hi0, hz0, hz1, hz2⟩ := info_parts infoState
  have HB : Hid (Below w.heap.size w (w.alloc (.cells #[] 30))) := (Below.refl _ _).alloc (Nat.le_refl _) _
  have HR : Hid ((w.alloc (.cells #[] 30)).ownsRow w.heap.size 30 3 (.slice (some ⟨w.heap.size, 0, none⟩) 0 0) 0 (stC 0)) :=
    ⟨rfl, .inr ⟨w.heap.size, 0, #[], rfl, Nat.le_refl _, Blk.new w #[] 30, Nat.le_refl _, by unfold maxLen; omega, rfl, rfl⟩⟩
  go_enter Try.func12, Try.ntmps12
  go_wp2_with fail
  generalize w.alloc (.cells #[] 30) = w0 at *
  go_loopw [1, 2] (fun v i wr => ∃ k : Nat, k ≤ 27 ∧ i = .int .i64 k ∧ Hid (wr.ownsRow w.heap.size 30 3 v k (stC k)) ∧ Hid (Below w.heap.size w wr)) (fun _ i _ => 27 - (intOf i).toNat)
  case atStart => exact ⟨0, by omega, rfl, HR, HB⟩
  case round =>
    clear HR HB
    obtain ⟨k, hk, rfl, HR, HB⟩ := hrel
    by_cases hlt : k < 27
    · have hlt2 : (k : Int) < 27 := by omega
      go_wp2_with (at_builtin; refine wpList_append_lies _ (by rfl) _ _ _ (by rfl) w.heap.size 30 i0 _ 3 24 Try.underlying26 hi0 hz0 hz1 hz2 rfl (by omega) _ _ _ (by rfl) (World.ownsRow.alloc HR.out _) ⟨wr.heap.size, 0, none⟩ 1 1 [.int .i64 ((k : Int) % 3), .int .i64 ((k : Int) / 3 % 3), .int .i64 ((k : Int) / 9)] (by rfl) (by rfl) (World.news_of_block (cs := #[.int .i64 ((k : Int) % 3), .int .i64 ((k : Int) / 3 % 3), .int .i64 ((k : Int) / 9)]) (t := 30) (fr := (0, 0)) (heap_alloc_new wr _)) (by simp [Value.oneCell']) (by omega) (by unfold maxLen; omega) (by omega) (by have := HB.out.size; simp; omega) (wr.heap.size + 1) (by simp) ?_; intro g3 cap3 w3 hown hgrow hat hlt3)
      have hb3 := (HB.out.alloc HB.out.size _).grown hgrow (by have := HB.out.size; simp; omega) (fun k hk => (World.ownsRow.lt HR.out k hk).1)
      exact ⟨⟨k + 1, by omega, by go_num, hown, hb3⟩, by simp [intOf]; omega⟩
    · have hk2 : k = 27 := by omega
      subst hk2
      obtain ⟨g, cap, rfl, hg, hglt⟩ := HR.out.form (by omega)
      have hcap : 27 ≤ cap := by
        rcases HR.out.2 with ⟨h, _⟩ | ⟨g', cap', cur, h, _, _, hc, _⟩
        · simp at h
        · simp at h; omega
      have HS : Hid (Sts wr g) := fun k hk => by
        obtain ⟨h1, h2, h3⟩ := stC_get 27 k hk
        refine ⟨?_, ?_, ?_⟩
        · rw [← h1]; exact World.ownsRow.cellAt HR.out _ (by omega)
        · rw [← h2]; exact World.ownsRow.cellAt HR.out _ (by omega)
        · rw [← h3]; exact World.ownsRow.cellAt HR.out _ (by omega)
      clear HR
      go_wp2_with fail
      go_ret
      exact ⟨g, cap, hcap, hglt, rfl, HS.out, HB.out⟩
end Go.Proofs.Ytnhadmeadegckaa

namespace Go.Proofs.Ytnhadmeadegckaa
open Go.RowKit

theorem ixn_at {k : Nat} (hk : k < 27) : ixn (ax k) (ay k) (az k) = k := by
  unfold ixn ax ay az; omega
theorem has_at (p : ByteArray) (hp : Set27 p) (k : Nat) (hk : k < 27) (w : World) : Calls Try.prog 13 #[.string p, .agg #[.int .i64 (ax k), .int .i64 (ay k), .int .i64 (az k)]] w fun e w' => e = .returned (.bool (hs p.data.toList k)) ∧ Below w.heap.size w w' := by
  have h := implHasS_yes p (ax k) (ay k) (az k) w hp (at_st3 (i := (k : Int)) (by omega) (by omega))
  rwa [ixn_at hk] at h
end Go.Proofs.Ytnhadmeadegckaa

namespace Go.Proofs.Ytnhadmeadegckaa
open Go.RowKit Tm

set_option maxHeartbeats 1000000 in
theorem implPredOf_yes (s : ByteArray) (w : World) {t : Tm} (ht : Ok false true t) (he : s.data.toList = t.ser) (hl : s.size ≤ 200) :
    Calls Try.prog 10 #[.string s] w fun e w' => e = .returned (.tuple #[.string (bs (tb (tst t))), .bool true]) ∧ Below w.heap.size w w' := by
  have HC := fun w => Lib.hid (read_yes true s w ht he hl)
  have HX := fun w => Lib.hid (implText (tst t) w)
  clear he
  go_enter Try.func10, Try.ntmps10
  go_wp2_with fail
  refine (HC _).out.mono ?_
  rintro e w1 ⟨xc, ya, yn, ym, rfl, hr, hb⟩
  have HB := Lib.hid (bput hb (.cells #[.int .u8 xc, .slice ya yn ym] 43))
  have HR := Lib.hid (hr.below ((Below.refl _ w1).alloc (Nat.le_refl _) (.cells #[.int .u8 xc, .slice ya yn ym] 43)))
  clear hb hr
  go_wp2_with fail
  refine (implStates t w.heap.size xc ya yn ym _ ht HR.out).mono ?_
  rintro e w2 ⟨rfl, hb⟩
  have HB2 := Lib.hid (bnext HB.out hb)
  clear hb
  go_wp2_with fail
  refine (HX _).out.mono ?_
  rintro e w3 ⟨rfl, hb⟩
  have HB3 := Lib.hid (bnext HB2.out hb)
  clear hb
  go_wp2_with fail
  go_ret2
  exact ⟨rfl, HB3.out⟩

set_option maxHeartbeats 1000000 in
theorem implPredOf_no (s : ByteArray) (w : World) (h : ¬ (Valid false true s.data.toList ∧ s.size ≤ 200)) :
    Calls Try.prog 10 #[.string s] w fun e w' => e = .returned (.tuple #[.string (bs []), .bool false]) ∧ Below w.heap.size w w' := by
  have HC := fun w => Lib.hid (read_no true s w h)
  clear h
  go_enter Try.func10, Try.ntmps10
  go_wp2_with fail
  refine (HC _).out.mono ?_
  rintro e w1 ⟨rfl, hb⟩
  have HB := Lib.hid (bput hb (.cells #[.int .u8 0, .slice none 0 0] 43))
  clear hb
  go_wp2_with fail
  go_ret2
  exact ⟨rfl, HB.out⟩

set_option maxHeartbeats 1000000 in
theorem specPredOf_yes (s : ByteArray) (w : World) {t : Tm} (ht : Ok false true t) (he : s.data.toList = t.ser) (hl : s.size ≤ 200) :
    Calls Try.prog 11 #[.string s] w fun e w' => e = .returned (.tuple #[.string (bs (tb (tst t))), .bool true]) ∧ Below w.heap.size w w' := by
  have HC := fun w => Lib.hid (specTest_yes s w ⟨t, ht, he⟩ hl)
  have HX := fun w => Lib.hid (specOf0 s t w (ok_wide ht) he (by omega))
  clear he
  go_enter Try.func11, Try.ntmps11
  go_wp2_with fail
  refine (HC _).out.mono ?_
  rintro e w1 ⟨rfl, n, rfl⟩
  go_wp2_with fail
  refine (HX _).out.mono ?_
  rintro e w2 ⟨rfl, hb⟩
  have HB := Lib.hid ((bdrewN (Below.refl w.heap.size w) n).trans hb)
  clear hb
  go_wp2_with fail
  go_ret2
  exact ⟨rfl, HB.out⟩

set_option maxHeartbeats 1000000 in
theorem specPredOf_no (s : ByteArray) (w : World) (h : ¬ (Valid false true s.data.toList ∧ s.size ≤ 200)) :
    Calls Try.prog 11 #[.string s] w fun e w' => e = .returned (.tuple #[.string (bs []), .bool false]) ∧ Below w.heap.size w w' := by
  have HC := fun w => Lib.hid (specTest_no s w h)
  clear h
  go_enter Try.func11, Try.ntmps11
  go_wp2_with fail
  refine (HC _).out.mono ?_
  rintro e w1 ⟨rfl, n, rfl⟩
  go_wp2_with fail
  go_ret2
  exact ⟨rfl, bdrewN (Below.refl _ _) n⟩
end Go.Proofs.Ytnhadmeadegckaa

namespace Go.Proofs.Ytnhadmeadegckaa
open Go.RowKit

/-- The reader has been asked at most p times, and all else is as it was in w. -/
def SB (a p : Nat) (w w' : World) : Prop := ∃ q : Nat, q ≤ p ∧ Rd a q w' ∧ Kp a w w'
theorem sb_done {a p hi : Nat} {w w' : World} {s : ByteArray} {e : Ending} (hs : s.size ≤ hi) (he : e = .returned (.string s)) (h : SB a (p + 3) w w') : DrP a p 0 hi 3 w e w' := by
  obtain ⟨q, hq, hr, hk⟩ := h
  exact ⟨s, q, Nat.zero_le _, hs, hq, he, hr, hk⟩
theorem szb {s x : Nat} (hs : s ≤ 100000) (hx : x = 1) : ¬ 9223372036854775807 < s + x := by omega
theorem szc {s x k : Nat} (hs : s ≤ 100000) (hx : x = 1) (hk : k + 1 ≤ s) : (¬ 9223372036854775807 < k + x) ∧ (¬ 9223372036854775807 < k + x + (s - (k + 1))) ∧ (¬ 9223372036854775807 < k + 1 + (s - (k + 1))) ∧ (¬ 9223372036854775807 < min k s + x) ∧ (¬ 9223372036854775807 < min k s + x + (s - (k + 1))) := by omega

set_option maxRecDepth 100000 in
set_option maxHeartbeats 8000000 in
theorem bad_any {a p : Nat} (t : ByteArray) (h1 : 1 ≤ t.size) (h2 : t.size ≤ 100000) {w : World} (hr : Rd a p w) (hp : p ≤ 900000) :
    Calls Try.prog 74 #[.pointer (some ⟨a, 0, none⟩), .string t] w (DrP a p 0 (t.size + 1) 3 w) := by
  have HR := Lib.hid hr
  have hlt := hr.lt
  clear hr
  have C := Lib.hid (pick_any 30 HR.out (by omega) (by omega) (by omega))
  go_enter Try.func74, Try.ntmps74
  go_wp2_with fail
  refine C.out.mono ?_
  rintro e w1 ⟨k, k0, k1, rfl, hr, hk⟩
  have HR1 := Lib.hid hr
  have HK1 := Lib.hid hk
  clear hr hk C
  by_cases e0 : k = 0
  · subst e0
    have hneL : w1.heap.size ≠ a := by have := HK1.out.size; omega
    have HL := Lib.hid (Blk.new w1 #[.string (⟨#[120]⟩), .string (⟨#[48]⟩), .string (⟨#[32]⟩)] 9)
    have hax := (Below.refl _ w1).alloc (Nat.le_refl _) (.cells #[.string (⟨#[120]⟩), .string (⟨#[48]⟩), .string (⟨#[32]⟩)] 9)
    have HRx := Lib.hid (HR1.out.kept hax)
    have HKx := Lib.hid (HK1.out.next hax)
    clear hax
    have HQ : Hid (∀ i, i < 3 → ∃ s, (#[.string (⟨#[120]⟩), .string (⟨#[48]⟩), .string (⟨#[32]⟩)] : Array Value)[i]? = some (.string s) ∧ s.size = 1) := fun i hi => by
      have hi : i = 0 ∨ i = 1 ∨ i = 2 := by omega
      rcases hi with rfl | rfl | rfl <;> exact ⟨_, rfl, by decide⟩
    go_wp2_with fail
    refine (of_any 3 3 (fun s => s.size = 1) HRx.out (by omega) HL.out hneL (by omega) (by omega) HQ.out).mono ?_
    rintro e w2 ⟨x, hx, rfl, hr, hk⟩
    have HR2 := Lib.hid hr
    have HK2 := Lib.hid (HKx.out.trans hk)
    clear hr hk
    have n1 := szb h2 hx
    go_wp2_with fail
    go_ret
    exact ⟨_, p + 1 + 1, Nat.zero_le _, by rw [ByteArray.size_append, hx]; exact Nat.le_refl _, by omega, rfl, HR2.out, HK2.out⟩
  have g0 : (k == 0) = false := by rw [beq_eq_false_iff_ne]; exact e0
  clear e0
  by_cases e1 : k = 1
  · subst e1
    have ew : IntKind.i64.wrap ((t.size : Int) - 1) = ((t.size - 1 : Nat) : Int) := (IntWalk.i64_in _ (by omega)).trans (by omega)
    go_wp2_with fail
    go_ret
    exact ⟨_, p + 1, Nat.zero_le _, by simp only [ByteArray.size_extract]; omega, by omega, rfl, HR1.out, HK1.out⟩
  have g1 : (k == 1) = false := by rw [beq_eq_false_iff_ne]; exact e1
  clear e1
  by_cases e2 : k = 2
  · subst e2
    have C := Lib.hid (pick_any (t.size : Int) HR1.out (by omega) (by omega) (by omega))
    go_wp2_with fail
    refine C.out.mono ?_
    rintro e w2 ⟨k, k0, k1, rfl, hr, hk⟩
    have HR2 := Lib.hid hr
    have HK2 := Lib.hid (HK1.out.trans hk)
    clear hr hk C g0 g1
    obtain ⟨k, rfl⟩ := Int.eq_ofNat_of_zero_le k0
    have hk1 : k + 1 ≤ t.size := by omega
    have hneL : w2.heap.size ≠ a := by have := HK2.out.size; omega
    have HL := Lib.hid (Blk.new w2 #[.string (⟨#[88]⟩), .string (⟨#[119]⟩), .string (⟨#[43]⟩), .string (⟨#[61]⟩)] 9)
    have hax := (Below.refl _ w2).alloc (Nat.le_refl _) (.cells #[.string (⟨#[88]⟩), .string (⟨#[119]⟩), .string (⟨#[43]⟩), .string (⟨#[61]⟩)] 9)
    have HRx := Lib.hid (HR2.out.kept hax)
    have HKx := Lib.hid (HK2.out.next hax)
    clear hax
    have HQ : Hid (∀ i, i < 4 → ∃ s, (#[.string (⟨#[88]⟩), .string (⟨#[119]⟩), .string (⟨#[43]⟩), .string (⟨#[61]⟩)] : Array Value)[i]? = some (.string s) ∧ s.size = 1) := fun i hi => by
      have hi : i = 0 ∨ i = 1 ∨ i = 2 ∨ i = 3 := by omega
      rcases hi with rfl | rfl | rfl | rfl <;> exact ⟨_, rfl, by decide⟩
    have hs0 : SB a (p + 3) w w2.drew := ⟨_, by omega, HR2.out.kept (Below.refl _ _).drew, HK2.out.next (Below.refl _ _).drew⟩
    have hs1 : SB a (p + 3) w (w2.alloc (.cells #[.string (⟨#[88]⟩), .string (⟨#[119]⟩), .string (⟨#[43]⟩), .string (⟨#[61]⟩)] 9)).drew := ⟨_, by omega, HRx.out.kept (Below.refl _ _).drew, HKx.out.next (Below.refl _ _).drew⟩
    have HRy := Lib.hid (HRx.out.kept (Below.refl _ _).drew)
    have HKy := Lib.hid (HKx.out.next (Below.refl _ _).drew)
    have HLy := Lib.hid HL.out.drew
    have C := Lib.hid (of_any 4 4 (fun s => s.size = 1) HRy.out (by omega) HLy.out hneL (by omega) (by omega) HQ.out)
    have ew : IntKind.i64.wrap ((k : Int) + 1) = (k : Int) + 1 := IntWalk.i64_in _ (by omega)
    have hq0 : (0 : Int) ≤ (k : Int) + 1 := by omega
    have hq1 : (k : Int) ≤ (t.size : Int) := by omega
    have hq2 : (k : Int) + 1 ≤ (t.size : Int) := by omega
    have hq3 : k ≤ t.size := by omega
    have hq4 : ((k : Int) + 1).toNat = k + 1 := by omega
    have hq5 : min k t.size = k := by omega
    clear HR HR1 HK1 HL HRx HQ HLy HKx
    go_wp2_with fail
    go_region_held3 (fun w' => SB a (p + 3) w w')
      (first | assumption | (go_split_ands; assumption))
      (first
        | (go_at_call 97; (with_reducible refine C.out.mono ?_); rintro e w6 ⟨s, hs, rfl, hr, hk⟩; have hbw3 : SB a (p + 3) w w6 := ⟨_, by omega, hr, HKy.out.trans hk⟩; obtain ⟨n0, n1, n2, n3, n4⟩ := szc h2 hs hk1; replace hs := Lib.hid hs))
    all_goals
      go_split_ands
      go_wp2_with fail
      go_ret
      have hz : (t.extract 0 k ++ s ++ t.extract (k + 1) t.size).size ≤ t.size + 1 := by simp only [ByteArray.size_append, ByteArray.size_extract, hs.out]; omega
      exact sb_done hz rfl (by assumption)
  have g2 : (k == 2) = false := by rw [beq_eq_false_iff_ne]; exact e2
  clear e2
  go_wp2_with fail
  go_ret
  exact ⟨_, p + 1, Nat.zero_le _, by omega, by omega, rfl, HR1.out, HK1.out⟩

set_option maxHeartbeats 4000000 in
/-- A text of a test is drawn. -/
theorem drawTV {a : Option Addr} {len cap : Nat} {zs : List Int} {w : World} (h : IsRow w a len cap zs) :
    Calls Try.prog 41 #[.slice a len cap] w fun e w' => ∃ t : ByteArray, t.size ≤ 40 ∧ e = .returned (.string t) ∧ Below w.heap.size w w' := by
  have HO := Lib.hid (open_any h)
  clear h
  go_enter Try.func41, Try.ntmps41
  go_wp2_with fail
  refine HO.out.mono ?_
  rintro e w1 ⟨rfl, hr, hb⟩
  have HW1 := Lib.hid hb
  have HC := Lib.hid (dT_2 (bs [120, 121, 122]) (by decide) (by decide) hr (by omega))
  clear hr hb
  go_wp2_with fail
  refine HC.out.mono ?_
  rintro e w2 ⟨t, q, t1, t2, hq, rfl, hr, hk⟩
  have HW2 := Lib.hid (HW1.out.trans (hk.below (Nat.le_refl _) HW1.out.size))
  have HC := Lib.hid (bad_any t t1 (by omega) hr (by omega))
  clear hr hk
  go_wp2_with fail
  refine HC.out.mono ?_
  rintro e w3 ⟨x, q', x1, x2, hq', rfl, hr, hk⟩
  have HW3 := Lib.hid (HW2.out.trans (hk.below (Nat.le_refl _) HW2.out.size))
  clear hr hk
  go_wp2_with fail
  go_ret
  exact ⟨x, by omega, rfl, HW3.out⟩

end Go.Proofs.Ytnhadmeadegckaa

namespace Go.Proofs.Ytnhadmeadegckaa
open Go.RowKit Tm

/-- Those of some letters that occur in a text. -/
def vlist (names l : List UInt8) : List UInt8 := names.filter fun c => decide (0 ≤ fnd l c)

end Go.Proofs.Ytnhadmeadegckaa

namespace Go.Proofs.Ytnhadmeadegckaa
open Go.RowKit Tm

theorem indexByte_fnd (l : List UInt8) (c : UInt8) : decide (0 ≤ Lib.indexByte l c) = decide (0 ≤ fnd l c) := by
  have h : 0 ≤ Lib.indexByte l c ↔ 0 ≤ fnd l c := by
    induction l with
    | nil => simp [Lib.indexByte, fnd]
    | cons b l ih =>
      rw [fnd_cons, ← ih]
      have hge := Lib.indexByte_ge l c
      show 0 ≤ (if b == c then 0 else if Lib.indexByte l c == -1 then -1 else Lib.indexByte l c + 1) ↔ _
      rw [show (c == b) = (b == c) by rw [Bool.eq_iff_iff, beq_iff_eq, beq_iff_eq]; exact eq_comm]
      cases hb : b == c
      · simp
        by_cases h1 : Lib.indexByte l c = -1
        · simp [h1]
        · simp [h1]; omega
      · simp
  by_cases h1 : 0 ≤ fnd l c
  · rw [decide_eq_true h1, decide_eq_true (h.2 h1)]
  · rw [decide_eq_false h1, decide_eq_false (fun h2 => h1 (h.1 h2))]

theorem contains_at (s : ByteArray) (c : UInt8) (hc : c.toNat < 128) (b : Bool) (h : decide (0 ≤ fnd s.data.toList c) = b) (w : World) :
    Calls Try.prog 104 #[.string s, .int .i32 c.toNat] w fun e w' => e = .returned (.bool b) ∧ w' = w := by
  refine (Try.strings_ContainsRune_ascii s c.toNat w (by omega) (by omega)).mono fun e w' ⟨h1, h2⟩ => ⟨?_, h2⟩
  rw [h1, Int.toNat_natCast]
  have e1 : c.toNat.toUInt8 = c := UInt8.toNat_inj.1 (by simp)
  rw [e1, indexByte_fnd, h]

theorem vlist3 (l : List UInt8) (b0 b1 b2 : Bool) (h0 : decide (0 ≤ fnd l 120) = b0) (h1 : decide (0 ≤ fnd l 121) = b1) (h2 : decide (0 ≤ fnd l 122) = b2) :
    vlist [120, 121, 122] l = (if b0 then [120] else []) ++ (if b1 then [121] else []) ++ (if b2 then [122] else []) := by
  unfold vlist
  simp only [List.filter_cons, h0, h1, h2, List.filter_nil]
  cases b0 <;> cases b1 <;> cases b2 <;> rfl

set_option maxRecDepth 100000 in
set_option maxHeartbeats 8000000 in
theorem vIn_any (s : ByteArray) (W : World) :
    Calls Try.prog 86 #[.string s] W fun e w' => e = .returned (.string (bs (vlist [120, 121, 122] s.data.toList))) ∧ Below W.heap.size W w' := by
  cases h0 : decide (0 ≤ fnd s.data.toList 120) <;> cases h1 : decide (0 ≤ fnd s.data.toList 121) <;> cases h2 : decide (0 ≤ fnd s.data.toList 122)
  all_goals
    have V := Lib.hid (vlist3 _ _ _ _ h0 h1 h2)
    have K0 : Hid (∀ w, Calls Try.prog 104 #[.string s, .int .i32 120] w fun e w' => e = .returned (.bool _) ∧ w' = w) := fun w => contains_at s 120 (by decide) _ h0 w
    have K1 : Hid (∀ w, Calls Try.prog 104 #[.string s, .int .i32 121] w fun e w' => e = .returned (.bool _) ∧ w' = w) := fun w => contains_at s 121 (by decide) _ h1 w
    have K2 : Hid (∀ w, Calls Try.prog 104 #[.string s, .int .i32 122] w fun e w' => e = .returned (.bool _) ∧ w' = w) := fun w => contains_at s 122 (by decide) _ h2 w
    clear h0 h1 h2
    go_enter Try.func86, Try.ntmps86
    go_wp2_with fail
    have nx0 : ∀ ty, (Instr.next (.pointer (some ⟨W.heap.size, 0, none⟩)) true ty).run Try.prog (W.iter ⟨#[120, 121, 122]⟩ 0) = .ok (.tuple #[.bool true, .int .i64 0, .int .i32 120]) (W.iter ⟨#[120, 121, 122]⟩ 1) := fun ty => by exact run_next_ascii W _ 0 ty (by decide) (by decide)
    have nx1 : ∀ ty, (Instr.next (.pointer (some ⟨W.heap.size, 0, none⟩)) true ty).run Try.prog (W.iter ⟨#[120, 121, 122]⟩ 1) = .ok (.tuple #[.bool true, .int .i64 1, .int .i32 121]) (W.iter ⟨#[120, 121, 122]⟩ 2) := fun ty => by exact run_next_ascii W _ 1 ty (by decide) (by decide)
    have nx2 : ∀ ty, (Instr.next (.pointer (some ⟨W.heap.size, 0, none⟩)) true ty).run Try.prog (W.iter ⟨#[120, 121, 122]⟩ 2) = .ok (.tuple #[.bool true, .int .i64 2, .int .i32 122]) (W.iter ⟨#[120, 121, 122]⟩ 3) := fun ty => by exact run_next_ascii W _ 2 ty (by decide) (by decide)
    have nx3 : ∀ ty, (Instr.next (.pointer (some ⟨W.heap.size, 0, none⟩)) true ty).run Try.prog (W.iter ⟨#[120, 121, 122]⟩ 3) = .ok (.tuple #[.bool false]) (W.iter ⟨#[120, 121, 122]⟩ 3) := fun ty => by exact run_next_end W _ 3 ty (by decide)
    refine wp_loop_rounds 4 ?_
    rw [rounds_succ]
    go_wp2_with fail
    refine (K0.out _).mono ?_
    rintro e w' ⟨rfl, rfl⟩
    go_wp2_with fail
    rw [rounds_succ]
    go_wp2_with fail
    refine (K1.out _).mono ?_
    rintro e w' ⟨rfl, rfl⟩
    go_wp2_with fail
    rw [rounds_succ]
    go_wp2_with fail
    refine (K2.out _).mono ?_
    rintro e w' ⟨rfl, rfl⟩
    go_wp2_with fail
    rw [rounds_succ]
    go_wp2_with fail
    go_ret
    exact ⟨by rw [V.out]; rfl, (Below.refl _ _).alloc (Nat.le_refl _) _⟩

end Go.Proofs.Ytnhadmeadegckaa

namespace Go.Proofs.Ytnhadmeadegckaa
open Go.RowKit Tm

theorem bnx {w w1 w2 : World} (h : Below w.heap.size w w1) (hb : Below w1.heap.size w1 w2) : Below w.heap.size w w2 := h.trans (hb.mono h.size)
set_option maxHeartbeats 2000000 in
theorem varsOf_yes (k : Bool) (s : ByteArray) (w : World) {t : Tm} (ht : Ok false k t) (hs : s.data.toList = t.ser) (hl : s.size ≤ 200) :
    Calls Try.prog 53 #[.string s, .int .u8 (kcode k)] w fun e w' => e = .returned (.string (bs (vlist [120, 121, 122] s.data.toList))) ∧ Below w.heap.size w w' := by
  have HC := fun w => Lib.hid (read_yes k s w ht hs hl)
  have HV := fun w => Lib.hid (vIn_any s w)
  clear hs
  generalize bs (vlist [120, 121, 122] s.data.toList) = R at *
  go_enter Try.func53, Try.ntmps53
  go_wp2_with fail
  refine (HC _).out.mono ?_
  rintro e w1 ⟨xc, ya, yn, ym, rfl, _, hb⟩
  have HB := Lib.hid (hb.alloc hb.size (.cells #[.int .u8 xc, .slice ya yn ym] 43))
  clear hb
  go_wp2_with fail
  refine (HV _).out.mono ?_
  rintro e w2 ⟨rfl, hb⟩
  have HB2 := Lib.hid (bnx HB.out hb)
  clear hb
  go_wp2_with fail
  go_ret
  exact ⟨rfl, HB2.out⟩

set_option maxHeartbeats 2000000 in
theorem varsOf_no (k : Bool) (s : ByteArray) (w : World) (h : ¬ (Valid false k s.data.toList ∧ s.size ≤ 200)) :
    Calls Try.prog 53 #[.string s, .int .u8 (kcode k)] w fun e w' => e = .returned (.string (bs [])) ∧ Below w.heap.size w w' := by
  have HC := fun w => Lib.hid (read_no k s w h)
  clear h
  go_enter Try.func53, Try.ntmps53
  go_wp2_with fail
  refine (HC _).out.mono ?_
  rintro e w1 ⟨rfl, hb⟩
  have HB := Lib.hid hb
  clear hb
  go_wp2_with fail
  go_ret
  exact ⟨rfl, HB.out.alloc HB.out.size _⟩

set_option maxHeartbeats 2000000 in
theorem implVarsTest_yes (s : ByteArray) (w : World) {t : Tm} (ht : Ok false true t) (hs : s.data.toList = t.ser) (hl : s.size ≤ 200) :
    Calls Try.prog 17 #[.string s] w fun e w' => e = .returned (.string (bs (vlist [120, 121, 122] s.data.toList))) ∧ Below w.heap.size w w' := by
  have HC := fun w => Lib.hid (varsOf_yes true s w ht hs hl)
  clear hs
  go_enter Try.func17, Try.ntmps17
  go_wp2_with fail
  refine (HC _).out.mono ?_
  rintro e w1 ⟨rfl, hb⟩
  have HB := Lib.hid hb
  clear hb
  go_wp2_with fail
  go_ret
  exact ⟨rfl, HB.out⟩

set_option maxHeartbeats 2000000 in
theorem implVarsTest_no (s : ByteArray) (w : World) (h : ¬ (Valid false true s.data.toList ∧ s.size ≤ 200)) :
    Calls Try.prog 17 #[.string s] w fun e w' => e = .returned (.string (bs [])) ∧ Below w.heap.size w w' := by
  have HC := fun w => Lib.hid (varsOf_no true s w h)
  clear h
  go_enter Try.func17, Try.ntmps17
  go_wp2_with fail
  refine (HC _).out.mono ?_
  rintro e w1 ⟨rfl, hb⟩
  have HB := Lib.hid hb
  clear hb
  go_wp2_with fail
  go_ret
  exact ⟨rfl, HB.out⟩

end Go.Proofs.Ytnhadmeadegckaa

namespace Go.Proofs.Ytnhadmeadegckaa
open Go.RowKit Tm

def VarAt' (c : UInt8) (j : Nat) : Prop := (c = 120 ∧ j = 0) ∨ (c = 121 ∧ j = 1) ∨ (c = 122 ∧ j = 2)
theorem fnd_in (l : List UInt8) (c : UInt8) : 0 ≤ fnd l c ↔ c ∈ l := by
  induction l with
  | nil => rw [fnd_nil]; simp
  | cons d l ih => rw [fnd_cons, ih]; simp
theorem vlist_in (l : List UInt8) (c : UInt8) (hc : c = 120 ∨ c = 121 ∨ c = 122) : c ∈ vlist [120, 121, 122] l ↔ c ∈ l := by
  unfold vlist
  rw [List.mem_filter, decide_eq_true_eq, fnd_in]
  exact ⟨fun h => h.2, fun h => ⟨by rcases hc with rfl | rfl | rfl <;> simp, h⟩⟩
theorem vlist_size (l : List UInt8) : (bs (vlist [120, 121, 122] l)).size ≤ 3 := by
  rw [bs_size]; unfold vlist
  exact Nat.le_trans (List.length_filter_le _ _) (by simp)
theorem low_leaf (c : UInt8) (h : (isVarB false c || isDigB c) = true) : c ≠ 88 ∧ c ≠ 89 ∧ c ≠ 90 := by
  refine ⟨?_, ?_, ?_⟩ <;> rintro rfl <;> exact absurd h (by decide)
theorem val_free {e e' : Nat → Int} : ∀ t : Tm, Ok false false t → (∀ c j, VarAt' c j → c ∈ t.ser → e j = e' j) → val e t = val e' t := by
  intro t
  induction t with
  | leaf c =>
    intro h he
    rcases ok_expr h with ⟨c', h1, h2⟩ | ⟨_, _, _, h1, _⟩
    · injection h1 with h1; subst h1
      obtain ⟨n1, n2, n3⟩ := low_leaf c h2
      unfold val
      by_cases e1 : c = 120
      · subst e1; simpa using he 120 0 (.inl ⟨rfl, rfl⟩) (by simp [ser])
      · by_cases e2 : c = 121
        · subst e2; simpa using he 121 1 (.inr (.inl ⟨rfl, rfl⟩)) (by simp [ser])
        · by_cases e3 : c = 122
          · subst e3; simpa using he 122 2 (.inr (.inr ⟨rfl, rfl⟩)) (by simp [ser])
          · simp [e1, e2, e3, n1, n2, n3]
    · cases h1
  | un c a _ =>
    intro h _
    rfl
  | bin c a b iha ihb =>
    intro h he
    rcases ok_expr h with ⟨_, h1, _⟩ | ⟨c', a', b', h1, _, ha, hb⟩
    · cases h1
    · injection h1 with h1 h2 h3; subst h1; subst h2; subst h3
      unfold val
      rw [iha ha (fun d j hd hm => he d j hd (by simp [ser, hm])), ihb hb (fun d j hd hm => he d j hd (by simp [ser, hm]))]
theorem tru_free {e e' : Nat → Int} : ∀ t : Tm, Ok false true t → (∀ c j, VarAt' c j → c ∈ t.ser → e j = e' j) → tru e t = tru e' t := by
  intro t
  induction t with
  | leaf c => intro _ _; rfl
  | un c a ih =>
    intro h he
    rcases ok_test h with ⟨_, h1, _⟩ | ⟨a', h1, ha⟩ | ⟨_, _, _, h1, _⟩ | ⟨_, _, _, h1, _⟩ <;> try cases h1
    unfold tru
    rw [ih ha (fun d j hd hm => he d j hd (by simp [ser, hm]))]
  | bin c a b iha ihb =>
    intro h he
    rcases ok_test h with ⟨_, h1, _⟩ | ⟨_, h1, _⟩ | ⟨_, _, _, h1, hc, ha, hb⟩ | ⟨_, _, _, h1, hc, ha, hb⟩
    · cases h1
    · cases h1
    · cases h1
      have ea := val_free (e := e) (e' := e') a ha (fun d j hd hm => he d j hd (by simp [ser, hm]))
      have eb := val_free (e := e) (e' := e') b hb (fun d j hd hm => he d j hd (by simp [ser, hm]))
      unfold tru
      rcases hc with rfl | rfl <;> simp [ea, eb]
    · cases h1
      have ea := iha ha (fun d j hd hm => he d j hd (by simp [ser, hm]))
      have eb := ihb hb (fun d j hd hm => he d j hd (by simp [ser, hm]))
      unfold tru
      rcases hc with rfl | rfl <;> simp [ea, eb]
end Go.Proofs.Ytnhadmeadegckaa

namespace Go.Proofs.Ytnhadmeadegckaa
open Go.RowKit

set_option maxHeartbeats 1000000 in
theorem ppTrue_of (t : ByteArray) (x y z : Int) (v b : Bool) (C : ∀ w, Hid (Calls Try.prog 51 #[.string t, .agg #[.int .i64 x, .int .i64 y, .int .i64 z]] w fun e w' => e = .returned (.tuple #[.bool v, .bool b]) ∧ Below w.heap.size w w')) (w : World) :
    Calls Try.prog 14 #[.string t, .agg #[.int .i64 x, .int .i64 y, .int .i64 z]] w fun e w' => e = .returned (.bool v) ∧ Below w.heap.size w w' := by
  have HB1 := Lib.hid ((Below.refl _ w).alloc (Nat.le_refl _) (.cells #[.int .i64 x, .int .i64 y, .int .i64 z] 30))
  go_enter Try.func14, Try.ntmps14
  go_wp2_with fail
  refine (C _).out.mono ?_
  rintro e w1 ⟨rfl, hb⟩
  have HB2 := Lib.hid (bnext HB1.out hb)
  clear hb
  go_wp2_with fail
  go_ret
  exact ⟨rfl, HB2.out⟩
theorem keepL {w w1 w2 : World} {Q : World → Prop} {g i j k : Nat} {a b c : Value} (h : Below w.heap.size w w1 ∧ Q w1 ∧ w1.cell? ⟨g, i, none⟩ = some a ∧ w1.cell? ⟨g, j, none⟩ = some b ∧ w1.cell? ⟨g, k, none⟩ = some c) (hQ : Q w1 → Q w2) (hq : Below w1.heap.size w1 w2) :
    Below w.heap.size w w2 ∧ Q w2 ∧ w2.cell? ⟨g, i, none⟩ = some a ∧ w2.cell? ⟨g, j, none⟩ = some b ∧ w2.cell? ⟨g, k, none⟩ = some c :=
  ⟨bnext h.1 hq, hQ h.2.1, ckeep hq h.2.2.1, ckeep hq h.2.2.2.1, ckeep hq h.2.2.2.2⟩
end Go.Proofs.Ytnhadmeadegckaa
