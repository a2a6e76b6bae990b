/-
  The program's functions on sets: PredValid, HasState, AndPred, OrPred, NotPred, PredWithin.
-/
import Derived.Test.YtjhdimkplkfilaaSetX
import Derived.Test.YtjhdimkplkfilaaTopB
namespace Go.Proofs.Ytjhdimkplkfilaa
open Go.RowKit

set_option maxHeartbeats 1000000 in
theorem implReads_yes (p q : ByteArray) (w : World) (hp : Set27 p) (hq : Set27 q) : Calls Try.prog 74 #[.string p, .string q] w fun e w' => e = .returned (.tuple #[.int .u32 (nb 27 (hs p.data.toList)), .int .u32 (nb 27 (hs q.data.toList)), .bool true]) ∧ w = w' := by
  have C := fun w => Lib.hid (implRead_yes p w hp)
  have D := fun w => Lib.hid (implRead_yes q w hq)
  go_enter Try.func74, Try.ntmps74
  go_wp2_with fail
  refine (C _).out.mono ?_
  rintro e w' ⟨rfl, rfl⟩
  go_wp2_with fail
  refine (D _).out.mono ?_
  rintro e w' ⟨rfl, rfl⟩
  go_wp2_with fail
  go_ret3
  exact ⟨rfl, rfl⟩
set_option maxHeartbeats 1000000 in
theorem implReads_no (p q : ByteArray) (w : World) (h : ¬ (Set27 p ∧ Set27 q)) : Calls Try.prog 74 #[.string p, .string q] w fun e w' => e = .returned (.tuple #[.int .u32 0, .int .u32 0, .bool false]) ∧ w = w' := by
  by_cases hp : Set27 p
  · have hq : ¬ Set27 q := fun hq => h ⟨hp, hq⟩
    have C := fun w => Lib.hid (implRead_yes p w hp)
    have D := fun w => Lib.hid (implRead_no q w hq)
    clear h hq
    go_enter Try.func74, Try.ntmps74
    go_wp2_with fail
    refine (C _).out.mono ?_
    rintro e w' ⟨rfl, rfl⟩
    go_wp2_with fail
    refine (D _).out.mono ?_
    rintro e w' ⟨rfl, rfl⟩
    go_wp2_with fail
    go_ret3
    exact ⟨rfl, rfl⟩
  · have C := fun w => Lib.hid (implRead_no p w hp)
    clear h hp
    by_cases hq : Set27 q
    · have D := fun w => Lib.hid (implRead_yes q w hq)
      clear hq
      go_enter Try.func74, Try.ntmps74
      go_wp2_with fail
      refine (C _).out.mono ?_
      rintro e w' ⟨rfl, rfl⟩
      go_wp2_with fail
      refine (D _).out.mono ?_
      rintro e w' ⟨rfl, rfl⟩
      go_wp2_with fail
      go_ret3
      exact ⟨rfl, rfl⟩
    · have D := fun w => Lib.hid (implRead_no q w hq)
      clear hq
      go_enter Try.func74, Try.ntmps74
      go_wp2_with fail
      refine (C _).out.mono ?_
      rintro e w' ⟨rfl, rfl⟩
      go_wp2_with fail
      refine (D _).out.mono ?_
      rintro e w' ⟨rfl, rfl⟩
      go_wp2_with fail
      go_ret3
      exact ⟨rfl, rfl⟩

theorem and_bits (F G : Nat → Bool) : bits .and .u32 (nb 27 F : Nat) (nb 27 G : Nat) = (nb 27 (fun i => F i && G i) : Nat) := by
  have h := nb_lt27 F; have h' := nb_lt27 G
  rw [u32_and_nat _ _ (by omega) (by omega), nb_and]
theorem or_bits (F G : Nat → Bool) : bits .or .u32 (nb 27 F : Nat) (nb 27 G : Nat) = (nb 27 (fun i => F i || G i) : Nat) := by
  have h := nb_lt27 F; have h' := nb_lt27 G
  rw [u32_or_nat _ _ (by omega) (by omega), nb_or2]

set_option maxHeartbeats 1000000 in
theorem implNotP_yes (p : ByteArray) (w : World) (hp : Set27 p) : Calls Try.prog 76 #[.string p] w fun e w' => e = .returned (.tuple #[.string (bs (tb (fun i => !hs p.data.toList i))), .bool true]) ∧ Below w.heap.size w w' := by
  have C := fun w => Lib.hid (implRead_yes p w hp)
  have N := fun w => Lib.hid (implNot (hs p.data.toList) w)
  have D := fun w => Lib.hid (implText (fun i => !hs p.data.toList i) w)
  go_enter Try.func76, Try.ntmps76
  go_wp2_with fail
  refine (C _).out.mono ?_
  rintro e w' ⟨rfl, rfl⟩
  go_wp2_with fail
  refine (N _).out.mono ?_
  rintro e w' ⟨rfl, rfl⟩
  go_wp2_with fail
  refine (D _).out.mono ?_
  rintro e w1 ⟨rfl, hb⟩
  have HB := Lib.hid hb
  clear hb
  go_wp2_with fail
  go_ret2
  exact ⟨rfl, HB.out⟩
set_option maxHeartbeats 1000000 in
theorem implNotP_no (p : ByteArray) (w : World) (h : ¬ Set27 p) : Calls Try.prog 76 #[.string p] w fun e w' => e = .returned (.tuple #[.string (bs []), .bool false]) ∧ Below w.heap.size w w' := by
  have C := fun w => Lib.hid (implRead_no p w h)
  clear h
  go_enter Try.func76, Try.ntmps76
  go_wp2_with fail
  refine (C _).out.mono ?_
  rintro e w' ⟨rfl, rfl⟩
  go_wp2_with fail
  go_ret2
  exact ⟨rfl, Below.refl _ _⟩

set_option maxHeartbeats 1000000 in
theorem implPWithin_yes (p q : ByteArray) (w : World) (hp : Set27 p) (hq : Set27 q) : Calls Try.prog 33 #[.string p, .string q] w fun e w' => e = .returned (.bool (wi 27 (hs p.data.toList) (hs q.data.toList))) ∧ w = w' := by
  have C := fun w => Lib.hid (implReads_yes p q w hp hq)
  have D := fun w => Lib.hid (implWithin (hs p.data.toList) (hs q.data.toList) w)
  go_enter Try.func33, Try.ntmps33
  go_wp2_with fail
  refine (C _).out.mono ?_
  rintro e w' ⟨rfl, rfl⟩
  go_wp2_with fail
  refine (D _).out.mono ?_
  rintro e w' ⟨rfl, rfl⟩
  go_wp2_with fail
  go_ret
  exact ⟨rfl, rfl⟩
set_option maxHeartbeats 1000000 in
theorem implPWithin_no (p q : ByteArray) (w : World) (h : ¬ (Set27 p ∧ Set27 q)) : Calls Try.prog 33 #[.string p, .string q] w fun e w' => e = .returned (.bool false) ∧ w = w' := by
  have C := fun w => Lib.hid (implReads_no p q w h)
  clear h
  go_enter Try.func33, Try.ntmps33
  go_wp2_with fail
  refine (C _).out.mono ?_
  rintro e w' ⟨rfl, rfl⟩
  go_wp2_with fail
  go_ret
  exact ⟨rfl, rfl⟩

/-- The number of a state. -/
def ixn (x y z : Int) : Nat := (x + 3 * y + 9 * z).toNat
theorem ixn_lt {x y z : Int} (h : st3 x y z = true) : ixn x y z < 27 ∧ ((ixn x y z : Nat) : Int) = x + 3 * y + 9 * z := by
  have h := st3_lt h
  unfold ixn; omega

end Go.Proofs.Ytjhdimkplkfilaa
