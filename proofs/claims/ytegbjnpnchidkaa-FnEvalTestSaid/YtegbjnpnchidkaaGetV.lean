/-
  ppGet: the value of a variable in a state.
-/
import Derived.Test.YtegbjnpnchidkaaEvalE
import Derived.Test.YtegbjnpnchidkaaBlk
namespace Go.Proofs.Ytegbjnpnchidkaa
open Go.RowKit

theorem getVar (c : UInt8) (j : Nat) (x y z : Int) (w : World) (hc : (c = 120 ∧ j = 0) ∨ (c = 121 ∧ j = 1) ∨ (c = 122 ∧ j = 2)) (h : st3 x y z = true) :
    Calls Try.prog 15 #[.agg #[.int .i64 x, .int .i64 y, .int .i64 z], .string ⟨#[c]⟩] w fun e w' => e = .returned (.int .i64 (one x y z j)) ∧ Below w.heap.size w w' := by
  have ho : Ok false false (.leaf c) := by rcases hc with ⟨rfl, rfl⟩ | ⟨rfl, rfl⟩ | ⟨rfl, rfl⟩ <;> rfl
  have hv : val (one x y z) (.leaf c) = one x y z j := by rcases hc with ⟨rfl, rfl⟩ | ⟨rfl, rfl⟩ | ⟨rfl, rfl⟩ <;> rfl
  have C := fun w => Lib.hid (implEvalE_yes ⟨#[c]⟩ x y z w ho rfl (by show 1 ≤ 200; omega) h)
  rw [hv] at C
  generalize one x y z j = v at *
  clear hc ho hv h
  have HB0 := Lib.hid ((Below.refl _ w).alloc (Nat.le_refl _) (.cells #[.int .i64 x, .int .i64 y, .int .i64 z] 24))
  have K : ∀ w, Hid (Calls Try.prog 17 #[.string ⟨#[c]⟩, .agg #[.int .i64 x, .int .i64 y, .int .i64 z]] w fun e w' => e = .returned (.int .i64 v) ∧ Below w.heap.size w w') := by
    intro w
    have HB1 := Lib.hid ((Below.refl _ w).alloc (Nat.le_refl _) (.cells #[.int .i64 x, .int .i64 y, .int .i64 z] 24))
    show Calls _ _ _ _ _
    go_enter Try.func17, Try.ntmps17
    go_wp2_with fail
    refine (C _).out.mono ?_
    rintro e w1 ⟨rfl, hb⟩
    have HB2 := Lib.hid (bnext HB1.out hb)
    clear hb
    go_wp2_with fail
    go_ret
    exact ⟨rfl, HB2.out⟩
  go_enter Try.func15, Try.ntmps15
  go_wp2_with fail
  refine (K _).out.mono ?_
  rintro e w1 ⟨rfl, hb⟩
  have HB1 := Lib.hid (bnext HB0.out hb)
  clear hb
  go_wp2_with fail
  go_ret
  exact ⟨rfl, HB1.out⟩
end Go.Proofs.Ytegbjnpnchidkaa
