/-
  The laws' own short functions of values: ppValue, ppTrue hand on what the program's function returns.
-/
import Derived.Test.YtegbjnpnchidkaaBlk
namespace Go.Proofs.Ytegbjnpnchidkaa
open Go.RowKit

set_option maxHeartbeats 1000000 in
theorem ppTrue_of (t : ByteArray) (x y z : Int) (v b : Bool) (C : ∀ w, Hid (Calls Try.prog 20 #[.string t, .agg #[.int .i64 x, .int .i64 y, .int .i64 z]] w fun e w' => e = .returned (.tuple #[.bool v, .bool b]) ∧ Below w.heap.size w w')) (w : World) :
    Calls Try.prog 23 #[.string t, .agg #[.int .i64 x, .int .i64 y, .int .i64 z]] w fun e w' => e = .returned (.bool v) ∧ Below w.heap.size w w' := by
  have HB1 := Lib.hid ((Below.refl _ w).alloc (Nat.le_refl _) (.cells #[.int .i64 x, .int .i64 y, .int .i64 z] 24))
  go_enter Try.func23, Try.ntmps23
  go_wp2_with fail
  refine (C _).out.mono ?_
  rintro e w1 ⟨rfl, hb⟩
  have HB2 := Lib.hid (bnext HB1.out hb)
  clear hb
  go_wp2_with fail
  go_ret
  exact ⟨rfl, HB2.out⟩
set_option maxHeartbeats 1000000 in
theorem ppValue_of (t : ByteArray) (x y z v : Int) (b : Bool) (C : ∀ w, Hid (Calls Try.prog 9 #[.string t, .agg #[.int .i64 x, .int .i64 y, .int .i64 z]] w fun e w' => e = .returned (.tuple #[.int .i64 v, .bool b]) ∧ Below w.heap.size w w')) (w : World) :
    Calls Try.prog 17 #[.string t, .agg #[.int .i64 x, .int .i64 y, .int .i64 z]] w fun e w' => e = .returned (.int .i64 v) ∧ Below w.heap.size w w' := by
  have HB1 := Lib.hid ((Below.refl _ w).alloc (Nat.le_refl _) (.cells #[.int .i64 x, .int .i64 y, .int .i64 z] 24))
  go_enter Try.func17, Try.ntmps17
  go_wp2_with fail
  refine (C _).out.mono ?_
  rintro e w1 ⟨rfl, hb⟩
  have HB2 := Lib.hid (bnext HB1.out hb)
  clear hb
  go_wp2_with fail
  go_ret
  exact ⟨rfl, HB2.out⟩

theorem keepL {w w1 w2 : World} {Q : World → Prop} {g i j k : Nat} {a b c : Value} (h : Below w.heap.size w w1 ∧ Q w1 ∧ w1.cell? ⟨g, i, none⟩ = some a ∧ w1.cell? ⟨g, j, none⟩ = some b ∧ w1.cell? ⟨g, k, none⟩ = some c) (hQ : Q w1 → Q w2) (hq : Below w1.heap.size w1 w2) :
    Below w.heap.size w w2 ∧ Q w2 ∧ w2.cell? ⟨g, i, none⟩ = some a ∧ w2.cell? ⟨g, j, none⟩ = some b ∧ w2.cell? ⟨g, k, none⟩ = some c :=
  ⟨bnext h.1 hq, hQ h.2.1, ckeep hq h.2.2.1, ckeep hq h.2.2.2.1, ckeep hq h.2.2.2.2⟩
end Go.Proofs.Ytegbjnpnchidkaa
