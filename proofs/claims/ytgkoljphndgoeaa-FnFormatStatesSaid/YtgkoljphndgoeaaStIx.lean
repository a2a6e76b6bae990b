/-
  The numbers and texts of states, of the program and of the model: StateIndex, StateAt, FormatState.
-/
import Derived.Test.YtgkoljphndgoeaaAt0
import Derived.Test.YtgkoljphndgoeaaDec
import Derived.Deep.QuietTactic
import Derived.BigQuiet
import Derived.Deep.RegionHeld3
namespace Go.Proofs.Ytgkoljphndgoeaa
open Go.RowKit

def dgt (n : Int) : UInt8 := if n = 0 then 48 else if n = 1 then 49 else 50

set_option maxHeartbeats 1000000 in
theorem implDigit (n : Int) (w : World) (h : val3 n = true) : Calls Try.prog 31 #[.int .i64 n] w fun e w' => e = .returned (.string (bs [dgt n])) ∧ w = w' := by
  have hb := val3_bd h
  clear h
  have hc : n = 0 ∨ n = 1 ∨ n = 2 := by omega
  clear hb
  rcases hc with rfl | rfl | rfl
  all_goals
    go_enter Try.func31, Try.ntmps31
    go_wp2_with fail
    go_ret
    exact ⟨rfl, rfl⟩

/-- The text of a state. -/
def txt3 (x y z : Int) : ByteArray := bs [dgt x, dgt y, dgt z]

theorem sz2 (a b : UInt8) : ¬ (9223372036854775807 < (bs [a]).size + (bs [b]).size) := by simp [bs_size]

theorem sz3 (a b c : UInt8) : ¬ (9223372036854775807 < (bs [a]).size + (bs [b]).size + (bs [c]).size) := by simp [bs_size]

theorem txt3_eq (x y z : Int) : bs [dgt x] ++ bs [dgt y] ++ bs [dgt z] = txt3 x y z := by rw [bs_append, bs_append]; rfl

set_option maxHeartbeats 1000000 in
theorem implFmt_yes (x y z : Int) (w : World) (h : st3 x y z = true) : Calls Try.prog 26 #[.agg #[.int .i64 x, .int .i64 y, .int .i64 z]] w fun e w' => e = .returned (.string (txt3 x y z)) ∧ Below w.heap.size w w' := by
  have C := fun w => Lib.hid (implStateValid x y z w)
  rw [h] at C
  unfold st3 at h
  simp only [Bool.and_eq_true] at h
  obtain ⟨⟨h0, h1⟩, h2⟩ := h
  have H0 := Lib.hid h0
  have H1 := Lib.hid h1
  have H2 := Lib.hid h2
  have z2 := sz2 (dgt x) (dgt y)
  have z3 := sz3 (dgt x) (dgt y) (dgt z)
  clear h0 h1 h2
  go_enter Try.func26, Try.ntmps26
  go_wp2_with fail
  refine (C _).out.mono ?_
  rintro e w1 ⟨rfl, hb⟩
  have t1 := (Blk.new _ _ _).kept hb
  have HB := Lib.hid (bbox hb)
  obtain ⟨q0, q1, q2⟩ := t1.c3
  clear hb t1
  go_wp2_with fail
  go_quiet ((go_at_call 31; first | exact Calls.quiet_of_same ((implDigit x _ H0.out).mono fun _ _ h => ⟨h.1, h.2.symm⟩) | exact Calls.quiet_of_same ((implDigit y _ H1.out).mono fun _ _ h => ⟨h.1, h.2.symm⟩) | exact Calls.quiet_of_same ((implDigit z _ H2.out).mono fun _ _ h => ⟨h.1, h.2.symm⟩)))
  go_wp2_with fail
  go_ret
  exact ⟨by rw [← txt3_eq]; rfl, bdrewN HB.out _⟩

set_option maxHeartbeats 1000000 in
theorem implFmt_no (x y z : Int) (w : World) (h : st3 x y z = false) : Calls Try.prog 26 #[.agg #[.int .i64 x, .int .i64 y, .int .i64 z]] w fun e w' => e = .returned (.string (bs [])) ∧ Below w.heap.size w w' := by
  have C := fun w => Lib.hid (implStateValid x y z w)
  rw [h] at C
  clear h
  go_enter Try.func26, Try.ntmps26
  go_wp2_with fail
  refine (C _).out.mono ?_
  rintro e w1 ⟨rfl, hb⟩
  have HB := Lib.hid (bbox hb)
  clear hb
  go_wp2_with fail
  go_ret
  exact ⟨rfl, HB.out⟩

theorem decAny (n : Int) (w : World) (h : val3 n = true) : Calls Try.prog 24 #[.int .i64 n] w fun e w' => e = .returned (.string (bs [dgt n])) ∧ Below w.heap.size w w' := by
  have hb := val3_bd h
  have hc : n = 0 ∨ n = 1 ∨ n = 2 := by omega
  rcases hc with rfl | rfl | rfl
  · exact dec_0 w
  · exact dec_1 w
  · exact dec_2 w

set_option maxHeartbeats 1000000 in
theorem specShow (x y z : Int) (w : World) (h : st3 x y z = true) : Calls Try.prog 14 #[.agg #[.int .i64 x, .int .i64 y, .int .i64 z]] w fun e w' => e = .returned (.string (txt3 x y z)) ∧ Below w.heap.size w w' := by
  unfold st3 at h
  simp only [Bool.and_eq_true] at h
  obtain ⟨⟨h0, h1⟩, h2⟩ := h
  have C0 := fun w => Lib.hid (decAny x w h0)
  have C1 := fun w => Lib.hid (decAny y w h1)
  have C2 := fun w => Lib.hid (decAny z w h2)
  have z2 := sz2 (dgt x) (dgt y)
  have z3 := sz3 (dgt x) (dgt y) (dgt z)
  clear h0 h1 h2
  go_enter Try.func14, Try.ntmps14
  go_wp2_with fail
  have t1 := Blk.new w #[.int .i64 x, .int .i64 y, .int .i64 z] 28
  have hB := ((Below.refl _ w).alloc (Nat.le_refl _) (.cells #[.int .i64 x, .int .i64 y, .int .i64 z] 28)).drew
  generalize w.alloc (.cells #[.int .i64 x, .int .i64 y, .int .i64 z] 28) = W0 at *
  obtain ⟨q0, q1, q2⟩ := t1.c3
  clear t1
  go_region_held3 (fun w' => Below w.heap.size w w' ∧ w'.cell? ⟨w.heap.size, 0, none⟩ = some (.int .i64 x) ∧ w'.cell? ⟨w.heap.size, 1, none⟩ = some (.int .i64 y) ∧ w'.cell? ⟨w.heap.size, 2, none⟩ = some (.int .i64 z))
    ((go_split_ands; refine ⟨?_, ?_, ?_, ?_⟩ <;> first | assumption | exact ckeep hq (by assumption) | exact Below.trans (by assumption) (hq.mono (by have := Below.size (by assumption : Below w.heap.size w _); omega))))
    (first | (go_at_call 24; (first | (with_reducible refine (C0 _).out.mono ?_) | (with_reducible refine (C1 _).out.mono ?_) | (with_reducible refine (C2 _).out.mono ?_)); rintro e w2 ⟨rfl, hq⟩))
  go_wp2_with fail
  go_split_ands
  go_ret
  exact ⟨by rw [← txt3_eq]; rfl, by assumption⟩

end Go.Proofs.Ytgkoljphndgoeaa
