/-
  The numbers and texts of states, of the program and of the model: StateIndex, StateAt, FormatState.
-/
import Derived.Test.YtcjajlnefjcjiaaAt0
import Derived.Test.YtcjajlnefjcjiaaDec
import Derived.Deep.QuietTactic
import Derived.BigQuiet
import Derived.Deep.RegionHeld3
namespace Go.Proofs.Ytcjajlnefjcjiaa
open Go.RowKit

set_option maxHeartbeats 1000000 in
theorem specIx_yes (x y z : Int) (w : World) (h : st3 x y z = true) : Calls Try.prog 14 #[.agg #[.int .i64 x, .int .i64 y, .int .i64 z]] w fun e w' => e = .returned (.int .i64 (x + 3 * y + 9 * z)) ∧ Below w.heap.size w w' := by
  have C := fun w => Lib.hid (specStateValid x y z w)
  rw [h] at C
  have D := fun w => Lib.hid (specIx0 x y z w h)
  clear h
  go_enter Try.func14, Try.ntmps14
  go_wp2_with fail
  refine (C _).out.mono ?_
  rintro e w1 ⟨rfl, hb⟩
  have t1 := (Blk.new _ _ _).kept hb
  obtain ⟨q0, q1, q2⟩ := t1.c3
  have HB := Lib.hid (bbox hb)
  clear hb t1
  go_wp2_with fail
  refine (D _).out.mono ?_
  rintro e w2 ⟨rfl, hb⟩
  have HB2 := Lib.hid (bnext HB.out hb)
  clear hb q0 q1 q2
  go_wp2_with fail
  go_ret
  exact ⟨rfl, HB2.out⟩

set_option maxHeartbeats 1000000 in
theorem specIx_no (x y z : Int) (w : World) (h : st3 x y z = false) : Calls Try.prog 14 #[.agg #[.int .i64 x, .int .i64 y, .int .i64 z]] w fun e w' => e = .returned (.int .i64 (-1)) ∧ Below w.heap.size w w' := by
  have C := fun w => Lib.hid (specStateValid x y z w)
  rw [h] at C
  clear h
  go_enter Try.func14, Try.ntmps14
  go_wp2_with fail
  refine (C _).out.mono ?_
  rintro e w1 ⟨rfl, hb⟩
  have HB := Lib.hid (bbox hb)
  clear hb
  go_wp2_with fail
  go_ret
  exact ⟨rfl, HB.out⟩

set_option maxHeartbeats 1000000 in
theorem specIn26 (n : Int) (w : World) (b : Bool) (hb : decide (0 ≤ n ∧ n < 27) = b) : Calls Try.prog 32 #[.int .i64 n, .int .i64 0, .int .i64 26] w fun e w' => e = .returned (.bool b) ∧ w = w' := by
  by_cases h0 : 0 ≤ n <;> by_cases h1 : n ≤ 26
  · have H : Hid (b = true) := by rw [← hb]; exact decide_eq_true ⟨h0, by omega⟩
    clear hb
    go_enter Try.func32, Try.ntmps32
    go_wp2
    go_ret
    exact ⟨by rw [H.out]; rfl, rfl⟩
  · have H : Hid (b = false) := by rw [← hb]; exact decide_eq_false (by omega)
    clear hb
    go_enter Try.func32, Try.ntmps32
    go_wp2
    go_ret
    exact ⟨by rw [H.out]; rfl, rfl⟩
  · have H : Hid (b = false) := by rw [← hb]; exact decide_eq_false (by omega)
    clear hb
    go_enter Try.func32, Try.ntmps32
    go_wp2
    go_ret
    exact ⟨by rw [H.out]; rfl, rfl⟩
  · have H : Hid (b = false) := by rw [← hb]; exact decide_eq_false (by omega)
    clear hb
    go_enter Try.func32, Try.ntmps32
    go_wp2
    go_ret
    exact ⟨by rw [H.out]; rfl, rfl⟩

set_option maxHeartbeats 1000000 in
theorem specAt_yes (i : Int) (w : World) (h0 : 0 ≤ i) (h1 : i < 27) : Calls Try.prog 21 #[.int .i64 i] w fun e w' => e = .returned (.tuple #[.agg #[.int .i64 (ax i), .int .i64 (ay i), .int .i64 (az i)], .bool true]) ∧ Below w.heap.size w w' := by
  have C := fun w => Lib.hid (specIn26 i w true (by simp; omega))
  have D := fun w => Lib.hid (specAt0 i w h0 h1)
  clear h0 h1
  go_enter Try.func21, Try.ntmps21
  go_wp2_with fail
  refine (C _).out.mono ?_
  rintro e w1 ⟨rfl, rfl⟩
  go_wp2_with fail
  refine (D _).out.mono ?_
  rintro e w2 ⟨rfl, hb⟩
  have t1 := (Blk.new _ _ _).kept hb
  have HB := Lib.hid (bbox hb)
  obtain ⟨q0, q1, q2, f0, f1, f2⟩ := t1.a3
  clear hb t1
  go_wp2_with fail
  exact bodyPost_ret (v := .tuple #[.agg #[.int .i64 (ax i), .int .i64 (ay i), .int .i64 (az i)], .bool true]) (by simp [results, Try.results21, go_sem, q0, q1, q2]) rfl ⟨rfl, by (repeat refine Below.setCell ?_ (by simp) _); exact HB.out⟩

set_option maxHeartbeats 1000000 in
theorem specAt_no (i : Int) (w : World) (h : ¬ (0 ≤ i ∧ i < 27)) : Calls Try.prog 21 #[.int .i64 i] w fun e w' => e = .returned (.tuple #[.agg #[.int .i64 0, .int .i64 0, .int .i64 0], .bool false]) ∧ Below w.heap.size w w' := by
  have C := fun w => Lib.hid (specIn26 i w false (decide_eq_false h))
  clear h
  go_enter Try.func21, Try.ntmps21
  go_wp2_with fail
  refine (C _).out.mono ?_
  rintro e w1 ⟨rfl, rfl⟩
  go_wp2_with fail
  exact bodyPost_ret (v := .tuple #[.agg #[.int .i64 0, .int .i64 0, .int .i64 0], .bool false]) (by simp [results, Try.results21, go_sem]) rfl ⟨rfl, (Below.refl _ _).alloc (Nat.le_refl _) _⟩

def dgt (n : Int) : UInt8 := if n = 0 then 48 else if n = 1 then 49 else 50

set_option maxHeartbeats 1000000 in
theorem implDigit (n : Int) (w : World) (h : val3 n = true) : Calls Try.prog 38 #[.int .i64 n] w fun e w' => e = .returned (.string (bs [dgt n])) ∧ w = w' := by
  have hb := val3_bd h
  clear h
  have hc : n = 0 ∨ n = 1 ∨ n = 2 := by omega
  clear hb
  rcases hc with rfl | rfl | rfl
  all_goals
    go_enter Try.func38, Try.ntmps38
    go_wp2_with fail
    go_ret
    exact ⟨rfl, rfl⟩

/-- The text of a state. -/
def txt3 (x y z : Int) : ByteArray := bs [dgt x, dgt y, dgt z]

theorem sz2 (a b : UInt8) : ¬ (9223372036854775807 < (bs [a]).size + (bs [b]).size) := by simp [bs_size]

theorem sz3 (a b c : UInt8) : ¬ (9223372036854775807 < (bs [a]).size + (bs [b]).size + (bs [c]).size) := by simp [bs_size]

theorem txt3_eq (x y z : Int) : bs [dgt x] ++ bs [dgt y] ++ bs [dgt z] = txt3 x y z := by rw [bs_append, bs_append]; rfl

set_option maxHeartbeats 1000000 in
theorem implFmt_yes (x y z : Int) (w : World) (h : st3 x y z = true) : Calls Try.prog 13 #[.agg #[.int .i64 x, .int .i64 y, .int .i64 z]] w fun e w' => e = .returned (.string (txt3 x y z)) ∧ Below w.heap.size w w' := by
  have C := fun w => Lib.hid (implStateValid x y z w)
  rw [h] at C
  unfold st3 at h
  simp only [Bool.and_eq_true] at h
  obtain ⟨⟨h0, h1⟩, h2⟩ := h
  have H0 := Lib.hid h0
  have H1 := Lib.hid h1
  have H2 := Lib.hid h2
  have z2 := sz2 (dgt x) (dgt y)
  have z3 := sz3 (dgt x) (dgt y) (dgt z)
  clear h0 h1 h2
  go_enter Try.func13, Try.ntmps13
  go_wp2_with fail
  refine (C _).out.mono ?_
  rintro e w1 ⟨rfl, hb⟩
  have t1 := (Blk.new _ _ _).kept hb
  have HB := Lib.hid (bbox hb)
  obtain ⟨q0, q1, q2⟩ := t1.c3
  clear hb t1
  go_wp2_with fail
  go_quiet ((go_at_call 38; first | exact Calls.quiet_of_same ((implDigit x _ H0.out).mono fun _ _ h => ⟨h.1, h.2.symm⟩) | exact Calls.quiet_of_same ((implDigit y _ H1.out).mono fun _ _ h => ⟨h.1, h.2.symm⟩) | exact Calls.quiet_of_same ((implDigit z _ H2.out).mono fun _ _ h => ⟨h.1, h.2.symm⟩)))
  go_wp2_with fail
  go_ret
  exact ⟨by rw [← txt3_eq]; rfl, bdrewN HB.out _⟩

set_option maxHeartbeats 1000000 in
theorem implFmt_no (x y z : Int) (w : World) (h : st3 x y z = false) : Calls Try.prog 13 #[.agg #[.int .i64 x, .int .i64 y, .int .i64 z]] w fun e w' => e = .returned (.string (bs [])) ∧ Below w.heap.size w w' := by
  have C := fun w => Lib.hid (implStateValid x y z w)
  rw [h] at C
  clear h
  go_enter Try.func13, Try.ntmps13
  go_wp2_with fail
  refine (C _).out.mono ?_
  rintro e w1 ⟨rfl, hb⟩
  have HB := Lib.hid (bbox hb)
  clear hb
  go_wp2_with fail
  go_ret
  exact ⟨rfl, HB.out⟩

theorem decAny (n : Int) (w : World) (h : val3 n = true) : Calls Try.prog 46 #[.int .i64 n] w fun e w' => e = .returned (.string (bs [dgt n])) ∧ Below w.heap.size w w' := by
  have hb := val3_bd h
  have hc : n = 0 ∨ n = 1 ∨ n = 2 := by omega
  rcases hc with rfl | rfl | rfl
  · exact dec_0 w
  · exact dec_1 w
  · exact dec_2 w

set_option maxHeartbeats 1000000 in
theorem specShow (x y z : Int) (w : World) (h : st3 x y z = true) : Calls Try.prog 40 #[.agg #[.int .i64 x, .int .i64 y, .int .i64 z]] w fun e w' => e = .returned (.string (txt3 x y z)) ∧ Below w.heap.size w w' := by
  unfold st3 at h
  simp only [Bool.and_eq_true] at h
  obtain ⟨⟨h0, h1⟩, h2⟩ := h
  have C0 := fun w => Lib.hid (decAny x w h0)
  have C1 := fun w => Lib.hid (decAny y w h1)
  have C2 := fun w => Lib.hid (decAny z w h2)
  have z2 := sz2 (dgt x) (dgt y)
  have z3 := sz3 (dgt x) (dgt y) (dgt z)
  clear h0 h1 h2
  go_enter Try.func40, Try.ntmps40
  go_wp2_with fail
  have t1 := Blk.new w #[.int .i64 x, .int .i64 y, .int .i64 z] 24
  have hB := ((Below.refl _ w).alloc (Nat.le_refl _) (.cells #[.int .i64 x, .int .i64 y, .int .i64 z] 24)).drew
  generalize w.alloc (.cells #[.int .i64 x, .int .i64 y, .int .i64 z] 24) = W0 at *
  obtain ⟨q0, q1, q2⟩ := t1.c3
  clear t1
  go_region_held3 (fun w' => Below w.heap.size w w' ∧ w'.cell? ⟨w.heap.size, 0, none⟩ = some (.int .i64 x) ∧ w'.cell? ⟨w.heap.size, 1, none⟩ = some (.int .i64 y) ∧ w'.cell? ⟨w.heap.size, 2, none⟩ = some (.int .i64 z))
    ((go_split_ands; refine ⟨?_, ?_, ?_, ?_⟩ <;> first | assumption | exact ckeep hq (by assumption) | exact Below.trans (by assumption) (hq.mono (by have := Below.size (by assumption : Below w.heap.size w _); omega))))
    (first | (go_at_call 46; (first | (with_reducible refine (C0 _).out.mono ?_) | (with_reducible refine (C1 _).out.mono ?_) | (with_reducible refine (C2 _).out.mono ?_)); rintro e w2 ⟨rfl, hq⟩))
  go_wp2_with fail
  go_split_ands
  go_ret
  exact ⟨by rw [← txt3_eq]; rfl, by assumption⟩

set_option maxHeartbeats 1000000 in
theorem specFmt_yes (x y z : Int) (w : World) (h : st3 x y z = true) : Calls Try.prog 15 #[.agg #[.int .i64 x, .int .i64 y, .int .i64 z]] w fun e w' => e = .returned (.string (txt3 x y z)) ∧ Below w.heap.size w w' := by
  have C := fun w => Lib.hid (specStateValid x y z w)
  rw [h] at C
  have D := fun w => Lib.hid (specShow x y z w h)
  clear h
  go_enter Try.func15, Try.ntmps15
  go_wp2_with fail
  refine (C _).out.mono ?_
  rintro e w1 ⟨rfl, hb⟩
  have t1 := (Blk.new _ _ _).kept hb
  obtain ⟨q0, q1, q2⟩ := t1.c3
  have HB := Lib.hid (bbox hb)
  clear hb t1
  go_wp2_with fail
  refine (D _).out.mono ?_
  rintro e w2 ⟨rfl, hb⟩
  have HB2 := Lib.hid (bnext HB.out hb)
  clear hb q0 q1 q2
  go_wp2_with fail
  go_ret
  exact ⟨rfl, HB2.out⟩

set_option maxHeartbeats 1000000 in
theorem specFmt_no (x y z : Int) (w : World) (h : st3 x y z = false) : Calls Try.prog 15 #[.agg #[.int .i64 x, .int .i64 y, .int .i64 z]] w fun e w' => e = .returned (.string (bs [])) ∧ Below w.heap.size w w' := by
  have C := fun w => Lib.hid (specStateValid x y z w)
  rw [h] at C
  clear h
  go_enter Try.func15, Try.ntmps15
  go_wp2_with fail
  refine (C _).out.mono ?_
  rintro e w1 ⟨rfl, hb⟩
  have HB := Lib.hid (bbox hb)
  clear hb
  go_wp2_with fail
  go_ret
  exact ⟨rfl, HB.out⟩
end Go.Proofs.Ytcjajlnefjcjiaa
