/-
  spec.l6Agree: the test that two states have the same values of some variables.
-/
import Derived.Test.YtheclmdpiijakaaTopD
import Derived.Test.YtheclmdpiijakaaTopY
namespace Go.Proofs.Ytheclmdpiijakaa
open Go.RowKit

theorem varB_three {v : UInt8} (h : isVarB false v = true) : v = 120 ∨ v = 121 ∨ v = 122 := by
  simpa [isVarB, or_assoc] using h
theorem dn (m : Nat) : (m = 0 ∧ Value.int .i64 ((m : Int) - 1) = .int .i64 (-1)) ∨ ∃ n : Nat, m = n + 1 ∧ Value.int .i64 ((m : Int) - 1) = .int .i64 n := by
  cases m with
  | zero => exact .inl ⟨rfl, rfl⟩
  | succ n => exact .inr ⟨n, rfl, by congr 1; omega⟩
/-- Two letters of one variable, one of each state. -/
def IsTwo (c d : UInt8) : Prop := (c = 120 ∧ d = 88) ∨ (c = 121 ∧ d = 89) ∨ (c = 122 ∧ d = 90)
theorem isXw_agree {c d : UInt8} (h : IsTwo c d) {s : ByteArray} (hs : IsXw true s) : IsXw true ((((⟨#[38, 61]⟩ : ByteArray) ++ ⟨#[c]⟩) ++ ⟨#[d]⟩) ++ s) := by
  obtain ⟨t, ht, et⟩ := hs
  refine ⟨.bin 38 (.bin 61 (.leaf c) (.leaf d)) t, ⟨true, true, rfl, ⟨false, false, rfl, ?_, ?_⟩, ht⟩, by simp [ByteArray.data_append, et, Tm.ser]⟩
  · rcases h with ⟨rfl, rfl⟩ | ⟨rfl, rfl⟩ | ⟨rfl, rfl⟩ <;> rfl
  · rcases h with ⟨rfl, rfl⟩ | ⟨rfl, rfl⟩ | ⟨rfl, rfl⟩ <;> rfl
theorem isXw_t : IsXw true ⟨#[116]⟩ := ⟨.leaf 116, rfl, rfl⟩
theorem sz6 {n s m : Nat} (hm : m + 1 ≤ n) (hs : s ≤ 100) : (min (m + 1) n - m = 1) ∧ (¬ 9223372036854775807 < 2 + (min (m + 1) n - m)) ∧ (¬ 9223372036854775807 < 2 + (min (m + 1) n - m) + 1) ∧ (¬ 9223372036854775807 < 2 + (min (m + 1) n - m) + 1 + s) ∧ (¬ 9223372036854775807 < 2 + 1) ∧ (¬ 9223372036854775807 < 2 + 1 + 1) ∧ (¬ 9223372036854775807 < 2 + 1 + 1 + s) := by omega

set_option maxRecDepth 100000 in
set_option maxHeartbeats 4000000 in
theorem agree6 (N : ByteArray) (hN : N.size ≤ 3) (hv : NmV N) (w : World) : Calls Try.prog 39 #[.string N] w fun e w' => ∃ s : ByteArray, s.size = 1 + 4 * N.size ∧ IsXw true s ∧ e = .returned (.string s) ∧ Below w.heap.size w w' := by
  have HV := Lib.hid hv
  have ew : IntKind.i64.wrap ((N.size : Int) - 1) = (N.size : Int) - 1 := IntWalk.i64_in _ (by omega)
  clear hv
  have HB0 := Lib.hid (Below.refl w.heap.size w)
  go_enter Try.func39, Try.ntmps39
  go_wp2_with fail
  go_loopw [3, 4, 5] (fun o i _ wr => ∃ (k : Nat) (s : ByteArray), k ≤ N.size ∧ ((k = 0 ∧ i = .int .i64 (-1)) ∨ ∃ m : Nat, k = m + 1 ∧ i = .int .i64 m) ∧ o = .string s ∧ s.size + 4 * k = 1 + 4 * N.size ∧ Hid (IsXw true s) ∧ Hid (Below w.heap.size w wr)) (fun _ i _ _ => (intOf i + 1).toNat)
  case atStart => exact ⟨N.size, ⟨#[116]⟩, Nat.le_refl _, dn _, rfl, rfl, isXw_t, HB0⟩
  case round =>
    clear HB0
    obtain ⟨k, s, hk, hi, rfl, hs, HX, HB⟩ := hrel
    rcases hi with ⟨h0, rfl⟩ | ⟨m, rfl, rfl⟩
    · go_wp2_with fail
      go_ret
      exact ⟨s, by omega, HX.out, rfl, HB.out⟩
    · obtain ⟨c, hc, ec⟩ := HV.out m hk
      have ex : ∃ (j : Nat) (d : UInt8), IsTwo c d ∧ j ≤ 2 ∧ (⟨#[88, 89, 90]⟩ : ByteArray).extract j (j + 1) = ⟨#[d]⟩ ∧ ((c = 120 ∧ j = 0) ∨ (c = 121 ∧ j = 1) ∨ (c = 122 ∧ j = 2)) := by
        rcases varB_three hc with rfl | rfl | rfl
        · exact ⟨0, 88, by simp [IsTwo], by omega, by decide +kernel, by simp⟩
        · exact ⟨1, 89, by simp [IsTwo], by omega, by decide +kernel, by simp⟩
        · exact ⟨2, 90, by simp [IsTwo], by omega, by decide +kernel, by simp⟩
      obtain ⟨j, d, h2, hj, ed, hcj⟩ := ex
      have C := fun w => Lib.hid (specVar_yes c j w hcj)
      rw [← ec] at C
      have EC := Lib.hid ec
      have ED := Lib.hid ed
      have H2 := Lib.hid h2
      have hm2 : (m : Int) + 1 ≤ (N.size : Int) := by omega
      have ew2 : IntKind.i64.wrap ((m : Int) + 1) = (m : Int) + 1 := IntWalk.i64_in _ (by omega)
      have ew3 : IntKind.i64.wrap ((m : Int) - 1) = (m : Int) - 1 := IntWalk.i64_in _ (by omega)
      have ew4 : IntKind.i64.wrap ((j : Int) + 1) = (j : Int) + 1 := IntWalk.i64_in _ (by omega)
      have hj3 : (j : Int) + 1 ≤ 3 := by omega
      obtain ⟨z0, z1, z2, z3, z4, z5, z6⟩ := sz6 hk (show s.size ≤ 100 by omega)
      clear ec ed h2 hcj hc
      go_wp2_with fail
      refine (C _).out.mono ?_
      rintro e w2 ⟨rfl, rfl⟩
      go_wp2_with fail
      go_quiet (fail)
      go_wp2_with fail
      refine ⟨⟨m, _, by omega, dn m, rfl, ?_, ?_, Lib.hid (bdrewN HB.out nq)⟩, by simp [intOf] <;> omega⟩
      · rw [EC.out, ED.out]; simp only [ByteArray.size_append]; show 2 + 1 + 1 + s.size + _ = _; omega
      · rw [EC.out, ED.out]; exact isXw_agree H2.out HX.out
end Go.Proofs.Ytheclmdpiijakaa
