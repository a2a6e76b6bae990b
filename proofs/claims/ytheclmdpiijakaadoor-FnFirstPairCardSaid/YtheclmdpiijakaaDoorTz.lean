/-
  The number of zeros behind the last one of a number of 32 bits, by the library's table in block 0; and the first state of a set.
-/
import Derived.Test.YtheclmdpiijakaaDoorTopB
import Derived.Test.YtheclmdpiijakaaDoorTopT
import Derived.Lib.TrailingZeros
namespace Go.Proofs.YtheclmdpiijakaaDoor
open Go.RowKit

/-- The library's table in its variable. -/
def Tab32 (w : World) : Prop := ∀ j, j < 32 → w.cell? ⟨0, j, none⟩ = some (.int .u8 (Lib.deBruijn32tab.getD j 0 : Nat))
theorem Tab32.below {w w' : World} (h : Tab32 w) (hb : Below w.heap.size w w') : Tab32 w' := fun j hj => ckeep hb (h j hj)

theorem tz_key (x a : Nat) (hx : x < 4294967296) (hx0 : x ≠ 0) (hlow : x &&& (4294967296 - x) = a) :
    bits BinOp.and IntKind.u32 (x : Int) (-(x : Int) % 4294967296) * 125613361 % 4294967296 / 134217728 = ((a * 125613361 % 4294967296 / 134217728 : Nat) : Int) := by
  have e1 : -(x : Int) % 4294967296 = ((4294967296 - x : Nat) : Int) := by omega
  rw [e1, u32_and_nat x _ hx (by omega), hlow]
  omega

set_option maxHeartbeats 1000000 in
theorem tz_core (x k idx : Nat) (w : World) (hx0 : ((x : Int) == 0) = false)
    (key : bits BinOp.and IntKind.u32 (x : Int) (-(x : Int) % 4294967296) * 125613361 % 4294967296 / 134217728 = (idx : Int))
    (hi : idx < 32) (hk : k < 32) (hcell : w.cell? ⟨0, idx, none⟩ = some (.int .u8 k)) :
    Calls Tryd.prog 118 #[.int .u32 x] w fun e w' => e = .returned (.int .i64 k) ∧ w = w' := by
  go_enter Tryd.func118, Tryd.ntmps118
  go_wp2_with (simp only [key])
  go_ret
  exact ⟨rfl, rfl⟩
set_option maxHeartbeats 1000000 in
theorem tz_zero (w : World) : Calls Tryd.prog 118 #[.int .u32 0] w fun e w' => e = .returned (.int .i64 32) ∧ w = w' := by
  go_enter Tryd.func118, Tryd.ntmps118
  go_wp2_with fail
  go_ret
  exact ⟨rfl, rfl⟩

theorem tz_at (x k : Nat) (hx : x < 134217728) (hb : x.testBit k = true) (hlow : ∀ j, j < k → x.testBit j = false) (w : World) (hT : Tab32 w) :
    Calls Tryd.prog 118 #[.int .u32 x] w fun e w' => e = .returned (.int .i64 k) ∧ w = w' := by
  have hx0 : x ≠ 0 := by rintro rfl; simp at hb
  obtain ⟨hl, hk⟩ := Lib.lowest_bit 32 x hx0 (by omega)
  obtain ⟨m, hm, _⟩ := Lib.ctzFrom_spec 32 x (by omega) (by omega)
  have hc : Lib.ctz 32 x = Lib.ctzFrom 32 x := by simp [Lib.ctz, hx0]
  have he : Lib.ctz 32 x = k := by
    rw [hc]
    generalize Lib.ctzFrom 32 x = c at hm
    have hbit : ∀ i, x.testBit i = (decide (c ≤ i) && (2 * m + 1).testBit (i - c)) := fun i => by rw [hm, Nat.mul_comm, Nat.testBit_mul_two_pow]
    rcases Nat.lt_trichotomy c k with h | h | h
    · have := hlow c h
      rw [hbit] at this
      simp [Nat.testBit_zero] at this
    · exact h
    · rw [hbit] at hb
      simp at hb; omega
  rw [he] at hl hk
  obtain ⟨hi, htab⟩ := Lib.deBruijn32_at k hk
  have hcell := hT _ hi
  rw [htab] at hcell
  exact tz_core x k _ w (by simp; omega) (tz_key x _ (by omega) hx0 hl) hi hk hcell

/-- The least number of a set below 27. -/
def IsFirst (F : Nat → Bool) (k : Nat) : Prop := k < 27 ∧ F k = true ∧ ∀ j, j < k → F j = false
theorem first_or (F : Nat → Bool) : (∃ k, IsFirst F k) ∨ ∀ i, i < 27 → F i = false := by
  have h : ∀ n, (∃ k, k < n ∧ F k = true ∧ ∀ j, j < k → F j = false) ∨ ∀ i, i < n → F i = false := by
    intro n
    induction n with
    | zero => exact .inr fun i hi => by omega
    | succ n ih =>
      rcases ih with ⟨k, hk, h1, h2⟩ | h
      · exact .inl ⟨k, by omega, h1, h2⟩
      · cases hF : F n
        · refine .inr fun i hi => ?_
          by_cases e : i = n
          · rw [e]; exact hF
          · exact h i (by omega)
        · exact .inl ⟨n, by omega, hF, h⟩
  rcases h 27 with ⟨k, hk, h1, h2⟩ | h
  · exact .inl ⟨k, hk, h1, h2⟩
  · exact .inr h

theorem cnt_pos {F : Nat → Bool} {n k : Nat} (hk : k < n) (h : F k = true) : 0 < cnt n F := by
  induction n with
  | zero => omega
  | succ n ih =>
    simp only [cnt]
    by_cases e : k = n
    · subst e; rw [h]; simp
    · have := ih (by omega); omega
theorem cnt_none {n : Nat} {F : Nat → Bool} (h : ∀ i, i < n → F i = false) : cnt n F = 0 := by
  induction n with
  | zero => rfl
  | succ n ih => simp only [cnt]; rw [ih (fun i hi => h i (by omega)), h n (by omega)]; rfl
theorem fnd_first {l : List UInt8} {k : Nat} (h27 : l.length = 27) (hk : IsFirst (hs l) k) : fnd l 49 = k := by
  have hk2 : k < l.length := by rw [h27]; exact hk.1
  refine fnd_hit hk2 ?_ ?_
  · have := hk.2.1
    unfold hs at this
    rw [List.getElem?_eq_getElem hk2] at this
    simpa using this
  · intro j hj e
    have := hk.2.2 j hj
    unfold hs at this
    rw [e] at this
    simp at this

end Go.Proofs.YtheclmdpiijakaaDoor
