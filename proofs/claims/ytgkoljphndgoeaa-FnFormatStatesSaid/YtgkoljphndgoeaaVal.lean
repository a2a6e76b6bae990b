/-
  The value of an expression: (impl.term).value on a tree in memory, and the plain function that it computes.
-/
import Derived.Test.YtgkoljphndgoeaaValid
import Derived.Test.YtgkoljphndgoeaaStW
namespace Go.Proofs.Ytgkoljphndgoeaa
open Go.RowKit Tm

/-- An operator's value, of two values. -/
def cmp3 (c : UInt8) (a b : Int) : Int := if c = 43 then (a + b) % 3 else if c = 45 then (a - b + 3) % 3 else a * b % 3
/-- The value of an expression where the variables x, y, z, X, Y, Z have the values of e. -/
def val (e : Nat → Int) : Tm → Int
  | .leaf c => if c = 120 then e 0 else if c = 121 then e 1 else if c = 122 then e 2 else if c = 88 then e 3 else if c = 89 then e 4 else if c = 90 then e 5 else c.toNat - 48
  | .un _ _ => 0
  | .bin c a b => cmp3 c (val e a) (val e b)
/-- The values of one state. -/
def one (x y z : Int) : Nat → Int
  | 0 => x
  | 1 => y
  | 2 => z
  | _ => 0

theorem cmp3_bd (c : UInt8) {a b : Int} (_ha : 0 ≤ a ∧ a ≤ 2) (_hb : 0 ≤ b ∧ b ≤ 2) : 0 ≤ cmp3 c a b ∧ cmp3 c a b ≤ 2 := by
  unfold cmp3
  split
  · omega
  · split
    · omega
    · exact ⟨Int.emod_nonneg _ (by omega), by have := Int.emod_lt_of_pos (a * b) (show (0 : Int) < 3 by omega); omega⟩

theorem ok_expr {wide : Bool} {t : Tm} (h : Ok wide false t) : (∃ c, t = .leaf c ∧ (isVarB wide c || isDigB c) = true) ∨ (∃ c a b, t = .bin c a b ∧ isOpB c = true ∧ Ok wide false a ∧ Ok wide false b) := by
  cases t with
  | leaf c =>
    left
    simp only [Ok, opk_e] at h
    split at h
    · rename_i hh; exact ⟨c, rfl, hh⟩
    · split at h <;> cases h
  | un c a =>
    obtain ⟨k1, h, _⟩ := h
    rw [opk_e] at h
    split at h
    · cases h
    · split at h <;> cases h
  | bin c a b =>
    right
    obtain ⟨k1, k2, h, ha, hb⟩ := h
    rw [opk_e] at h
    split at h
    · cases h
    · split at h
      · rename_i hh; cases h; exact ⟨c, a, b, rfl, hh, ha, hb⟩
      · cases h
theorem op_cases {c : UInt8} (h : isOpB c = true) : c = 43 ∨ c = 45 ∨ c = 42 := by
  simp [isOpB] at h; rcases h with (h | h) | h <;> simp [h]
theorem leaf_cases {c : UInt8} (h : (isVarB false c || isDigB c) = true) : c = 120 ∨ c = 121 ∨ c = 122 ∨ c = 48 ∨ c = 49 ∨ c = 50 := by
  simp [isVarB, isDigB] at h; rcases h with ((h | h) | h) | ((h | h) | h) <;> simp [h]

theorem val_bd {wide : Bool} {e : Nat → Int} (he : ∀ i, 0 ≤ e i ∧ e i ≤ 2) : ∀ {t : Tm}, Ok wide false t → 0 ≤ val e t ∧ val e t ≤ 2 := by
  intro t
  induction t with
  | leaf c =>
    intro h
    rcases ok_expr h with ⟨c', e1, hc⟩ | ⟨c', a, b, e1, _⟩
    · cases e1
      simp only [val]
      by_cases h1 : c = 120
      · rw [if_pos h1]; exact he 0
      rw [if_neg h1]
      by_cases h2 : c = 121
      · rw [if_pos h2]; exact he 1
      rw [if_neg h2]
      by_cases h3 : c = 122
      · rw [if_pos h3]; exact he 2
      rw [if_neg h3]
      by_cases h4 : c = 88
      · rw [if_pos h4]; exact he 3
      rw [if_neg h4]
      by_cases h5 : c = 89
      · rw [if_pos h5]; exact he 4
      rw [if_neg h5]
      by_cases h6 : c = 90
      · rw [if_pos h6]; exact he 5
      rw [if_neg h6]
      simp [isVarB, isDigB, h1, h2, h3, h4, h5, h6] at hc
      rcases hc with (rfl | rfl) | rfl <;> decide
    · cases e1
  | un c a _ => intro _; simp [val]
  | bin c a b iha ihb =>
    intro h
    rcases ok_expr h with ⟨c', e1, _⟩ | ⟨c', a', b', e1, _, h2, h3⟩
    · cases e1
    · cases e1
      exact cmp3_bd c (iha h2) (ihb h3)

theorem cell_keep {w w' : World} {b o : Nat} {v : Value} (hb : Below w.heap.size w w') (h : w.cell? ⟨b, o, none⟩ = some v) : w'.cell? ⟨b, o, none⟩ = some v := (hb.cell (p := ⟨b, o, none⟩) (cell_lt h)).trans h

theorem vleaf_cases {c : UInt8} (h : (isVarB true c || isDigB c) = true) : c = 120 ∨ c = 121 ∨ c = 122 ∨ c = 88 ∨ c = 89 ∨ c = 90 ∨ c = 48 ∨ c = 49 ∨ c = 50 := by
  simp [isVarB, isDigB] at h; rcases h with (((h | h) | h) | ((h | h) | h)) | ((h | h) | h) <;> simp [h]

end Go.Proofs.Ytgkoljphndgoeaa
