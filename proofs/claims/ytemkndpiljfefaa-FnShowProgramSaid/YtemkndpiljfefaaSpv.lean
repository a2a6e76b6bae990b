/-
  spec.l1Value: the value of the expression that begins at an index, and where it ends.
-/
import Derived.Test.YtemkndpiljfefaaVal
namespace Go.Proofs.Ytemkndpiljfefaa
open Go.RowKit Tm

def envV (e : Nat → Int) : Value := .agg #[.int .i64 (e 0), .int .i64 (e 1), .int .i64 (e 2), .int .i64 (e 3), .int .i64 (e 4), .int .i64 (e 5)]

theorem byte_at {s : ByteArray} {a : Nat} {c : UInt8} {r : List UInt8} (h : s.data.toList.drop a = c :: r) : ∃ h : a < s.size, s[a] = c := by
  have hl : a < s.size := by
    have := congrArg List.length h
    simp at this
    have h2 : s.size = s.data.size := rfl
    omega
  refine ⟨hl, ?_⟩
  rw [drop_cons' s a hl] at h
  exact (List.cons.inj h).1

theorem wleaf_cases {c : UInt8} (h : (isVarB true c || isDigB c) = true) : c = 120 ∨ c = 121 ∨ c = 122 ∨ c = 88 ∨ c = 89 ∨ c = 90 ∨ c = 48 ∨ c = 49 ∨ c = 50 := by
  simp [isVarB, isDigB] at h; rcases h with (((h | h) | h) | ((h | h) | h)) | ((h | h) | h) <;> simp [h]

theorem six_find (c : UInt8) (r : Int) (w : World) (h : fnd [120, 121, 122, 88, 89, 90] c = r) : Calls Try.prog 50 #[.string ⟨#[120, 121, 122, 88, 89, 90]⟩, .int .u8 c.toNat] w fun e w' => e = .returned (.int .i64 r) ∧ w' = w :=
  find_at (s := ⟨#[120, 121, 122, 88, 89, 90]⟩) h w (by simp [maxLen, ByteArray.size])

theorem ok_wide {k : Bool} : ∀ {t : Tm}, Ok false k t → Ok true k t := by
  have ho : ∀ (k : Bool) (c : UInt8) (l : List Bool), opk false k c = some l → opk true k c = some l := by
    intro k c l h
    cases k
    · rw [opk_e] at h ⊢
      by_cases h1 : (isVarB false c || isDigB c) = true
      · rw [if_pos h1] at h; rw [if_pos]
        · exact h
        · simp [isVarB] at h1 ⊢; rcases h1 with h1 | h1
          · left; left; exact h1
          · right; exact h1
      · rw [if_neg h1] at h
        by_cases h2 : isOpB c = true
        · rw [if_pos h2] at h
          rw [if_neg, if_pos h2]
          · exact h
          · rcases op_cases h2 with rfl | rfl | rfl <;> decide
        · rw [if_neg h2] at h; cases h
    · exact h
  intro t
  induction t generalizing k with
  | leaf c => exact fun h => ho _ _ _ h
  | un c a ih => rintro ⟨k1, h, h1⟩; exact ⟨k1, ho _ _ _ h, ih h1⟩
  | bin c a b iha ihb => rintro ⟨k1, k2, h, h1, h2⟩; exact ⟨k1, k2, ho _ _ _ h, iha h1, ihb h2⟩

end Go.Proofs.Ytemkndpiljfefaa
