/-
  impl.operandKinds: at each letter that begins a text of a kind the kinds of the operands; elsewhere it panics.
-/
import Derived.Test.YtgkoljphndgoeaaBase
import Derived.Test.YtgkoljphndgoeaaGPure
import Derived.Test.YtgkoljphndgoeaaKinds
namespace Go.Proofs.Ytgkoljphndgoeaa
open Go.RowKit

def gstr (l : List UInt8) : ByteArray := ⟨l.toArray⟩

theorem ne_of_gopk {k : UInt8} {r : Int} (h : ∀ c : UInt8, (c.toNat : Int) = r → gopk0 false k c = none) (d : UInt8) (hd : gopk0 false k d ≠ none) : (r == (d.toNat : Int)) = false := by
  rw [beq_eq_false_iff_ne]
  rintro rfl
  exact hd (h d rfl)

/-- The kinds. -/
def IsKind (k : UInt8) : Prop := NarK k ∨ wideK k = true
theorem wideK_cases {k : UInt8} (h : wideK k = true) : k = 69 ∨ k = 84 ∨ k = 86 ∨ k = 80 := by simpa [wideK, or_assoc] using h
theorem wideK_nark {k : UInt8} (h : wideK k = true) : NarK (k + 32) := by
  rcases wideK_cases h with rfl | rfl | rfl | rfl <;> simp [NarK]
theorem gopk0_kind {wide : Bool} {k c : UInt8} {l : List UInt8} (h : gopk0 wide k c = some l) : NarK k := by
  unfold gopk0 at h
  by_cases h1 : k = 101
  · exact .inl h1
  rw [if_neg h1] at h
  by_cases h2 : k = 116
  · exact .inr (.inl h2)
  rw [if_neg h2] at h
  by_cases h3 : k = 118
  · exact .inr (.inr (.inl h3))
  rw [if_neg h3] at h
  by_cases h4 : k = 112
  · exact .inr (.inr (.inr h4))
  rw [if_neg h4] at h
  cases h
theorem gopk_kind {wide : Bool} {k c : UInt8} {l : List UInt8} (h : gopk wide k c = some l) : IsKind k := by
  by_cases hw : wideK k = true
  · exact .inr hw
  · simp only [Bool.not_eq_true] at hw
    rw [gopk_of hw] at h
    exact .inl (gopk0_kind h)
theorem gopk_kinds {wide : Bool} {k c : UInt8} {l : List UInt8} (h : gopk wide k c = some l) : (∀ k2 ∈ l, IsKind k2) ∧ l.length ≤ 3 := by
  by_cases hw : wideK k = true
  · rw [gopk_wide hw] at h
    cases ho : gopk0 true (k + 32) c with
    | none => rw [ho] at h; cases h
    | some l0 =>
      rw [ho] at h
      simp at h
      subst h
      rcases gopk0_lists ho with rfl | rfl | rfl | rfl | rfl | rfl | rfl | rfl <;> simp [IsKind, wideK]
  · simp only [Bool.not_eq_true] at hw
    rw [gopk_of hw] at h
    rcases gopk0_lists h with rfl | rfl | rfl | rfl | rfl | rfl | rfl | rfl <;> simp [IsKind, NarK]
theorem gopk0_ascii {wide : Bool} {k c : UInt8} {l : List UInt8} (h : gopk0 wide k c = some l) : c.toNat < 128 := by
  rcases gopk0_kind h with rfl | rfl | rfl | rfl
  · have h2 := gopk_kc wide false c
    simp only [kc] at h2
    rw [gopk_of rfl] at h2
    cases ho : opk wide false c with
    | none => rw [ho] at h2; simp at h2; rw [h] at h2; cases h2
    | some l2 => exact opk_ascii ho
  · have h2 := gopk_kc wide true c
    simp only [kc] at h2
    rw [gopk_of (by rfl)] at h2
    cases ho : opk wide true c with
    | none => rw [ho] at h2; simp at h2; rw [h] at h2; cases h2
    | some l2 => exact opk_ascii ho
  · simp only [gopk0] at h
    simp at h
    obtain ⟨h, _⟩ := h
    simp [isVarB] at h
    rcases h with ((rfl | rfl) | rfl) | ⟨_, (rfl | rfl) | rfl⟩ <;> decide
  · rcases gopk_p (wide := wide) (by rw [gopk_of rfl]; exact h) with ⟨rfl, _⟩ | ⟨rfl, _⟩ | ⟨h, _⟩ | ⟨rfl, _⟩ | ⟨rfl, _⟩ | ⟨rfl, _⟩
    · decide
    · decide
    · rcases h with rfl | rfl <;> decide
    · decide
    · decide
    · decide
theorem gopk_ascii {wide : Bool} {k c : UInt8} {l : List UInt8} (h : gopk wide k c = some l) : c.toNat < 128 := by
  by_cases hw : wideK k = true
  · rw [gopk_wide hw] at h
    cases ho : gopk0 true (k + 32) c with
    | none => rw [ho] at h; cases h
    | some l0 => exact gopk0_ascii ho
  · simp only [Bool.not_eq_true] at hw
    rw [gopk_of hw] at h
    exact gopk0_ascii h

def upS (l : List UInt8) : ByteArray := gstr (l.map (· - 32))
theorem code_sub {k : UInt8} (h : wideK k = true) : ((k.toNat : Int) + 32 = ((k + 32).toNat : Int)) ∧ (k.toNat : Int) < 128 := by
  rcases wideK_cases h with rfl | rfl | rfl | rfl <;> decide
end Go.Proofs.Ytgkoljphndgoeaa
