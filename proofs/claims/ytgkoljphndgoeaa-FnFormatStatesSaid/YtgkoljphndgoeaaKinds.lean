/-
  impl.operandKinds: at each letter that begins a term of the kind the kinds of the operands; elsewhere it panics.
-/
import Derived.Test.YtgkoljphndgoeaaBase
import Derived.Test.YtgkoljphndgoeaaPure
namespace Go.Proofs.Ytgkoljphndgoeaa
open Go.RowKit

def kcode (k : Bool) : Int := if k then 116 else 101
def kbyte (k : Bool) : UInt8 := if k then 116 else 101
def kstr (l : List Bool) : ByteArray := ⟨(l.map kbyte).toArray⟩

theorem u8_of_nat {c : UInt8} {n : Nat} (h : c.toNat = n) (hn : n < 256) : c = UInt8.ofNat n := by
  apply UInt8.toNat_inj.1
  rw [h]; simp; omega

/-- The letters at which a kind has a list of operands. -/
theorem opk_cases {k : Bool} {c : UInt8} {l : List Bool} (h : opk false k c = some l) :
    (k = false ∧ l = [] ∧ (c = 120 ∨ c = 121 ∨ c = 122 ∨ c = 48 ∨ c = 49 ∨ c = 50)) ∨ (k = false ∧ l = [false, false] ∧ (c = 43 ∨ c = 45 ∨ c = 42)) ∨
    (k = true ∧ l = [] ∧ (c = 116 ∨ c = 102)) ∨ (k = true ∧ l = [false, false] ∧ (c = 61 ∨ c = 60)) ∨ (k = true ∧ l = [true] ∧ c = 33) ∨ (k = true ∧ l = [true, true] ∧ (c = 38 ∨ c = 124)) := by
  unfold opk isVarB isDigB isOpB at h
  cases k <;> simp at h
  · split at h
    · rename_i hh; simp at h; subst h; simp; rcases hh with ((hh | hh) | hh) | ((hh | hh) | hh) <;> simp [hh]
    · split at h
      · rename_i hh; simp at h; subst h; simp; rcases hh with (hh | hh) | hh <;> simp [hh]
      · simp at h
  · split at h
    · rename_i hh; simp at h; subst h; simp; rcases hh with hh | hh <;> simp [hh]
    · split at h
      · rename_i hh; simp at h; subst h; simp; rcases hh with hh | hh <;> simp [hh]
      · split at h
        · rename_i hh; simp at h; subst h; simp [hh]
        · split at h
          · rename_i hh; simp at h; subst h; simp; rcases hh with hh | hh <;> simp [hh]
          · simp at h

theorem ne_of_opk {k : Bool} {r : Int} (h : ∀ c : UInt8, (c.toNat : Int) = r → opk false k c = none) (d : UInt8) (hd : opk false k d ≠ none) : (r == (d.toNat : Int)) = false := by
  rw [beq_eq_false_iff_ne]
  rintro rfl
  exact hd (h d rfl)

def Panics (w : World) (e : Ending) (w' : World) : Prop := ∃ v, e = .panicked [{ v := .iface 9 v, recovered := false }] ∧ w = w'

end Go.Proofs.Ytgkoljphndgoeaa
