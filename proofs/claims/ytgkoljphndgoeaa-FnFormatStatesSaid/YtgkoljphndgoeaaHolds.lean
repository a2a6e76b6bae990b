/-
  The truth of a test: (impl.term).holds on a tree in memory, and the plain function that it computes.
-/
import Derived.Test.YtgkoljphndgoeaaVal
namespace Go.Proofs.Ytgkoljphndgoeaa
open Go.RowKit Tm

/-- Whether a test is true where the variables have the values of e. -/
def tru (e : Nat → Int) : Tm → Bool
  | .leaf c => c == 116
  | .un _ a => !tru e a
  | .bin c a b => if c = 61 then val e a == val e b else if c = 60 then decide (val e a < val e b) else if c = 38 then tru e a && tru e b else tru e a || tru e b

theorem ok_test {wide : Bool} {t : Tm} (h : Ok wide true t) : (∃ c, t = .leaf c ∧ (c = 116 ∨ c = 102)) ∨ (∃ a, t = .un 33 a ∧ Ok wide true a) ∨
    (∃ c a b, t = .bin c a b ∧ (c = 61 ∨ c = 60) ∧ Ok wide false a ∧ Ok wide false b) ∨ (∃ c a b, t = .bin c a b ∧ (c = 38 ∨ c = 124) ∧ Ok wide true a ∧ Ok wide true b) := by
  have toU : ∀ {c : UInt8} {n : Nat}, c.toNat = n → n < 256 → c = UInt8.ofNat n := fun h hn => u8_of_nat h hn
  cases t with
  | leaf c =>
    rcases opk_t h with ⟨_, h2⟩ | ⟨h1, _⟩ | ⟨h1, _⟩ | ⟨h1, _⟩
    · exact .inl ⟨c, rfl, h2.elim (fun h => .inl (toU h (by decide))) (fun h => .inr (toU h (by decide)))⟩
    · cases h1
    · cases h1
    · cases h1
  | un c a =>
    obtain ⟨k1, h, ha⟩ := h
    rcases opk_t h with ⟨h1, _⟩ | ⟨h1, _⟩ | ⟨h1, h2⟩ | ⟨h1, _⟩
    · cases h1
    · cases h1
    · cases h1
      obtain rfl := toU h2 (by decide)
      exact .inr (.inl ⟨a, rfl, ha⟩)
    · cases h1
  | bin c a b =>
    obtain ⟨k1, k2, h, ha, hb⟩ := h
    rcases opk_t h with ⟨h1, _⟩ | ⟨h1, h2⟩ | ⟨h1, _⟩ | ⟨h1, h2⟩
    · cases h1
    · cases h1
      exact .inr (.inr (.inl ⟨c, a, b, rfl, h2.elim (fun h => .inl (toU h (by decide))) (fun h => .inr (toU h (by decide))), ha, hb⟩))
    · cases h1
    · cases h1
      exact .inr (.inr (.inr ⟨c, a, b, rfl, h2.elim (fun h => .inl (toU h (by decide))) (fun h => .inr (toU h (by decide))), ha, hb⟩))

end Go.Proofs.Ytgkoljphndgoeaa
