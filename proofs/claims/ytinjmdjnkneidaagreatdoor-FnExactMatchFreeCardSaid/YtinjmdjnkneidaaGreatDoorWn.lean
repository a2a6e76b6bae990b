/-
  Steps and tests by the number of a pair of states; those of one state alone are the same. Nothing of the program stands here.
-/
import Derived.Test.YtinjmdjnkneidaaGreatDoorTopH
import Derived.Test.YtinjmdjnkneidaaGreatDoorTopY
import Derived.Test.YtinjmdjnkneidaaGreatDoorTopV
namespace Go.Proofs.YtinjmdjnkneidaaGreatDoor
open Go.RowKit Tm

def mdl : Mdl := ⟨asg, tst⟩
/-- The values of the variables of two states. -/
def env2 (i j : Nat) : Nat → Int := fun k => if k < 3 then env i k else env j (k - 3)
def wdR (t : Tm) : Nat → Nat → Bool := fun i j => tru (env2 i j) t
theorem env2_bd {i j : Nat} (hi : i < 27) (hj : j < 27) : ∀ k, 0 ≤ env2 i j k ∧ env2 i j k ≤ 2 := by
  intro k
  unfold env2
  split
  · exact one_bd (at_st3 (i := (i : Int)) (by omega) (by omega)) k
  · exact one_bd (at_st3 (i := (j : Int)) (by omega) (by omega)) (k - 3)
/-- The values of the variables in the pair with a number. -/
def wenv (k : Nat) : Nat → Int := env2 (k % 27) (k / 27)
def wtst (t : Tm) (k : Nat) : Bool := tru (wenv k) t
/-- The number of a pair in which a variable has another value. -/
def wset (c : UInt8) (n : Int) (k : Nat) : Nat := if c = 88 ∨ c = 89 ∨ c = 90 then k % 27 + 27 * setN (c + 32) n (k / 27) else setN c n (k % 27) + 27 * (k / 27)
def wasg (c : UInt8) (t : Tm) (k : Nat) : Nat := wset c (val (wenv k) t) k
def mdlW : Mdl := ⟨wasg, wtst⟩
theorem wenv_bd {k : Nat} (hk : k < 729) : ∀ i, 0 ≤ wenv k i ∧ wenv k i ≤ 2 := env2_bd (by omega) (by omega)
theorem wval {t : Tm} (ht : Ok true false t) {k : Nat} (hk : k < 729) : val3 (val (wenv k) t) = true := by
  have h := val_bd (wenv_bd hk) ht
  exact val3_t h.1 (by have := h.2; omega)
theorem varW_cases {wide : Bool} {v : UInt8} (h : isVarB wide v = true) : v = 120 ∨ v = 121 ∨ v = 122 ∨ v = 88 ∨ v = 89 ∨ v = 90 := by
  cases wide
  · have h' : v = 120 ∨ v = 121 ∨ v = 122 := by simpa [isVarB, or_assoc] using h
    rcases h' with h | h | h
    · exact .inl h
    · exact .inr (.inl h)
    · exact .inr (.inr (.inl h))
  · simpa [isVarB, or_assoc] using h
theorem ok_any {wide k : Bool} {t : Tm} (h : Ok wide k t) : Ok true k t := by
  cases wide
  · exact ok_wide h
  · exact h
theorem varB_cases {v : UInt8} (h : isVarB false v = true) : v = 120 ∨ v = 121 ∨ v = 122 := by
  simpa [isVarB, or_assoc] using h
theorem wasg_lt {c : UInt8} {t : Tm} {k : Nat} (_hc : c = 120 ∨ c = 121 ∨ c = 122 ∨ c = 88 ∨ c = 89 ∨ c = 90) (ht : Ok true false t) (hk : k < 729) : wasg c t k < 729 := by
  unfold wasg wset
  have hv := wval ht hk
  split
  · have := setN_lt (c := c + 32) hv (show k / 27 < 27 by omega); omega
  · have := setN_lt (c := c) hv (show k % 27 < 27 by omega); omega
theorem wenv_nar {k : Nat} (hk : k < 27) : wenv k = env k := by
  funext i
  unfold wenv env2
  rw [show k % 27 = k by omega, show k / 27 = 0 by omega]
  split
  · rfl
  · rename_i h
    obtain ⟨n, rfl⟩ : ∃ n, i = n + 3 := ⟨i - 3, by omega⟩
    have h0 : ∀ n, env 0 n = 0 := fun n => by
      match n with
      | 0 => rfl
      | 1 => rfl
      | 2 => rfl
      | n + 3 => rfl
    rw [h0]
    rfl
theorem mdlW_t (t : Tm) {i : Nat} (hi : i < 27) : mdlW.t t i = mdl.t t i := by
  show tru (wenv i) t = tru (env i) t
  rw [wenv_nar hi]
theorem mdlW_a {v : UInt8} {e : Tm} (hv : v = 120 ∨ v = 121 ∨ v = 122) {i : Nat} (hi : i < 27) : mdlW.a v e i = mdl.a v e i := by
  show wasg v e i = asg v e i
  unfold wasg wset asg
  rw [if_neg (by rcases hv with rfl | rfl | rfl <;> decide), wenv_nar hi, show i % 27 = i by omega, show i / 27 = 0 by omega]
  rfl
end Go.Proofs.YtinjmdjnkneidaaGreatDoor
