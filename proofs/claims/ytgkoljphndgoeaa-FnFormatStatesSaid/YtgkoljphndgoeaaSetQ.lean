/-
  Plain mathematics of sets that are made number by number. Nothing of the program stands here.
-/
import Derived.Test.YtgkoljphndgoeaaSetP
namespace Go.Proofs.Ytgkoljphndgoeaa

/-- The numbers of a set below k. -/
def lowF (F : Nat → Bool) (k : Nat) : Nat → Bool := fun i => decide (i < k) && F i
theorem lowF_zero (F : Nat → Bool) : nb 27 (lowF F 0) = 0 := nb_zero 27 (fun i _ => by simp [lowF])
theorem lowF_one {F : Nat → Bool} {k : Nat} (h : F k = true) : nb 27 (fun j => lowF F k j || j == k) = nb 27 (lowF F (k + 1)) := nb_congr fun i _ => by
  unfold lowF
  by_cases e : i = k
  · subst e; simp [h]
  · by_cases h2 : i < k
    · have h3 : i < k + 1 := by omega
      simp [h2, h3, e]
    · have h3 : ¬ i < k + 1 := by omega
      simp [h2, h3, e]
theorem lowF_nil {F : Nat → Bool} {k : Nat} (h : F k = false) : nb 27 (lowF F k) = nb 27 (lowF F (k + 1)) := nb_congr fun i _ => by
  unfold lowF
  by_cases e : i = k
  · subst e; simp [h]
  · by_cases h2 : i < k
    · have h3 : i < k + 1 := by omega
      simp [h2, h3]
    · have h3 : ¬ i < k + 1 := by omega
      simp [h2, h3]
theorem lowF_all (F : Nat → Bool) : nb 27 (lowF F 27) = nb 27 F := nb_congr fun i hi => by simp [lowF, hi]

/-- The numbers that those of a set below k become by a step. -/
def imgF (F : Nat → Bool) (st : Nat → Nat) (k : Nat) : Nat → Bool := fun j => (List.range k).any fun i => F i && st i == j
theorem imgF_zero (F : Nat → Bool) (st : Nat → Nat) : nb 27 (imgF F st 0) = 0 := nb_zero 27 (fun i _ => by simp [imgF])
theorem imgF_succ (F : Nat → Bool) (st : Nat → Nat) (k j : Nat) : imgF F st (k + 1) j = (imgF F st k j || (F k && st k == j)) := by
  simp [imgF, List.range_succ]
theorem imgF_one {F : Nat → Bool} {st : Nat → Nat} {k : Nat} (h : F k = true) : nb 27 (fun j => imgF F st k j || j == st k) = nb 27 (imgF F st (k + 1)) := nb_congr fun i _ => by
  rw [imgF_succ, h, Bool.true_and]
  congr 1
  rw [Bool.eq_iff_iff, beq_iff_eq, beq_iff_eq]; exact eq_comm
theorem imgF_nil {F : Nat → Bool} {st : Nat → Nat} {k : Nat} (h : F k = false) : nb 27 (imgF F st k) = nb 27 (imgF F st (k + 1)) := nb_congr fun i _ => by
  rw [imgF_succ, h, Bool.false_and, Bool.or_false]
end Go.Proofs.Ytgkoljphndgoeaa
