/-
  CloseRel of the program and of the model.
-/
import Derived.Test.YtheclmdpiijakaaRd3
namespace Go.Proofs.Ytheclmdpiijakaa
open Go.RowKit Go.Great

theorem or_row (T : Nat → Nat → Bool) (k : Nat) : nb 27 (fun j => T k j || j == k) = nb 27 (orR T idR k) := nb_congr fun j _ => by
  unfold orR idR
  congr 1
  rw [Bool.eq_iff_iff, beq_iff_eq, beq_iff_eq]
  exact eq_comm
def boxOf : Value → Nat
  | .pointer (some a) => a.block
  | _ => 0
/-- One if the rows of two boxes differ. -/
noncomputable def neW (w : World) (v : Value) (g : Nat) : Nat := @ite _ (∀ k, k < 27 → w.cell? ⟨boxOf v, k, none⟩ = w.cell? ⟨g, k, none⟩) (Classical.propDecidable _) 0 1
theorem neW_le (w : World) (v : Value) (g : Nat) : neW w v g ≤ 1 := by
  unfold neW
  by_cases h : ∀ k, k < 27 → w.cell? ⟨boxOf v, k, none⟩ = w.cell? ⟨g, k, none⟩
  · rw [if_pos h]; omega
  · rw [if_neg h]; exact Nat.le_refl _
theorem sumM_rel {w : World} {g : Nat} {C : Nat → Nat → Bool} (h : Blk w g (relC .i64 C) 57) : ∀ k, k ≤ 27 → sumW w g k = sumR C k := by
  intro k
  induction k with
  | zero => intro _; rfl
  | succ k ih =>
    intro hk
    unfold sumW sumR
    rw [ih (by omega), mrel_cell h (by omega)]
    simp
theorem neW_same {w : World} {b g : Nat} {B C : Nat → Nat → Bool} (hB : Blk w b (relC .i64 B) 57) (hC : Blk w g (relC .i64 C) 57) (h : relEq B C = true) : neW w (.pointer (some ⟨b, 0, none⟩)) g = 0 := by
  unfold neW
  rw [if_pos]
  intro k hk
  rw [show boxOf (.pointer (some ⟨b, 0, none⟩)) = b from rfl, mrel_cell hB hk, mrel_cell hC hk, nb_congr fun j hj => relEq_iff.1 h k hk j hj]
theorem neW_diff {w : World} {b g : Nat} {B C : Nat → Nat → Bool} (hB : Blk w b (relC .i64 B) 57) (hC : Blk w g (relC .i64 C) 57) (h : relEq B C = false) : neW w (.pointer (some ⟨b, 0, none⟩)) g = 1 := by
  unfold neW
  rw [if_neg]
  intro hn
  have : relEq B C = true := relEq_iff.2 fun i hi j hj => by
    have e := hn i hi
    rw [show boxOf (.pointer (some ⟨b, 0, none⟩)) = b from rfl, mrel_cell hB hi, mrel_cell hC hi] at e
    have e2 : nb 27 (B i) = nb 27 (C i) := by simp at e; exact Int.ofNat_inj.1 e
    exact nb_inj e2 j hj
  rw [h] at this; cases this
theorem sumR_congr {A B : Nat → Nat → Bool} (h : relEq A B = true) : ∀ k, k ≤ 27 → sumR A k = sumR B k := by
  intro k
  induction k with
  | zero => intro _; rfl
  | succ k ih =>
    intro hk
    unfold sumR
    rw [ih (by omega), nb_congr fun j hj => relEq_iff.1 h k (by omega) j hj]
theorem relEq_self (A : Nat → Nat → Bool) : relEq A A = true := relEq_iff.2 fun _ _ _ _ => rfl
/-- What is known of the two relations between two rounds. -/
structure ClTwo (T B C : Nat → Nat → Bool) : Prop where
  inv : ClInv T C
  last : relEq B C = true → relEq (compR C C) C = true
theorem ClTwo.start (T : Nat → Nat → Bool) : ClTwo T noR (orR T idR) := ⟨ClInv.start T, fun h => by
  have := relEq_iff.1 h 0 (by omega) 0 (by omega)
  simp [noR, orR, idR] at this⟩
theorem ClTwo.step {T B C : Nat → Nat → Bool} (h : ClTwo T B C) : ClTwo T C (compR C C) := ⟨h.inv.step, fun e => relEq_iff.2 fun i hi j hj => by
  have e' := relEq_iff.1 e
  rw [Bool.eq_iff_iff, compR_iff, compR_iff]
  exact ⟨fun ⟨q, hq, h1, h2⟩ => ⟨q, hq, by rw [e' i hi q hq]; exact h1, by rw [e' q hq j hj]; exact h2⟩, fun ⟨q, hq, h1, h2⟩ => ⟨q, hq, by rw [← e' i hi q hq]; exact h1, by rw [← e' q hq j hj]; exact h2⟩⟩⟩

end Go.Proofs.Ytheclmdpiijakaa
