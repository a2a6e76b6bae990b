/-
  The closure of a relation: agreeing of all variables is equality, and closed of the program.
-/
import Derived.Test.YtheclmdpiijakaaDoorRv
import Derived.Test.YtheclmdpiijakaaDoorShelf
namespace Go.Proofs.YtheclmdpiijakaaDoor
open Go.RowKit Go.Great

theorem id_row (k : Nat) : nb 27 (fun j => noR k j || j == k) = nb 27 (idR k) := nb_congr fun j _ => by
  unfold noR idR
  rw [Bool.false_or, Bool.eq_iff_iff, beq_iff_eq, beq_iff_eq]
  exact eq_comm
/-- The box of a relation, as a step of a region that draws its order. -/
theorem step_r_alloc {ops : Array Oper} {o : Oper} {a : Act} {w : World} {K : Act → World → Prop} {Q : Exit → Act → World → Prop} {E : Prop} (hgd : o.guard = none) (ho : o.op = .alloc 57) (dst : Option Tmp) (hdst : o.dst = dst) (N : Nat) (hN : w.heap.size = N)
    (h : K (a.put dst (.pointer (some ⟨N, 0, none⟩))) (w.alloc (.cells (relC .u32 noR) 57))) : if Region.wanted o (yielded ops a.tmps) = true then Oper.wp Tryd.prog o a w K Q else E := by
  rw [if_pos (by simp [Region.wanted, hgd])]
  subst hN hdst
  have hrun : (execOp a.eval o).run Tryd.prog w = .ok (.value (.pointer (some ⟨w.heap.size, 0, none⟩))) (w.alloc (.cells (relC .u32 noR) 57)) := by
    simp [execOp, ho, Instr.alloc, Result.andThen, go_sem]
    kernel_rfl
  unfold Oper.wp
  rw [hrun, Oper.upon_value]
  exact h
def sumW (w : World) (g : Nat) : Nat → Nat
  | 0 => 0
  | k + 1 => sumW w g k + (match w.cell? ⟨g, k, none⟩ with | some (.int _ n) => n.toNat | _ => 0)
theorem sumW_rel {w : World} {g : Nat} {C : Nat → Nat → Bool} (h : Blk w g (relC .u32 C) 57) : ∀ k, k ≤ 27 → sumW w g k = sumR C k := by
  intro k
  induction k with
  | zero => intro _; rfl
  | succ k ih =>
    intro hk
    unfold sumW sumR
    rw [ih (by omega), rel_cell h (by omega)]
    simp
end Go.Proofs.YtheclmdpiijakaaDoor
