/-
  The closure of a relation: agreeing of all variables is equality, and closed of the program.
-/
import Derived.Test.YtheclmdpiijakaaRv
import Derived.Test.YtheclmdpiijakaaShelf
namespace Go.Proofs.Ytheclmdpiijakaa
open Go.RowKit Go.Great

theorem xyz_has (c : Int) (hc : c = 120 ∨ c = 121 ∨ c = 122) (w : World) : Calls Try.prog 66 #[.string ⟨#[120, 121, 122]⟩, .int .i32 c] w fun e w' => e = .returned (.bool true) ∧ w = w' := by
  rcases hc with rfl | rfl | rfl
  all_goals exact (Try.strings_ContainsRune_ascii _ _ w (by decide) (by decide)).mono fun e w' ⟨h1, h2⟩ => ⟨by rw [h1]; rfl, h2.symm⟩
theorem id_row (k : Nat) : nb 27 (fun j => noR k j || j == k) = nb 27 (idR k) := nb_congr fun j _ => by
  unfold noR idR
  rw [Bool.false_or, Bool.eq_iff_iff, beq_iff_eq, beq_iff_eq]
  exact eq_comm
set_option maxRecDepth 100000 in
set_option maxHeartbeats 8000000 in
theorem agree_any (w : World) : Calls Try.prog 41 #[.string ⟨#[120, 121, 122]⟩] w (RelPost idR w) := by
  obtain ⟨k0, k1, kb, kz⟩ := two_blk w (relC .u32 noR) (relC .u32 noR) 50 50
  have K0 := Lib.hid k0
  have K1 := Lib.hid k1
  have KB := Lib.hid kb
  have X0 := fun w => Lib.hid (xyz_has 120 (by simp) w)
  have X1 := fun w => Lib.hid (xyz_has 121 (by simp) w)
  have X2 := fun w => Lib.hid (xyz_has 122 (by simp) w)
  clear k0 k1 kb kz
  go_enter Try.func41, Try.ntmps41
  go_wp2_with (first
    | (refine r_alloc rfl rfl (some 2) rfl w.heap.size rfl ?_)
    | (refine r_alloc rfl rfl (some 3) rfl (w.heap.size + 1) (by simp) ?_))
  generalize (w.alloc (.cells (relC .u32 noR) 50)).alloc (.cells (relC .u32 noR) 50) = w0 at *
  go_loopw [7] (fun i wr => ∃ k : Nat, k ≤ 27 ∧ i = .int .i64 k ∧ Hid (Blk wr (w.heap.size + 1) (relC .u32 (mixR k idR noR)) 50) ∧ Hid (Blk wr w.heap.size (relC .u32 noR) 50) ∧ Hid (Below w.heap.size w wr)) (fun i _ => 27 - (intOf i).toNat)
  case atStart => exact ⟨0, by omega, rfl, by rw [mixR_zero]; exact K1, K0, KB⟩
  case round =>
    clear K0 K1 KB
    obtain ⟨k, hk, rfl, R1, R0, RB⟩ := hrel
    by_cases hlt : k < 27
    · have c0 := mixR_cell R1.out hlt
      have c1 := R1.out.free k
      have D := fun w => Lib.hid (implWithB (noR k) k w hlt)
      rw [id_row] at D
      have RP := Lib.hid (mixR_put R1.out hlt)
      have S0 := Lib.hid (R0.out.setOther (p := ⟨w.heap.size + 1, k, none⟩) (by show w.heap.size ≠ w.heap.size + 1; omega) (.int .u32 (nb 27 (idR k))))
      have SB := Lib.hid (RB.out.setCell (p := ⟨w.heap.size + 1, k, none⟩) (by show w.heap.size ≤ w.heap.size + 1; omega) (.int .u32 (nb 27 (idR k))))
      go_wp2_with fail
      refine (D _).out.mono ?_
      rintro e w2 ⟨rfl, rfl⟩
      go_wp2_with fail
      obtain ⟨W, hW⟩ : ∃ W, wr.setCell ⟨w.heap.size + 1, k, none⟩ (.int .u32 (nb 27 (idR k))) = W := ⟨_, rfl⟩
      have hz : wr.heap.size = W.heap.size := by rw [← hW]; simp
      rw [hW] at RP S0 SB ⊢
      rw [hz]
      clear hW hz c0 c1 D R1 R0 RB
      have nx0 : ∀ ty, (Instr.next (.pointer (some ⟨W.heap.size, 0, none⟩)) true ty).run Try.prog (W.iter ⟨#[120, 121, 122]⟩ 0) = .ok (.tuple #[.bool true, .int .i64 0, .int .i32 120]) (W.iter ⟨#[120, 121, 122]⟩ 1) := fun ty => by exact run_next_ascii W _ 0 ty (by decide) (by decide)
      have nx1 : ∀ ty, (Instr.next (.pointer (some ⟨W.heap.size, 0, none⟩)) true ty).run Try.prog (W.iter ⟨#[120, 121, 122]⟩ 1) = .ok (.tuple #[.bool true, .int .i64 1, .int .i32 121]) (W.iter ⟨#[120, 121, 122]⟩ 2) := fun ty => by exact run_next_ascii W _ 1 ty (by decide) (by decide)
      have nx2 : ∀ ty, (Instr.next (.pointer (some ⟨W.heap.size, 0, none⟩)) true ty).run Try.prog (W.iter ⟨#[120, 121, 122]⟩ 2) = .ok (.tuple #[.bool true, .int .i64 2, .int .i32 122]) (W.iter ⟨#[120, 121, 122]⟩ 3) := fun ty => by exact run_next_ascii W _ 2 ty (by decide) (by decide)
      have nx3 : ∀ ty, (Instr.next (.pointer (some ⟨W.heap.size, 0, none⟩)) true ty).run Try.prog (W.iter ⟨#[120, 121, 122]⟩ 3) = .ok (.tuple #[.bool false]) (W.iter ⟨#[120, 121, 122]⟩ 3) := fun ty => by exact run_next_end W _ 3 ty (by decide)
      refine wp_loop_rounds 4 ?_
      rw [rounds_succ]
      go_wp2_with fail
      refine (X0 _).out.mono ?_
      rintro e w' ⟨rfl, rfl⟩
      go_wp2_with fail
      rw [rounds_succ]
      go_wp2_with fail
      refine (X1 _).out.mono ?_
      rintro e w' ⟨rfl, rfl⟩
      go_wp2_with fail
      rw [rounds_succ]
      go_wp2_with fail
      refine (X2 _).out.mono ?_
      rintro e w' ⟨rfl, rfl⟩
      go_wp2_with fail
      rw [rounds_succ]
      go_wp2_with fail
      exact ⟨⟨k + 1, by omega, by go_num, Lib.hid (RP.out.alloc _), Lib.hid (S0.out.alloc _), Lib.hid (SB.out.alloc SB.out.size _)⟩, by simp [intOf]; omega⟩
    · have hk2 : k = 27 := by omega
      subst hk2
      have RP := R1.out
      rw [mixR_all] at RP
      replace RP := Lib.hid RP
      go_wp2_with (first
        | (refine wpList_load_row rfl 50 _ rfl (w.heap.size + 1) (by rfl) 50 (relC .u32 idR) (0, 0) _ RP.out undR rfl (infoR _) ?_)
        | (refine wpList_store_row rfl 50 _ _ rfl w.heap.size (relC .u32 idR) (by rfl) (by rfl) 50 (relC .u32 noR) R0.out (infoR _) (by rw [relC_size, relC_size]) (relC_one _ _) ?_))
      exact bodyPost_ret (v := .agg (relC .u32 idR)) (results_cell_row rfl _ _ w.heap.size 50 _ (0, 0) _ (by rfl) (R0.out.row _) undR rfl (infoR _)) rfl ⟨rfl, Below.setRow RB.out (Nat.le_refl _) _⟩
/-- The box of a relation, as a step of a region that draws its order. -/
theorem step_r_alloc {ops : Array Oper} {o : Oper} {a : Act} {w : World} {K : Act → World → Prop} {Q : Exit → Act → World → Prop} {E : Prop} (hgd : o.guard = none) (ho : o.op = .alloc 50) (dst : Option Tmp) (hdst : o.dst = dst) (N : Nat) (hN : w.heap.size = N)
    (h : K (a.put dst (.pointer (some ⟨N, 0, none⟩))) (w.alloc (.cells (relC .u32 noR) 50))) : if Region.wanted o (yielded ops a.tmps) = true then Oper.wp Try.prog o a w K Q else E := by
  rw [if_pos (by simp [Region.wanted, hgd])]
  subst hN hdst
  have hrun : (execOp a.eval o).run Try.prog w = .ok (.value (.pointer (some ⟨w.heap.size, 0, none⟩))) (w.alloc (.cells (relC .u32 noR) 50)) := by
    simp [execOp, ho, Instr.alloc, Result.andThen, go_sem]
    kernel_rfl
  unfold Oper.wp
  rw [hrun, Oper.upon_value]
  exact h
def sumW (w : World) (g : Nat) : Nat → Nat
  | 0 => 0
  | k + 1 => sumW w g k + (match w.cell? ⟨g, k, none⟩ with | some (.int _ n) => n.toNat | _ => 0)
theorem sumW_rel {w : World} {g : Nat} {C : Nat → Nat → Bool} (h : Blk w g (relC .u32 C) 50) : ∀ k, k ≤ 27 → sumW w g k = sumR C k := by
  intro k
  induction k with
  | zero => intro _; rfl
  | succ k ih =>
    intro hk
    unfold sumW sumR
    rw [ih (by omega), rel_cell h (by omega)]
    simp
end Go.Proofs.Ytheclmdpiijakaa
