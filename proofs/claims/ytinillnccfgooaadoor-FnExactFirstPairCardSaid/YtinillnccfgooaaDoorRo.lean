/-
  The methods of a relation of the program: and, or, not, text, image, shadow, count, turned, then.
-/
import Derived.Test.YtinillnccfgooaaDoorRd2
import Derived.Test.YtinillnccfgooaaDoorSetX
import Derived.Test.YtinillnccfgooaaDoorSetC
namespace Go.Proofs.YtinillnccfgooaaDoor
open Go.RowKit Go.Great

theorem u_and (F G : Nat → Bool) : bits .and .u32 (nb 27 F : Nat) (nb 27 G : Nat) = (nb 27 (fun i => F i && G i) : Nat) := by
  have h := nb_lt27 F; have h' := nb_lt27 G
  rw [u32_and_nat _ _ (by omega) (by omega), nb_and]
theorem u_or (F G : Nat → Bool) : bits .or .u32 (nb 27 F : Nat) (nb 27 G : Nat) = (nb 27 (fun i => F i || G i) : Nat) := by
  have h := nb_lt27 F; have h' := nb_lt27 G
  rw [u32_or_nat _ _ (by omega) (by omega), nb_or2]
theorem mixR_cell {w : World} {g : Nat} {A B : Nat → Nat → Bool} {k : Nat} (h : Blk w g (relC .u32 (mixR k A B)) 75) (hk : k < 27) : w.cell? ⟨g, k, none⟩ = some (.int .u32 (nb 27 (B k))) := (h.cell k).trans (mixR_at hk)
theorem rel_cell {w : World} {g : Nat} {A : Nat → Nat → Bool} {k : Nat} (h : Blk w g (relC .u32 A) 75) (hk : k < 27) : w.cell? ⟨g, k, none⟩ = some (.int .u32 (nb 27 (A k))) := (h.cell k).trans (relC_get _ _ hk)
theorem mixR_put {w : World} {g : Nat} {A B : Nat → Nat → Bool} {k : Nat} (h : Blk w g (relC .u32 (mixR k A B)) 75) (hk : k < 27) : Blk (w.setCell ⟨g, k, none⟩ (.int .u32 (nb 27 (A k)))) g (relC .u32 (mixR (k + 1) A B)) 75 := by
  have := h.set k (.int .u32 (nb 27 (A k)))
  rwa [mixR_step hk] at this

set_option maxRecDepth 100000 in
set_option maxHeartbeats 4000000 in
theorem rel_text (A : Nat → Nat → Bool) (w : World) : Calls Tryd.prog 65 #[.agg (relC .u32 A)] w fun e w' => e = .returned (.string (bs (relT A))) ∧ Below w.heap.size w w' := by
  obtain ⟨k0, kb, kz⟩ := one_blk w (relC .u32 A) 75
  have K0 := Lib.hid k0
  have KB := Lib.hid kb
  clear k0 kb kz
  go_enter Tryd.func65, Tryd.ntmps65
  go_wp2_with (first
    | (refine wpList_boxTo rfl 75 _ rfl (some 1) rfl w.heap.size rfl (relC .u32 A) (by rfl) ?_)
    | (refine wpList_load_row rfl 75 _ rfl w.heap.size (by rfl) 75 (relC .u32 A) (0, 0) _ K0.out undR rfl (infoR _) ?_))
  generalize w.alloc (.cells (relC .u32 A) 75) = w0 at *
  go_loopw [3, 7] (fun s i wr => ∃ k : Nat, k ≤ 27 ∧ i = .int .i64 k ∧ s = .string (bs (rowsT A k)) ∧ Hid (Below w.heap.size w wr)) (fun _ i _ => 27 - (intOf i).toNat)
  case atStart => exact ⟨0, by omega, rfl, rfl, KB⟩
  case round =>
    clear K0 KB
    obtain ⟨k, hk, rfl, rfl, RB⟩ := hrel
    by_cases hlt : k < 27
    · have HI := r_index A k hlt
      have C := fun w => Lib.hid (implText (A k) w)
      have hs1 : (bs (rowsT A k)).size = 27 * k := by rw [bs_size, rowsT_len]
      have hs2 : (bs (tb (A k))).size = 27 := by rw [bs_size, tb, tbn_length]
      have hs3 : ¬ (9223372036854775807 < (bs (rowsT A k)).size + (bs (tb (A k))).size) := by omega
      have HS1 := Lib.hid hs1
      have HS2 := Lib.hid hs2
      have HA := Lib.hid (bs_append (rowsT A k) (tb (A k)))
      clear hs1 hs2
      go_wp2_with fail
      refine (C _).out.mono ?_
      rintro e w2 ⟨rfl, hb⟩
      replace RB := Lib.hid (bnext RB.out hb)
      clear hb
      go_wp2_with fail
      exact ⟨⟨k + 1, by omega, by go_num, by rw [HA.out]; rfl, RB⟩, by simp [intOf]; omega⟩
    · have hk2 : k = 27 := by omega
      subst hk2
      go_wp2_with fail
      go_ret
      exact ⟨rfl, RB.out⟩

/-- How many pairs the first rows have. -/
def cntR (A : Nat → Nat → Bool) : Nat → Nat
  | 0 => 0
  | k + 1 => cntR A k + cnt 27 (A k)
theorem cntR_le (A : Nat → Nat → Bool) (k : Nat) : cntR A k ≤ 27 * k := by
  induction k with
  | zero => exact Nat.le_refl _
  | succ k ih => have := cnt_le 27 (A k); unfold cntR; omega

end Go.Proofs.YtinillnccfgooaaDoor
