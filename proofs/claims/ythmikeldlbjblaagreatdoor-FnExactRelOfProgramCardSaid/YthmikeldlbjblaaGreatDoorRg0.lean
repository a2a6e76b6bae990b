/-
  The texts of relations, of the program and of the model.
-/
import Derived.Test.YthmikeldlbjblaaGreatDoorTopG
namespace Go.Proofs.YthmikeldlbjblaaGreatDoor
open Go.RowKit Go.Great

theorem mrel_cell {w : World} {g : Nat} {A : Nat → Nat → Bool} {k : Nat} (h : Blk w g (relC .i64 A) 147) (hk : k < 27) : w.cell? ⟨g, k, none⟩ = some (.int .i64 (nb 27 (A k))) := (h.cell k).trans (relC_get _ _ hk)

set_option maxRecDepth 100000 in
set_option maxHeartbeats 4000000 in
theorem rel_text (A : Nat → Nat → Bool) (w : World) : Calls Tryz.prog 68 #[.agg (relC .u32 A)] w fun e w' => e = .returned (.string (bs (relT A))) ∧ Below w.heap.size w w' := by
  obtain ⟨k0, kb, kz⟩ := one_blk w (relC .u32 A) 97
  have K0 := Lib.hid k0
  have KB := Lib.hid kb
  clear k0 kb kz
  go_enter Tryz.func68, Tryz.ntmps68
  go_wp2_with (first
    | (refine wpList_boxTo rfl 97 _ rfl (some 1) rfl w.heap.size rfl (relC .u32 A) (by rfl) ?_)
    | (refine wpList_load_row rfl 97 _ rfl w.heap.size (by rfl) 97 (relC .u32 A) (0, 0) _ K0.out undR rfl (infoR _) ?_))
  generalize w.alloc (.cells (relC .u32 A) 97) = w0 at *
  go_loopw [3, 7] (fun s i wr => ∃ k : Nat, k ≤ 27 ∧ i = .int .i64 k ∧ s = .string (bs (rowsT A k)) ∧ Hid (Below w.heap.size w wr)) (fun _ i _ => 27 - (intOf i).toNat)
  case atStart => exact ⟨0, by omega, rfl, rfl, KB⟩
  case round =>
    clear K0 KB
    obtain ⟨k, hk, rfl, rfl, RB⟩ := hrel
    by_cases hlt : k < 27
    · have HI := r_index A k hlt
      have C := fun w => Lib.hid (implText (A k) w)
      have hs1 : (bs (rowsT A k)).size = 27 * k := by rw [bs_size, rowsT_len]
      have hs2 : (bs (tb (A k))).size = 27 := by rw [bs_size, tb, tbn_length]
      have hs3 : ¬ (9223372036854775807 < (bs (rowsT A k)).size + (bs (tb (A k))).size) := by omega
      have HS1 := Lib.hid hs1
      have HS2 := Lib.hid hs2
      have HA := Lib.hid (bs_append (rowsT A k) (tb (A k)))
      clear hs1 hs2
      go_wp2_with fail
      refine (C _).out.mono ?_
      rintro e w2 ⟨rfl, hb⟩
      replace RB := Lib.hid (bnext RB.out hb)
      clear hb
      go_wp2_with fail
      exact ⟨⟨k + 1, by omega, by go_num, by rw [HA.out]; rfl, RB⟩, by simp [intOf]; omega⟩
    · have hk2 : k = 27 := by omega
      subst hk2
      go_wp2_with fail
      go_ret
      exact ⟨rfl, RB.out⟩


set_option maxRecDepth 100000 in
set_option maxHeartbeats 4000000 in
theorem specRText (A : Nat → Nat → Bool) (w : World) : Calls Tryz.prog 66 #[.agg (relC .i64 A)] w fun e w' => e = .returned (.string (bs (relT A))) ∧ Below w.heap.size w w' := by
  obtain ⟨k0, kb, kz⟩ := one_blk w (relC .i64 A) 147
  have K0 := Lib.hid k0
  have KB := Lib.hid kb
  clear k0 kb kz
  go_enter Tryz.func66, Tryz.ntmps66
  go_wp2_with (refine wpList_boxTo rfl 147 _ rfl (some 1) rfl w.heap.size rfl (relC .i64 A) (by rfl) ?_)
  generalize w.alloc (.cells (relC .i64 A) 147) = w0 at *
  go_loopw [3, 4] (fun s i wr => ∃ k : Nat, k ≤ 27 ∧ i = .int .i64 k ∧ s = .string (bs (rowsT A k)) ∧ Hid (Blk wr w.heap.size (relC .i64 A) 147) ∧ Hid (Below w.heap.size w wr)) (fun _ i _ => 27 - (intOf i).toNat)
  case atStart => exact ⟨0, by omega, rfl, rfl, K0, KB⟩
  case round =>
    clear K0 KB
    obtain ⟨k, hk, rfl, rfl, R0, RB⟩ := hrel
    by_cases hlt : k < 27
    · have c0 := mrel_cell R0.out hlt
      have C := fun w => Lib.hid (specTextS (A k) w)
      have hs1 : (bs (rowsT A k)).size = 27 * k := by rw [bs_size, rowsT_len]
      have hs2 : (bs (tb (A k))).size = 27 := by rw [bs_size, tb, tbn_length]
      have hs3 : ¬ (9223372036854775807 < (bs (rowsT A k)).size + (bs (tb (A k))).size) := by omega
      have HA := Lib.hid (bs_append (rowsT A k) (tb (A k)))
      clear hs1 hs2
      go_wp2_with fail
      refine (C _).out.mono ?_
      rintro e w2 ⟨rfl, hb⟩
      replace RB := Lib.hid (bnext RB.out hb)
      replace R0 := Lib.hid (R0.out.kept hb)
      clear hb c0
      go_wp2_with fail
      exact ⟨⟨k + 1, by omega, by go_num, by rw [HA.out]; rfl, R0, RB⟩, by simp [intOf]; omega⟩
    · have hk2 : k = 27 := by omega
      subst hk2
      go_wp2_with fail
      go_ret
      exact ⟨rfl, RB.out⟩

end Go.Proofs.YthmikeldlbjblaaGreatDoor
