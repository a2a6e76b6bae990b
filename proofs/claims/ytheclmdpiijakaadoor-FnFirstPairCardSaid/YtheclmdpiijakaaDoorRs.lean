/-
  The model's relations: read, shown, turned, composed.
-/
import Derived.Test.YtheclmdpiijakaaDoorTopG
import Derived.Test.YtheclmdpiijakaaDoorSetJ
namespace Go.Proofs.YtheclmdpiijakaaDoor
open Go.RowKit Go.Great

def MPost (T : Nat → Nat → Bool) (w : World) (e : Ending) (w' : World) : Prop := e = .returned (.agg (relC .i64 T)) ∧ Below w.heap.size w w'
theorem mixM_cell {w : World} {g : Nat} {A B : Nat → Nat → Bool} {k : Nat} (h : Blk w g (relC .i64 (mixR k A B)) 62) (hk : k < 27) : w.cell? ⟨g, k, none⟩ = some (.int .i64 (nb 27 (B k))) := (h.cell k).trans (mixR_at hk)
theorem mrel_cell {w : World} {g : Nat} {A : Nat → Nat → Bool} {k : Nat} (h : Blk w g (relC .i64 A) 62) (hk : k < 27) : w.cell? ⟨g, k, none⟩ = some (.int .i64 (nb 27 (A k))) := (h.cell k).trans (relC_get _ _ hk)
theorem mixM_put {w : World} {g : Nat} {A B : Nat → Nat → Bool} {k : Nat} (h : Blk w g (relC .i64 (mixR k A B)) 62) (hk : k < 27) : Blk (w.setCell ⟨g, k, none⟩ (.int .i64 (nb 27 (A k)))) g (relC .i64 (mixR (k + 1) A B)) 62 := by
  have := h.set k (.int .i64 (nb 27 (A k)))
  rwa [mixR_step hk] at this
theorem rows_at2 (k : Nat) (hk : k < 27) : (0 : Int) ≤ 27 * (k : Int) ∧ 27 * (k : Int) ≤ 27 * (k : Int) + 27 ∧ 27 * (k : Int) + 27 ≤ 729 := by omega

set_option maxRecDepth 100000 in
set_option maxHeartbeats 4000000 in
theorem specRText (A : Nat → Nat → Bool) (w : World) : Calls Tryd.prog 37 #[.agg (relC .i64 A)] w fun e w' => e = .returned (.string (bs (relT A))) ∧ Below w.heap.size w w' := by
  obtain ⟨k0, kb, kz⟩ := one_blk w (relC .i64 A) 62
  have K0 := Lib.hid k0
  have KB := Lib.hid kb
  clear k0 kb kz
  go_enter Tryd.func37, Tryd.ntmps37
  go_wp2_with (refine wpList_boxTo rfl 62 _ rfl (some 1) rfl w.heap.size rfl (relC .i64 A) (by rfl) ?_)
  generalize w.alloc (.cells (relC .i64 A) 62) = w0 at *
  go_loopw [3, 4] (fun s i wr => ∃ k : Nat, k ≤ 27 ∧ i = .int .i64 k ∧ s = .string (bs (rowsT A k)) ∧ Hid (Blk wr w.heap.size (relC .i64 A) 62) ∧ Hid (Below w.heap.size w wr)) (fun _ i _ => 27 - (intOf i).toNat)
  case atStart => exact ⟨0, by omega, rfl, rfl, K0, KB⟩
  case round =>
    clear K0 KB
    obtain ⟨k, hk, rfl, rfl, R0, RB⟩ := hrel
    by_cases hlt : k < 27
    · have c0 := mrel_cell R0.out hlt
      have C := fun w => Lib.hid (specTextS (A k) w)
      have hs1 : (bs (rowsT A k)).size = 27 * k := by rw [bs_size, rowsT_len]
      have hs2 : (bs (tb (A k))).size = 27 := by rw [bs_size, tb, tbn_length]
      have hs3 : ¬ (9223372036854775807 < (bs (rowsT A k)).size + (bs (tb (A k))).size) := by omega
      have HA := Lib.hid (bs_append (rowsT A k) (tb (A k)))
      clear hs1 hs2
      go_wp2_with fail
      refine (C _).out.mono ?_
      rintro e w2 ⟨rfl, hb⟩
      replace RB := Lib.hid (bnext RB.out hb)
      replace R0 := Lib.hid (R0.out.kept hb)
      clear hb c0
      go_wp2_with fail
      exact ⟨⟨k + 1, by omega, by go_num, by rw [HA.out]; rfl, R0, RB⟩, by simp [intOf]; omega⟩
    · have hk2 : k = 27 := by omega
      subst hk2
      go_wp2_with fail
      go_ret
      exact ⟨rfl, RB.out⟩

/-- The first k rows of a composition, and row k as far as its first m states lead. -/
def compP (A B : Nat → Nat → Bool) (k m : Nat) : Nat → Nat → Bool := setR (mixR k (compR A B) noR) k (postS (A k) B m)
theorem compP_zero (A B : Nat → Nat → Bool) (k : Nat) : relC .i64 (compP A B k 0) = relC .i64 (mixR k (compR A B) noR) := relC_congr fun i _ j _ => by
  unfold compP setR
  by_cases e : i = k
  · subst e; simp [mixR, noR, postS, upto_zero]
  · rw [if_neg e]
theorem compP_at {A B : Nat → Nat → Bool} {k m : Nat} (hk : k < 27) : (relC .i64 (compP A B k m))[k]? = some (.int .i64 (nb 27 (postS (A k) B m))) := by
  rw [relC_get _ _ hk]
  simp [compP, setR]
theorem compP_set {A B : Nat → Nat → Bool} {k m n : Nat} (hk : k < 27) : (relC .i64 (compP A B k m)).setIfInBounds k (.int .i64 (nb 27 (postS (A k) B n))) = relC .i64 (compP A B k n) := by
  rw [relC_set hk]
  refine relC_congr fun i _ j _ => ?_
  unfold compP setR
  by_cases e : i = k
  · rw [if_pos e, if_pos e]
  · rw [if_neg e, if_neg e, if_neg e]
theorem compP_done {A B : Nat → Nat → Bool} {k : Nat} : relC .i64 (compP A B k 27) = relC .i64 (mixR (k + 1) (compR A B) noR) := relC_congr fun i _ j _ => by
  unfold compP setR mixR
  by_cases e : i = k
  · subst e; simp [compR_post]
  · rw [if_neg e]
    by_cases h : i < k
    · have h2 : i < k + 1 := by omega
      simp [h, h2]
    · have h2 : ¬ i < k + 1 := by omega
      simp [h, h2]

end Go.Proofs.YtheclmdpiijakaaDoor
