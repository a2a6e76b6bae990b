/-
  The laws' words on slices of strings: compared, filled with marks, looked at again.
-/
import Derived.Test.YthmikeldlbjblaaGreatDoorTopP
import Derived.Test.YthmikeldlbjblaaGreatDoorStrs
import Derived.Test.YthmikeldlbjblaaGreatDoorTopB
import Derived.BigQuiet
import Derived.Deep.QuietTactic
import Derived.Laws.BytesString
import Derived.Deep.RegionHeld3
namespace Go.Proofs.YthmikeldlbjblaaGreatDoor
open Go.RowKit

/-- The digits of a number. -/
def dg (k : Nat) : List UInt8 := if _h : k = 0 then [] else dg (k / 10) ++ [UInt8.ofNat (48 + k % 10)]
termination_by k
decreasing_by omega
theorem dg_zero : dg 0 = [] := by rw [dg]; simp
theorem dg_pos {k : Nat} (h : 0 < k) : dg k = dg (k / 10) ++ [UInt8.ofNat (48 + k % 10)] := by
  rw [dg]; simp; omega
theorem dg_len (k : Nat) : (dg k).length ≤ k := by
  induction k using Nat.strongRecOn with
  | _ k ih =>
    by_cases h : k = 0
    · subst h; rw [dg_zero]; simp
    · rw [dg_pos (by omega)]
      have := ih (k / 10) (by omega)
      simp; omega
def mkt (k : Nat) : List UInt8 := 109 :: dg k

theorem conv_one (W : World) (c : UInt8) : (convert 132 9 (.slice (some ⟨W.heap.size, 0, none⟩) 1 1)).run Tryz.prog (W.alloc (.cells #[.int .u8 c.toNat] 5)) = .ok (.string (bs [c])) (W.alloc (.cells #[.int .u8 c.toNat] 5)) := by
  rw [run_convert_bytes_string _ _ _ 5 _ _ _ Tryz.underlying132 Tryz.underlying5 Tryz.underlying9]
  rw [run_bytesToString _ _ 1 1 [(c.toNat : Int)] (by simp [go_sem])]
  congr 2
  apply ByteArray.ext
  simp [bs]

theorem row_forms {w : World} {B : Nat} {T : TypeId} {v : Value} {ls : List (List UInt8)} (h : Row w B T v (strs ls)) : ∃ a cap, v = .slice a ls.length cap ∧ ∀ (m : Nat) (hm : m < ls.length), ∃ g, a = some ⟨g, 0, none⟩ ∧ B ≤ g ∧ w.cell? ⟨g, m, none⟩ = some (.string (bs ls[m])) := by
  have hl : (strs ls).length = ls.length := by simp [strs]
  rcases h.cases with ⟨h1, h2⟩ | ⟨g, cap, h1, hb, _, h3⟩
  · have : ls = [] := by
      rw [h2] at hl
      exact List.eq_nil_of_length_eq_zero hl.symm
    subst this
    exact ⟨_, _, h1, fun m hm => by simp at hm⟩
  · rw [hl] at h1
    exact ⟨_, _, h1, fun m hm => ⟨g, rfl, hb, h3 m _ (by simp [strs, List.getElem?_eq_getElem hm])⟩⟩

/-- The marks from k on. -/
def mks (k : Nat) : Nat → List (List UInt8)
  | 0 => []
  | n + 1 => mks k n ++ [mkt (k + n)]
theorem mks_len (k n : Nat) : (mks k n).length = n := by
  induction n with
  | zero => rfl
  | succ n ih => simp [mks, ih]
theorem mks_at (k n m : Nat) (h : m < n) : (mks k n)[m]'(by rw [mks_len]; exact h) = mkt (k + m) := by
  induction n with
  | zero => omega
  | succ n ih =>
    simp only [mks]
    by_cases e : m < n
    · rw [List.getElem_append_left (by rw [mks_len]; exact e)]; exact ih e
    · obtain rfl : m = n := by omega
      rw [List.getElem_append_right (by rw [mks_len]; omega)]; simp [mks_len]
theorem mks_step (k m : Nat) (ls : List (List UInt8)) (h : m < ls.length) : (mks k m ++ ls.drop m).set m (mkt (k + m)) = mks k (m + 1) ++ ls.drop (m + 1) := by
  rw [List.set_append_right _ _ (by rw [mks_len]; omega), mks_len, Nat.sub_self, List.drop_eq_getElem_cons h, List.set_cons_zero]
  simp [mks]

theorem Row.store {w : World} {B : Nat} {T : TypeId} {g n cap : Nat} {xs : List Value} (hn : n = xs.length) (h : Row w B T (.slice (some ⟨g, 0, none⟩) n cap) xs) (j : Nat) (u : Value) : Row (w.setCell ⟨g, j, none⟩ u) B T (.slice (some ⟨g, 0, none⟩) n cap) (xs.set j u) := by
  subst hn
  have := World.ownsRow.stored (show World.ownsRow _ _ _ _ _ _ _ from h) j u
  unfold Row
  rw [List.length_set]
  exact this.1

end Go.Proofs.YthmikeldlbjblaaGreatDoor
