/-
  spec.l14Find: the index of the first byte c in s, or -1. spec.l1Names.
-/
import Derived.Test.YtpdepihggpfmiabDoorBase
namespace Go.Proofs.YtpdepihggpfmiabDoor
open Go.RowKit

def fnd (l : List UInt8) (c : UInt8) : Int := match l.findIdx? (· == c) with | some i => i | none => -1

theorem fnd_hit {l : List UInt8} {c : UInt8} {i : Nat} (hi : i < l.length) (h : l[i] = c) (hb : ∀ j (_ : j < i), l[j]? ≠ some c) : fnd l c = i := by
  have : l.findIdx? (· == c) = some i := by
    rw [List.findIdx?_eq_some_iff_getElem]
    refine ⟨hi, by simp [h], fun j hj => ?_⟩
    have := hb j hj
    rw [List.getElem?_eq_getElem (by omega)] at this
    simpa using this
  unfold fnd; rw [this]
theorem fnd_miss {l : List UInt8} {c : UInt8} (h : ∀ j : Nat, l[j]? ≠ some c) : fnd l c = -1 := by
  have : l.findIdx? (· == c) = none := by
    rw [List.findIdx?_eq_none_iff]
    intro x hx
    obtain ⟨i, hi, rfl⟩ := List.getElem_of_mem hx
    have := h i
    rw [List.getElem?_eq_getElem hi] at this
    simpa using this
  unfold fnd; rw [this]

set_option maxHeartbeats 1000000 in
theorem find_any (s : ByteArray) (c : UInt8) (w : World) (hs : s.size ≤ maxLen) : Calls Tryd.prog 62 #[.string s, .int .u8 c.toNat] w fun e w' => e = .returned (.int .i64 (fnd s.data.toList c)) ∧ w = w' := by
  unfold maxLen at hs
  go_enter Tryd.func62, Tryd.ntmps62
  go_wp2
  go_loop [5] (fun i => ∃ k : Nat, k ≤ s.size ∧ i = .int .i64 k ∧ Hid (∀ j, j < k → s.data.toList[j]? ≠ some c)) (fun i => s.size - (intOf i).toNat)
  case atStart => exact ⟨0, Nat.zero_le _, rfl, fun j hj => by omega⟩
  case round =>
    obtain ⟨k, hk, rfl, HH⟩ := hrel
    by_cases hlt : k < s.size
    · have hd : Hid (s.data.toList[k]? = some s[k]) := List.getElem?_eq_getElem (by simpa using hlt)
      by_cases hc : s[k] = c
      · have hfin : Hid (fnd s.data.toList c = k) := fnd_hit (by simpa using hlt) hc HH.out
        have ht : ((s[k].toNat : Int) == (c.toNat : Int)) = true := by rw [hc]; simp
        clear hc
        go_wp2
        go_ret
        exact ⟨by rw [hfin.out]; rfl, rfl⟩
      · have ht : ((s[k].toNat : Int) == (c.toNat : Int)) = false := by
          rw [beq_eq_false_iff_ne]; intro e; exact hc (UInt8.toNat_inj.1 (by exact_mod_cast e))
        have H2 : Hid (∀ j, j < k + 1 → s.data.toList[j]? ≠ some c) := fun j hj => by
          by_cases e : j = k
          · subst e; rw [hd.out]; simpa using hc
          · exact HH.out j (by omega)
        clear hc
        go_wp2
        go_round
        case rel => exact ⟨k + 1, by omega, by go_num, H2⟩
        case measure => simp [intOf]; omega
    · have hfin : Hid (fnd s.data.toList c = -1) := fnd_miss fun j => by
        by_cases hj : j < k
        · exact HH.out j hj
        · rw [List.getElem?_eq_none (by simp; omega)]; simp
      go_wp2
      go_ret
      exact ⟨by rw [hfin.out]; rfl, rfl⟩

theorem names_one (w : World) : Calls Tryd.prog 63 #[.bool false] w fun e w' => e = .returned (.string ⟨#[120, 121, 122]⟩) ∧ w = w' := by
  go_enter Tryd.func63, Tryd.ntmps63
  go_wp2
  go_ret
  exact ⟨rfl, rfl⟩
theorem names_two (w : World) : Calls Tryd.prog 63 #[.bool true] w fun e w' => e = .returned (.string ⟨#[120, 121, 122, 88, 89, 90]⟩) ∧ w = w' := by
  go_enter Tryd.func63, Tryd.ntmps63
  go_wp2
  go_ret
  exact ⟨rfl, rfl⟩
end Go.Proofs.YtpdepihggpfmiabDoor
