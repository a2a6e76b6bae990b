/-
  The laws' own ppHas, for a text of one byte.
-/
import Derived.Test.YtegbjnpnchidkaaBytes
namespace Go.Proofs.Ytegbjnpnchidkaa
open Go.RowKit

theorem ext1 (s : ByteArray) (i : Nat) (h : i < s.size) : s.extract i (i + 1) = ⟨#[s[i]]⟩ := by
  apply ByteArray.ext
  rw [ByteArray.data_extract]
  apply Array.ext
  · simp; have : s.data.size = s.size := rfl; omega
  · intro j h1 h2
    simp at h2
    subst h2
    simp; rfl

set_option maxHeartbeats 1000000 in
/-- ppHas(s, v) for a text v of one byte. -/
theorem has_any (s : ByteArray) (c : UInt8) (w : World) (hs : s.size ≤ 1000000) : Calls Try.prog 16 #[.string s, .string ⟨#[c]⟩] w fun e w' => e = .returned (.bool (decide (c ∈ s.data.toList))) ∧ w = w' := by
  obtain ⟨R, hR⟩ : ∃ R, decide (c ∈ s.data.toList) = R := ⟨_, rfl⟩
  have HR := Lib.hid hR
  rw [hR]
  clear hR
  go_enter Try.func16, Try.ntmps16
  go_wp2
  go_loop [5] (fun i => ∃ k : Nat, k ≤ s.size ∧ i = .int .i64 k ∧ Hid (∀ j, j < k → s.data.toList[j]? ≠ some c)) (fun i => s.size - (intOf i).toNat)
  case atStart => exact ⟨0, Nat.zero_le _, rfl, fun j hj => by omega⟩
  case round =>
    obtain ⟨k, hk, rfl, HH⟩ := hrel
    by_cases hlt : k < s.size
    · have hd : Hid (s.data.toList[k]? = some s[k]) := List.getElem?_eq_getElem (by simpa using hlt)
      have h1 : (k : Int) ≤ (s.size : Int) := by omega
      have h2 : (k : Int) + 1 ≤ (s.size : Int) := by omega
      by_cases hc : s[k] = c
      · have hfin : Hid (R = true) := HR.out.symm.trans <| decide_eq_true (List.mem_of_getElem? (hd.out.trans (by rw [hc])))
        have ht : ((s.extract k (k + 1)).toList == [c]) = true := by rw [ByteArray.toList_eq, ext1 s k hlt, hc]; simp
        clear hc
        go_wp2
        go_ret
        exact ⟨by rw [hfin.out]; rfl, rfl⟩
      · have ht : ((s.extract k (k + 1)).toList == [c]) = false := by
          rw [ByteArray.toList_eq, ext1 s k hlt]
          simpa using hc
        have H2 : Hid (∀ j, j < k + 1 → s.data.toList[j]? ≠ some c) := fun j hj => by
          by_cases e : j = k
          · subst e; rw [hd.out]; simpa using hc
          · exact HH.out j (by omega)
        clear hc
        go_wp2
        go_round
        case rel => exact ⟨k + 1, by omega, by go_num, H2⟩
        case measure => simp [intOf]; omega
    · have hfin : Hid (R = false) := HR.out.symm.trans <| decide_eq_false fun hm => by
        obtain ⟨j, hj, e⟩ := List.getElem_of_mem hm
        exact HH.out j (by simp at hj; have : s.data.size = s.size := rfl; omega) (by rw [List.getElem?_eq_getElem hj, e])
      go_wp2
      go_ret
      exact ⟨by rw [hfin.out]; rfl, rfl⟩
end Go.Proofs.Ytegbjnpnchidkaa
