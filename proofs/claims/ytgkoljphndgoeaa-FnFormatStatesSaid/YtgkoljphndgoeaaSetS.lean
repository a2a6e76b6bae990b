/-
  The model's functions on texts of bits.
-/
import Derived.Test.YtgkoljphndgoeaaByt
import Derived.Test.YtgkoljphndgoeaaSetP
namespace Go.Proofs.Ytgkoljphndgoeaa
open Go.RowKit

theorem byte_int' {c d : UInt8} (h : c ≠ d) : ((c.toNat : Int) == (d.toNat : Int)) = false := by
  rw [beq_eq_false_iff_ne]; intro e
  exact h (UInt8.toNat_inj.1 (by omega))
theorem byte_nb {c d : UInt8} (h : c ≠ d) : ((c.toNat : Int) != (d.toNat : Int)) = true := by rw [bne, byte_int' h]; rfl

theorem hs_int (s : ByteArray) (k : Nat) (hk : k < s.size) : hs s.data.toList k = ((s[k].toNat : Int) == 49) := by
  unfold hs
  rw [List.getElem?_eq_getElem (by simpa using hk)]
  show (some s[k] == some 49) = _
  rw [Bool.eq_iff_iff, beq_iff_eq, beq_iff_eq]
  constructor
  · intro h; injection h with h; rw [h]; rfl
  · intro h
    have e : (49 : UInt8).toNat = 49 := rfl
    rw [show s[k] = 49 from UInt8.toNat_inj.1 (by omega)]

set_option maxHeartbeats 2000000 in
theorem specBits_yes (s : ByteArray) (n : Nat) (w : World) (hv : Bits n s.data.toList) (hn : n ≤ 1000000) : Calls Try.prog 23 #[.string s, .int .i64 n] w fun e w' => e = .returned (.bool true) ∧ w = w' := by
  have hs : s.size = n := by have := hv.1; simpa using this
  have HV := Lib.hid hv
  clear hv
  go_enter Try.func23, Try.ntmps23
  go_wp2_with fail
  go_loop [5] (fun i => ∃ k : Nat, k ≤ n ∧ i = .int .i64 k) (fun i => n - (intOf i).toNat)
  case atStart => exact ⟨0, by omega, rfl⟩
  case round =>
    obtain ⟨k, hk, rfl⟩ := hrel
    by_cases hlt : k < n
    · have hk2 : k < s.size := by omega
      have hd : s[k] = 48 ∨ s[k] = 49 := HV.out.2 k (by simpa using hk2)
      rcases hd with hc | hc
      · have b0 : (s[k].toNat : Int) = 48 := by rw [hc]; rfl
        clear hc
        go_wp2_with fail
        exact ⟨⟨k + 1, by omega, by go_num⟩, by simp [intOf]; omega⟩
      · have b0 : (s[k].toNat : Int) = 49 := by rw [hc]; rfl
        clear hc
        go_wp2_with fail
        exact ⟨⟨k + 1, by omega, by go_num⟩, by simp [intOf]; omega⟩
    · have hk2 : k = n := by omega
      subst hk2
      go_wp2_with fail
      go_ret
      exact ⟨rfl, rfl⟩

set_option maxHeartbeats 2000000 in
theorem specBit (b : Bool) (w : World) : Calls Try.prog 42 #[.bool b] w fun e w' => e = .returned (.int .u8 (bitc b).toNat) ∧ w = w' := by
  cases b
  all_goals
    go_enter Try.func42, Try.ntmps42
    go_wp2_with fail
    go_ret
    exact ⟨rfl, rfl⟩

set_option maxHeartbeats 2000000 in
theorem specBits_no (s : ByteArray) (n : Nat) (w : World) (hv : ¬ Bits n s.data.toList) (hm : s.size ≤ maxLen) (_hn : n ≤ 1000000) : Calls Try.prog 23 #[.string s, .int .i64 n] w fun e w' => e = .returned (.bool false) ∧ w = w' := by
  unfold maxLen at hm
  have HV := Lib.hid hv
  clear hv
  go_enter Try.func23, Try.ntmps23
  go_wp2_with fail
  go_loop [5] (fun i => ∃ k : Nat, k ≤ s.size ∧ i = .int .i64 k ∧ ∀ j (hj : j < s.size), j < k → s[j] = 48 ∨ s[j] = 49) (fun i => s.size - (intOf i).toNat)
  case atStart => exact ⟨0, by omega, rfl, fun j _ hj => by omega⟩
  case round =>
    obtain ⟨k, hk, rfl, hok⟩ := hrel
    have HO := Lib.hid hok
    clear hok
    by_cases hk2 : k < s.size
    · by_cases hd : s[k] = 48 ∨ s[k] = 49
      · have N : Hid (∀ j (hj : j < s.size), j < k + 1 → s[j] = 48 ∨ s[j] = 49) := fun j hj h => by
          rcases Nat.lt_succ_iff_lt_or_eq.1 h with h | h
          · exact HO.out j hj h
          · subst h; exact hd
        rcases hd with hc | hc
        · have b0 : (s[k].toNat : Int) = 48 := by rw [hc]; rfl
          clear hc
          go_wp2_with fail
          exact ⟨⟨k + 1, by omega, by go_num, N.out⟩, by simp [intOf]; omega⟩
        · have b0 : (s[k].toNat : Int) = 49 := by rw [hc]; rfl
          clear hc
          go_wp2_with fail
          exact ⟨⟨k + 1, by omega, by go_num, N.out⟩, by simp [intOf]; omega⟩
      · have n0 : ((s[k].toNat : Int) != 48) = true := byte_nb (d := 48) fun h => hd (.inl h)
        have n1 : ((s[k].toNat : Int) != 49) = true := byte_nb (d := 49) fun h => hd (.inr h)
        clear hd
        go_wp2_with fail
        go_ret
        exact ⟨rfl, rfl⟩
    · have hk3 : k = s.size := by omega
      have hne : ((s.size : Int) == (n : Int)) = false := by
        rw [beq_eq_false_iff_ne]; intro e
        refine HV.out ⟨by simpa using (by omega : s.size = n), fun j hj => ?_⟩
        have hj2 : j < s.size := by simpa using hj
        exact HO.out j hj2 (by omega)
      subst hk3
      go_wp2_with fail
      go_ret
      exact ⟨rfl, rfl⟩

def Set27 (s : ByteArray) : Prop := Bits 27 s.data.toList

set_option maxHeartbeats 1000000 in
theorem specPredValid_yes (s : ByteArray) (w : World) (hv : Set27 s) : Calls Try.prog 13 #[.string s] w fun e w' => e = .returned (.bool true) ∧ w = w' := by
  have C := fun w => Lib.hid (specBits_yes s 27 w hv (by omega))
  go_enter Try.func13, Try.ntmps13
  go_wp2_with fail
  refine (C _).out.mono ?_
  rintro e w' ⟨rfl, rfl⟩
  go_wp2_with fail
  go_ret
  exact ⟨rfl, rfl⟩
set_option maxHeartbeats 1000000 in
theorem specPredValid_no (s : ByteArray) (w : World) (hv : ¬ Set27 s) (hm : s.size ≤ maxLen) : Calls Try.prog 13 #[.string s] w fun e w' => e = .returned (.bool false) ∧ w = w' := by
  have C := fun w => Lib.hid (specBits_no s 27 w hv hm (by omega))
  clear hv
  go_enter Try.func13, Try.ntmps13
  go_wp2_with fail
  refine (C _).out.mono ?_
  rintro e w' ⟨rfl, rfl⟩
  go_wp2_with fail
  go_ret
  exact ⟨rfl, rfl⟩
end Go.Proofs.Ytgkoljphndgoeaa
