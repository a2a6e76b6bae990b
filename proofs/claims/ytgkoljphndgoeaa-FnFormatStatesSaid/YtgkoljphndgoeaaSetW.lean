/-
  The methods of a set of states of the program, and reading and writing its text.
-/
import Derived.Test.YtgkoljphndgoeaaByt
import Derived.Test.YtgkoljphndgoeaaSetS
import Derived.Laws.BitsAllLaws
namespace Go.Proofs.Ytgkoljphndgoeaa
open Go.RowKit

theorem bit_has (n i : Nat) (hn : n < 134217728) : (bits .and .u32 ((n : Int) / 2 ^ i) 1 == 1) = n.testBit i := by
  have e : ((n : Int) / 2 ^ i) = ((n / 2 ^ i : Nat) : Int) := by simp
  have h1 : n / 2 ^ i ≤ n := Nat.div_le_self _ _
  rw [e, show (1 : Int) = ((1 : Nat) : Int) from rfl, u32_and_nat _ 1 (by omega) (by omega), nat_mask1, Nat.testBit_eq_decide_div_mod_eq, Bool.eq_iff_iff, beq_iff_eq, decide_eq_true_eq]
  omega
theorem bit_with (n i : Nat) (hn : n < 134217728) (hi : i < 27) : bits .or .u32 (n : Int) (2 ^ i % 4294967296) = ((n ||| 2 ^ i : Nat) : Int) := by
  have h1 : 2 ^ i < 2 ^ 27 := Nat.pow_lt_pow_right (by omega) hi
  have e : (2 : Int) ^ i % 4294967296 = ((2 ^ i : Nat) : Int) := by
    rw [Int.emod_eq_of_lt]
    · simp
    · exact Int.pow_nonneg (by omega)
    · have : ((2 ^ i : Nat) : Int) < 4294967296 := by omega
      simpa using this
  rw [e, u32_or_nat _ _ (by omega) (by omega)]

set_option maxHeartbeats 1000000 in
theorem implHas (n i : Nat) (w : World) (hn : n < 134217728) (_hi : i < 27) : Calls Try.prog 18 #[.int .u32 n, .int .i64 i] w fun e w' => e = .returned (.bool (n.testBit i)) ∧ w = w' := by
  have H := Lib.hid (bit_has n i hn)
  go_enter Try.func18, Try.ntmps18
  go_wp2_with fail
  go_ret
  exact ⟨by rw [← H.out]; rfl, rfl⟩

set_option maxHeartbeats 1000000 in
theorem implWith (n i : Nat) (w : World) (hn : n < 134217728) (hi : i < 27) : Calls Try.prog 25 #[.int .u32 n, .int .i64 i] w fun e w' => e = .returned (.int .u32 ((n ||| 2 ^ i : Nat) : Int)) ∧ w = w' := by
  have H := Lib.hid (bit_with n i hn hi)
  go_enter Try.func25, Try.ntmps25
  go_wp2_with fail
  go_ret
  exact ⟨by rw [← H.out]; rfl, rfl⟩

/-- A set with one state more. -/
theorem implWithB (F : Nat → Bool) (i : Nat) (w : World) (hi : i < 27) : Calls Try.prog 25 #[.int .u32 (nb 27 F), .int .i64 i] w fun e w' => e = .returned (.int .u32 (nb 27 (fun j => F j || j == i) : Nat)) ∧ w = w' := by
  have h := implWith (nb 27 F) i w (nb_lt27 F) hi
  rw [nb_or 27 F i hi] at h
  exact h
theorem implHasB (F : Nat → Bool) (i : Nat) (w : World) (hi : i < 27) : Calls Try.prog 18 #[.int .u32 (nb 27 F), .int .i64 i] w fun e w' => e = .returned (.bool (F i)) ∧ w = w' := by
  have h := implHas (nb 27 F) i w (nb_lt27 F) hi
  rw [nb_bit, decide_eq_true hi, Bool.true_and] at h
  exact h

def low (l : List UInt8) (k : Nat) : Nat → Bool := fun i => decide (i < k) && hs l i
theorem low_zero (l : List UInt8) : nb 27 (low l 0) = 0 := nb_zero 27 (fun i _ => by simp [low])
theorem low_one {l : List UInt8} {k : Nat} (h : hs l k = true) : nb 27 (fun j => low l k j || j == k) = nb 27 (low l (k + 1)) := nb_congr fun i _ => by
  unfold low
  by_cases e : i = k
  · subst e; simp [h]
  · by_cases h2 : i < k
    · have h3 : i < k + 1 := by omega
      simp [h2, h3, e]
    · have h3 : ¬ i < k + 1 := by omega
      simp [h2, h3, e]
theorem low_nil {l : List UInt8} {k : Nat} (h : hs l k = false) : nb 27 (low l k) = nb 27 (low l (k + 1)) := nb_congr fun i _ => by
  unfold low
  by_cases e : i = k
  · subst e; simp [h]
  · by_cases h2 : i < k
    · have h3 : i < k + 1 := by omega
      simp [h2, h3]
    · have h3 : ¬ i < k + 1 := by omega
      simp [h2, h3]
theorem low_all (l : List UInt8) : nb 27 (low l 27) = nb 27 (hs l) := nb_congr fun i hi => by simp [low, hi]

theorem hs_get (s : ByteArray) (k : Nat) (hk : k < s.size) : hs s.data.toList k = (s[k] == 49) := by
  unfold hs
  rw [List.getElem?_eq_getElem (by simpa using hk)]
  show (some s[k] == some 49) = _
  rfl

set_option maxHeartbeats 2000000 in
theorem implRead_yes (s : ByteArray) (w : World) (hv : Set27 s) : Calls Try.prog 16 #[.string s] w fun e w' => e = .returned (.tuple #[.int .u32 (nb 27 (hs s.data.toList)), .bool true]) ∧ w = w' := by
  have hs27 : s.size = 27 := by have := hv.1; simpa using this
  have HV := Lib.hid hv
  clear hv
  go_enter Try.func16, Try.ntmps16
  go_wp2_with fail
  go_loop [4, 9] (fun v i => ∃ k : Nat, k ≤ 27 ∧ i = .int .i64 k ∧ v = .int .u32 (nb 27 (low s.data.toList k))) (fun _ i => 27 - (intOf i).toNat)
  case atStart => exact ⟨0, by omega, rfl, by rw [low_zero]; rfl⟩
  case round =>
    obtain ⟨k, hk, rfl, rfl⟩ := hrel
    by_cases hlt : k < 27
    · have hk2 : k < s.size := by omega
      have hg := hs_get s k hk2
      have hd := HV.out.2 k (by simpa using hk2)
      have hc : s[k] = 48 ∨ s[k] = 49 := hd
      have C := fun w => Lib.hid (implWithB (low s.data.toList k) k w hlt)
      rcases hc with hc | hc
      · have L := Lib.hid (low_nil (l := s.data.toList) (k := k) (by rw [hg, hc]; rfl))
        have hb : (s[k].toNat : Int) = 48 := by rw [hc]; rfl
        clear hg hd hc
        go_wp2_with fail
        exact ⟨⟨k + 1, by omega, by go_num, by rw [L.out]⟩, by simp [intOf]; omega⟩
      · have L := Lib.hid (low_one (l := s.data.toList) (k := k) (by rw [hg, hc]; rfl))
        have hb : (s[k].toNat : Int) = 49 := by rw [hc]; rfl
        clear hg hd hc
        go_wp2_with fail
        refine (C _).out.mono ?_
        rintro e w' ⟨rfl, rfl⟩
        go_wp2_with fail
        exact ⟨⟨k + 1, by omega, by go_num, by rw [L.out]⟩, by simp [intOf]; omega⟩
    · have hk2 : k = 27 := by omega
      subst hk2
      go_wp2_with fail
      go_ret2
      exact ⟨by rw [← low_all]; rfl, rfl⟩

theorem byte_int {c d : UInt8} (h : c ≠ d) : ((c.toNat : Int) == (d.toNat : Int)) = false := by
  rw [beq_eq_false_iff_ne]; intro e
  exact h (UInt8.toNat_inj.1 (by omega))

set_option maxHeartbeats 2000000 in
theorem implRead_no (s : ByteArray) (w : World) (hv : ¬ Set27 s) : Calls Try.prog 16 #[.string s] w fun e w' => e = .returned (.tuple #[.int .u32 0, .bool false]) ∧ w = w' := by
  by_cases h27 : s.size = 27
  · have HV := Lib.hid hv
    clear hv
    go_enter Try.func16, Try.ntmps16
    go_wp2_with fail
    go_loop [4, 9] (fun v i => ∃ k : Nat, k ≤ 27 ∧ i = .int .i64 k ∧ v = .int .u32 (nb 27 (low s.data.toList k)) ∧ ∀ j (hj : j < s.size), j < k → s[j] = 48 ∨ s[j] = 49) (fun _ i => 27 - (intOf i).toNat)
    case atStart => exact ⟨0, by omega, rfl, by rw [low_zero]; rfl, fun j _ hj => by omega⟩
    case round =>
      obtain ⟨k, hk, rfl, rfl, hok⟩ := hrel
      have HO := Lib.hid hok
      clear hok
      by_cases hlt : k < 27
      · have hk2 : k < s.size := by omega
        have hg := hs_get s k hk2
        have C := fun w => Lib.hid (implWithB (low s.data.toList k) k w hlt)
        by_cases hc : s[k] = 48
        · have L := Lib.hid (low_nil (l := s.data.toList) (k := k) (by rw [hg, hc]; rfl))
          have hb : (s[k].toNat : Int) = 48 := by rw [hc]; rfl
          have N : Hid (∀ j (hj : j < s.size), j < k + 1 → s[j] = 48 ∨ s[j] = 49) := fun j hj h => by
            rcases Nat.lt_succ_iff_lt_or_eq.1 h with h | h
            · exact HO.out j hj h
            · subst h; exact .inl hc
          clear hg hc
          go_wp2_with fail
          exact ⟨⟨k + 1, by omega, by go_num, by rw [L.out], N.out⟩, by simp [intOf]; omega⟩
        · by_cases hc1 : s[k] = 49
          · have L := Lib.hid (low_one (l := s.data.toList) (k := k) (by rw [hg, hc1]; rfl))
            have hb : (s[k].toNat : Int) = 49 := by rw [hc1]; rfl
            have N : Hid (∀ j (hj : j < s.size), j < k + 1 → s[j] = 48 ∨ s[j] = 49) := fun j hj h => by
              rcases Nat.lt_succ_iff_lt_or_eq.1 h with h | h
              · exact HO.out j hj h
              · subst h; exact .inr hc1
            clear hg hc hc1
            go_wp2_with fail
            refine (C _).out.mono ?_
            rintro e w' ⟨rfl, rfl⟩
            go_wp2_with fail
            exact ⟨⟨k + 1, by omega, by go_num, by rw [L.out], N.out⟩, by simp [intOf]; omega⟩
          · have b0 : ((s[k].toNat : Int) == 48) = false := byte_int hc
            have b1 : ((s[k].toNat : Int) == 49) = false := byte_int hc1
            clear hg hc hc1
            go_wp2_with fail
            go_ret2
            exact ⟨rfl, rfl⟩
      · refine absurd ⟨by simpa using h27, fun j hj => ?_⟩ HV.out
        have hj2 : j < s.size := by simpa using hj
        exact HO.out j hj2 (by omega)
  · have hs : ((s.size : Int) == 27) = false := by rw [beq_eq_false_iff_ne]; omega
    have hs2 : ((s.size : Int) != 27) = true := by rw [bne_iff_ne]; omega
    clear hv h27
    go_enter Try.func16, Try.ntmps16
    go_wp2_with fail
    go_ret2
    exact ⟨rfl, rfl⟩

theorem not_bits (F : Nat → Bool) : bits .andNot .u32 134217727 (nb 27 F : Nat) = (nb 27 (fun i => !F i) : Nat) := by
  have h := nb_lt27 F
  have h1 := u32_andNot_nat 134217727 (nb 27 F) (by omega) (by omega)
  rw [show ((134217727 : Nat) : Int) = 134217727 from rfl] at h1
  rw [h1]
  congr 1
  apply nb_of_bits
  · exact Nat.lt_of_le_of_lt Nat.and_le_left (by decide)
  · intro i hi
    rw [Nat.testBit_and, show 4294967295 - nb 27 F = 2 ^ 32 - (nb 27 F + 1) by omega, Nat.testBit_two_pow_sub_succ (by omega), nb_bit]
    rw [show (134217727 : Nat) = 2 ^ 27 - 1 from rfl, Nat.testBit_two_pow_sub_one]
    have h32 : i < 32 := by omega
    simp [hi, h32]
theorem within_bits (F G : Nat → Bool) : (bits .andNot .u32 (nb 27 F : Nat) (nb 27 G : Nat) == 0) = wi 27 F G := by
  have h := nb_lt27 F
  have h' := nb_lt27 G
  rw [u32_andNot_nat _ _ (by omega) (by omega), Bool.eq_iff_iff, beq_iff_eq, wi_iff]
  have e : nb 27 F &&& (4294967295 - nb 27 G) = nb 27 (fun i => F i && !G i) := by
    apply nb_of_bits
    · exact Nat.lt_of_le_of_lt Nat.and_le_left h
    · intro i hi
      rw [Nat.testBit_and, show 4294967295 - nb 27 G = 2 ^ 32 - (nb 27 G + 1) by omega, Nat.testBit_two_pow_sub_succ (by omega), nb_bit, nb_bit]
      have h32 : i < 32 := by omega
      simp [hi, h32]
  rw [e]
  constructor
  · intro hz i hi hF
    have h0 : nb 27 (fun i => F i && !G i) = nb 27 (fun _ => false) := by rw [nb_zero 27 (F := fun _ => false) (fun _ _ => rfl)]; omega
    have := nb_inj h0 i hi
    simpa [hF] using this
  · intro hall
    have : nb 27 (fun i => F i && !G i) = 0 := nb_zero 27 fun i hi => by
      cases hF : F i
      · rfl
      · simp [hall i hi hF]
    omega

end Go.Proofs.Ytgkoljphndgoeaa
