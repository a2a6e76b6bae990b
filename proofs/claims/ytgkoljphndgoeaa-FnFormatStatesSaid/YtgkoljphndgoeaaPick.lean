/-
  The reader of the given model, by which the laws draw their inputs: pick returns a number from 0 to n-1 and counts up.
-/
import Derived.Test.YtgkoljphndgoeaaKp
import Derived.BigQuiet
import Derived.IntWalk
import Derived.Deep.QuietTactic
namespace Go.Proofs.Ytgkoljphndgoeaa
open Go.RowKit

theorem xor_nn (x y : Int) (hx : 0 ≤ x) (hx2 : x < 1099511627776) (hy : 0 ≤ y) (hy2 : y < 1099511627776) : ∃ k : Nat, bits .xor .i64 x y = k := by
  obtain ⟨a, rfl⟩ := Int.eq_ofNat_of_zero_le hx
  obtain ⟨b, rfl⟩ := Int.eq_ofNat_of_zero_le hy
  have ha : a < 2 ^ 40 := by omega
  have hb : b < 2 ^ 40 := by omega
  have hab := Nat.xor_lt_two_pow ha hb
  refine ⟨a ^^^ b, ?_⟩
  unfold bits
  have e : (BitVec.ofInt IntKind.i64.bits (a : Int) ^^^ BitVec.ofInt IntKind.i64.bits (b : Int)).toNat = a ^^^ b := by
    show (BitVec.ofInt 64 (a : Int) ^^^ BitVec.ofInt 64 (b : Int)).toNat = a ^^^ b
    rw [BitVec.toNat_xor, BitVec.ofInt_natCast, BitVec.ofInt_natCast, BitVec.toNat_ofNat, BitVec.toNat_ofNat, Nat.mod_eq_of_lt (by omega), Nat.mod_eq_of_lt (by omega)]
  show IntKind.wrap .i64 ((BitVec.ofInt IntKind.i64.bits (a : Int) ^^^ BitVec.ofInt IntKind.i64.bits (b : Int)).toNat : Int) = _
  rw [e]
  exact wrap_small _ (by omega) (by omega)
theorem byte_wrap (c : UInt8) : wrap64 (c.toNat : Int) = c.toNat := by
  have := UInt8.toNat_lt c
  unfold wrap64
  omega

set_option maxRecDepth 100000 in
set_option maxHeartbeats 4000000 in
theorem pick_out (a p len m b o : Nat) (N : Int) (w : World) (q0 : w.cell? ⟨a, 0, none⟩ = some (.slice (some ⟨b, o, none⟩) len m)) (q1 : w.cell? ⟨a, 1, none⟩ = some (.int .i64 p))
    (f1 : w.frozen? ⟨a, 1, none⟩ = false) (hlen : len ≤ 2000) (h0 : 0 < len) (hp : len ≤ p) (hp2 : p ≤ 1000000) (hn : 1 ≤ N) (hn2 : N ≤ 1000000) (hba : b < a)
    (hcell : ∀ i, i < len → ∃ c : UInt8, w.cell? ⟨b, o + i, none⟩ = some (.int .u8 c.toNat)) :
    Calls Try.prog 39 #[.pointer (some ⟨a, 0, none⟩), .int .i64 N] w fun e w' => ∃ k : Int, 0 ≤ k ∧ k < N ∧ e = .returned (.int .i64 k) ∧ ∃ n, w' = (w.setCell ⟨a, 1, none⟩ (.int .i64 ((p : Int) + 1))).drewN n := by
  have hn1 : ¬ (N < 1) := by omega
  have hn0 : (N == 0) = false := by rw [beq_eq_false_iff_ne]; omega
  have hl0 : ((len : Int) == 0) = false := by rw [beq_eq_false_iff_ne]; omega
  have hne : ¬ a = b := by omega
  have hne2 : ¬ b = a := by omega
  have hk : ¬ p < len := by omega
  have hc0 : w.cell? ⟨b, o + p % len, none⟩ = w.cell? ⟨b, o + p % len, none⟩ := rfl
  clear hc0
  obtain ⟨i1, hi1⟩ : ∃ i, p % len = i := ⟨_, rfl⟩
  obtain ⟨i2, hi2⟩ : ∃ i, (p * 7 + 3) % len = i := ⟨_, rfl⟩
  obtain ⟨i3, hi3⟩ : ∃ i, p / len = i := ⟨_, rfl⟩
  have l1 : i1 < len := by rw [← hi1]; exact Nat.mod_lt _ h0
  have l2 : i2 < len := by rw [← hi2]; exact Nat.mod_lt _ h0
  have l3 : i3 ≤ p := by rw [← hi3]; exact Nat.div_le_self _ _
  obtain ⟨c1, hc1⟩ := hcell i1 l1
  obtain ⟨c2, hc2⟩ := hcell i2 l2
  clear hcell
  obtain ⟨d1, hd1⟩ : ∃ d, c1.toNat = d := ⟨_, rfl⟩
  obtain ⟨d2, hd2⟩ : ∃ d, c2.toNat = d := ⟨_, rfl⟩
  have b1 : d1 < 256 := by have := c1.toNat_lt; omega
  have b2 : d2 < 256 := by have := c2.toNat_lt; omega
  rw [hd1] at hc1
  rw [hd2] at hc2
  obtain ⟨m1, hm1⟩ : ∃ m, d1 * 131 = m := ⟨_, rfl⟩
  obtain ⟨m2, hm2⟩ : ∃ m, d2 * 1117 = m := ⟨_, rfl⟩
  obtain ⟨x7, hx7⟩ : ∃ m, p * 7 = m := ⟨_, rfl⟩
  obtain ⟨y, hy⟩ : ∃ m, x7 + 3 = m := ⟨_, rfl⟩
  obtain ⟨s1, hs1⟩ : ∃ m, m1 + m2 = m := ⟨_, rfl⟩
  obtain ⟨t, ht⟩ : ∃ m, p * 29 = m := ⟨_, rfl⟩
  obtain ⟨s2, hs2⟩ : ∃ m, s1 + t = m := ⟨_, rfl⟩
  obtain ⟨u, hu⟩ : ∃ m, i3 * 53 = m := ⟨_, rfl⟩
  obtain ⟨s3, hs3⟩ : ∃ m, s2 + u = m := ⟨_, rfl⟩
  have hs3b : s3 < 1000000000 := by omega
  obtain ⟨k, hk2⟩ := xor_nn (s3 : Int) ((s3 : Int) / 64) (by omega) (by omega) (by omega) (by omega)
  have E1 := Lib.hid (show IntKind.i64.wrap (d1 : Int) = d1 from IntWalk.i64_in _ (by omega))
  have E2 := Lib.hid (show IntKind.i64.wrap (d2 : Int) = d2 from IntWalk.i64_in _ (by omega))
  have E3 := Lib.hid (show IntKind.i64.wrap ((d1 : Int) * 131) = m1 from (IntWalk.i64_in _ (by omega)).trans (by omega))
  have E4 := Lib.hid (show IntKind.i64.wrap ((d2 : Int) * 1117) = m2 from (IntWalk.i64_in _ (by omega)).trans (by omega))
  have E5 := Lib.hid (show IntKind.i64.wrap ((p : Int) * 7) = x7 from (IntWalk.i64_in _ (by omega)).trans (by omega))
  have E6 := Lib.hid (show IntKind.i64.wrap ((x7 : Int) + 3) = y from (IntWalk.i64_in _ (by omega)).trans (by omega))
  have E7 := Lib.hid (show IntKind.i64.wrap ((m1 : Int) + m2) = s1 from (IntWalk.i64_in _ (by omega)).trans (by omega))
  have E8 := Lib.hid (show IntKind.i64.wrap ((p : Int) * 29) = t from (IntWalk.i64_in _ (by omega)).trans (by omega))
  have E9 := Lib.hid (show IntKind.i64.wrap ((s1 : Int) + t) = s2 from (IntWalk.i64_in _ (by omega)).trans (by omega))
  have E10 := Lib.hid (show IntKind.i64.wrap ((i3 : Int) * 53) = u from (IntWalk.i64_in _ (by omega)).trans (by omega))
  have E11 := Lib.hid (show IntKind.i64.wrap ((s2 : Int) + u) = s3 from (IntWalk.i64_in _ (by omega)).trans (by omega))
  have T1 := Lib.hid (show (p : Int).tmod (len : Int) = i1 by rw [← hi1]; rfl)
  have T2 := Lib.hid (show (y : Int).tmod (len : Int) = i2 by rw [← hi2, ← hy, ← hx7]; rfl)
  have T3 := Lib.hid (show (p : Int).tdiv (len : Int) = i3 by rw [← hi3]; rfl)
  have T4 := Lib.hid (show IntKind.i64.wrap ((p : Int).tdiv (len : Int)) = i3 from by rw [T3.out]; exact IntWalk.i64_in _ (by omega))
  have EK := Lib.hid (show (bits .xor .i64 (s3 : Int) ((s3 : Int) / 64)).tmod N = (k : Int) % N by rw [hk2, Int.tmod_eq_emod_of_nonneg (by omega)])
  clear hi1 hi2 hi3 hd1 hd2 hm1 hm2 hx7 hy hs1 ht hs2 hu hs3 hk2
  have HC1 := Lib.hid hc1
  have HC2 := Lib.hid hc2
  clear hc1 hc2
  go_enter Try.func39, Try.ntmps39
  go_wp2_with fail
  have r0 : (w.setCell ⟨a, 1, none⟩ (.int .i64 ((p : Int) + 1))).cell? ⟨a, 0, none⟩ = some (.slice (some ⟨b, o, none⟩) len m) := by simp [go_sem, q0]
  have z1 : (w.setCell ⟨a, 1, none⟩ (.int .i64 ((p : Int) + 1))).cell? ⟨b, o + i1, none⟩ = some (.int .u8 d1) := by simp [go_sem, HC1.out]
  have z2 : (w.setCell ⟨a, 1, none⟩ (.int .i64 ((p : Int) + 1))).cell? ⟨b, o + i2, none⟩ = some (.int .u8 d2) := by simp [go_sem, HC2.out]
  generalize hW1 : w.setCell ⟨a, 1, none⟩ (.int .i64 ((p : Int) + 1)) = w1 at *
  have HW1 := Lib.hid hW1
  clear hW1
  have n0 : (0 : Int) ≤ i1 := by omega
  have n1 : (i1 : Int) < len := by omega
  have n2 : (0 : Int) ≤ i2 := by omega
  have n3 : (i2 : Int) < len := by omega
  clear q0 q1 f1
  have e1 := E1.out; have e2 := E2.out; have e3 := E3.out; have e4 := E4.out; have e5 := E5.out; have e6 := E6.out; have e7 := E7.out; have e8 := E8.out; have e9 := E9.out; have e10 := E10.out; have e11 := E11.out
  have t1 := T1.out; have t2 := T2.out; have t3 := T3.out; have t4 := T4.out
  go_quiet (fail)
  clear e1 e2 e3 e4 e5 e6 e7 e8 e9 e10 e11 t1 t2 t3 t4
  go_wp2_with fail
  go_ret
  exact ⟨(k : Int) % N, Int.emod_nonneg _ (by omega), Int.emod_lt_of_pos _ (by omega), by rw [← EK.out]; rfl, nq, by rw [HW1.out]⟩

set_option maxHeartbeats 2000000 in
theorem pick_nil (a p m : Nat) (sp : Option Addr) (N : Int) (w : World) (q0 : w.cell? ⟨a, 0, none⟩ = some (.slice sp 0 m)) (q1 : w.cell? ⟨a, 1, none⟩ = some (.int .i64 p))
    (f1 : w.frozen? ⟨a, 1, none⟩ = false) (hp2 : p ≤ 1000000) (hn : 1 ≤ N) :
    Calls Try.prog 39 #[.pointer (some ⟨a, 0, none⟩), .int .i64 N] w fun e w' => e = .returned (.int .i64 0) ∧ w' = w.setCell ⟨a, 1, none⟩ (.int .i64 ((p : Int) + 1)) := by
  have hn1 : ¬ (N < 1) := by omega
  go_enter Try.func39, Try.ntmps39
  go_wp2_with fail
  go_ret
  exact ⟨rfl, rfl⟩

set_option maxHeartbeats 2000000 in
theorem pick_in (a p len m b o : Nat) (N : Int) (w : World) (q0 : w.cell? ⟨a, 0, none⟩ = some (.slice (some ⟨b, o, none⟩) len m)) (q1 : w.cell? ⟨a, 1, none⟩ = some (.int .i64 p))
    (f1 : w.frozen? ⟨a, 1, none⟩ = false) (hlen : len ≤ 2000) (hk : p < len) (hn : 1 ≤ N) (hba : b < a)
    (hcell : ∀ i, i < len → ∃ c : UInt8, w.cell? ⟨b, o + i, none⟩ = some (.int .u8 c.toNat)) :
    Calls Try.prog 39 #[.pointer (some ⟨a, 0, none⟩), .int .i64 N] w fun e w' => ∃ k : Int, 0 ≤ k ∧ k < N ∧ e = .returned (.int .i64 k) ∧ w' = w.setCell ⟨a, 1, none⟩ (.int .i64 ((p : Int) + 1)) := by
  have hn1 : ¬ (N < 1) := by omega
  have hn0 : (N == 0) = false := by rw [beq_eq_false_iff_ne]; omega
  have hl0 : ((len : Int) == 0) = false := by rw [beq_eq_false_iff_ne]; omega
  have hne : ¬ a = b := by omega
  have hne2 : ¬ b = a := by omega
  obtain ⟨c, hc⟩ := hcell p hk
  clear hcell
  have E : Hid ((wrap64 (c.toNat : Int)).tmod N = (c.toNat : Int) % N) := by show _ = _; rw [byte_wrap, Int.tmod_eq_emod_of_nonneg (by omega)]
  go_enter Try.func39, Try.ntmps39
  go_wp2_with fail
  go_ret
  exact ⟨(c.toNat : Int) % N, Int.emod_nonneg _ (by omega), Int.emod_lt_of_pos _ (by omega), by rw [← E.out]; rfl, rfl⟩

/-- pick returns a number from 0 to N-1. -/
theorem pick_any {a p : Nat} (N : Int) {w : World} (hr : Rd a p w) (hp : p ≤ 1000000) (hn : 1 ≤ N) (hn2 : N ≤ 1000000) :
    Calls Try.prog 39 #[.pointer (some ⟨a, 0, none⟩), .int .i64 N] w fun e w' => ∃ k : Int, 0 ≤ k ∧ k < N ∧ e = .returned (.int .i64 k) ∧ Rd a (p + 1) w' ∧ Kp a w w' := by
  have h2 := hr.put
  have hk := (Kp.refl a w).set 1 (.int .i64 ((p : Int) + 1))
  obtain ⟨sp, len, m, q0, q1, f0, f1, hlen, hb⟩ := hr
  by_cases h0 : len = 0
  · subst h0
    exact (pick_nil a p m sp N w q0 q1 f1 hp hn).mono fun e w' ⟨he, hw⟩ => ⟨0, by omega, by omega, he, hw ▸ h2, hw ▸ hk⟩
  · rcases hb with rfl | ⟨b, o, rfl, hba, hcell⟩
    · exact absurd rfl h0
    · by_cases hlt : p < len
      · exact (pick_in a p len m b o N w q0 q1 f1 hlen hlt hn hba hcell).mono fun e w' ⟨k, k0, k1, he, hw⟩ => ⟨k, k0, k1, he, hw ▸ h2, hw ▸ hk⟩
      · exact (pick_out a p len m b o N w q0 q1 f1 hlen (by omega) (by omega) hp hn hn2 hba hcell).mono fun e w' ⟨k, k0, k1, he, n, hw⟩ =>
          ⟨k, k0, k1, he, hw ▸ h2.kept (bdrewN (Below.refl _ _) n), hw ▸ hk.drewN n⟩
end Go.Proofs.Ytgkoljphndgoeaa
