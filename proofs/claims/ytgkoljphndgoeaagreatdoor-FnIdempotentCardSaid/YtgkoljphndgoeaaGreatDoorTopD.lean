import Derived.Test.YtgkoljphndgoeaaGreatDoorTopB
import Derived.BigQuiet
import Derived.IntWalk
import Derived.Deep.QuietTactic
import Derived.Deep.RegionHeld3
namespace Go.Proofs.YtgkoljphndgoeaaGreatDoor
open Go.RowKit
structure Kp (a : Nat) (w w' : World) : Prop where
 os : w'.os = w.os
 tape : w'.tape = w.tape
 output : w'.output = w.output
 size : w.heap.size ≤ w'.heap.size
 block : ∀ k, k < w.heap.size → k ≠ a → w'.heap[k]? = w.heap[k]?
theorem Kp.refl (a : Nat) (w : World) : Kp a w w := ⟨rfl, rfl, rfl, Nat.le_refl _, fun _ _ _ => rfl⟩
theorem Kp.trans {a : Nat} {w w1 w2 : World} (h : Kp a w w1) (k : Kp a w1 w2) : Kp a w w2 :=
 ⟨k.os.trans h.os, k.tape.trans h.tape, k.output.trans h.output, Nat.le_trans h.size k.size, fun i hi hne => (k.block i (Nat.lt_of_lt_of_le hi h.size) hne).trans (h.block i hi hne)⟩
theorem Kp.of {a : Nat} {w w' : World} (h : Below w.heap.size w w') : Kp a w w' := ⟨h.os, h.tape, h.output, h.size, fun k hk _ => h.block k hk⟩
theorem Kp.below {a B : Nat} {w w' : World} (h : Kp a w w') (hB : B ≤ a) (hB2 : B ≤ w.heap.size) : Below B w w' := ⟨h.os, h.tape, h.output, h.size, fun k hk => h.block k (by omega) (by omega)⟩
theorem Kp.set {a : Nat} {w w' : World} (h : Kp a w w') (i : Nat) (v : Value) : Kp a w (w'.setCell ⟨a, i, none⟩ v) :=
 h.trans ⟨rfl, rfl, rfl, by simp [World.setCell], fun k _ hne => Below.heap_setCell _ _ _ _ hne⟩
theorem Kp.next {a : Nat} {w w1 w2 : World} (h : Kp a w w1) (hb : Below w1.heap.size w1 w2) : Kp a w w2 := h.trans (Kp.of hb)
theorem Kp.drewN {a : Nat} {w w1 : World} (h : Kp a w w1) (n : Nat) : Kp a w (w1.drewN n) := h.next (bdrewN (Below.refl _ _) n)
theorem Blk.kp {a : Nat} {w w' : World} {b : Nat} {cs : Array Value} {t : TypeId} (h : Blk w b cs t) (hk : Kp a w w') (hne : b ≠ a) : Blk w' b cs t := (hk.block b h.lt hne).trans h
def Rd (a p : Nat) (w : World) : Prop := ∃ sp n m, w.cell? ⟨a, 0, none⟩ = some (.slice sp n m) ∧ w.cell? ⟨a, 1, none⟩ = some (.int .i64 p) ∧ w.frozen? ⟨a, 0, none⟩ = false ∧ w.frozen? ⟨a, 1, none⟩ = false ∧ n ≤ 2000 ∧
 (n = 0 ∨ ∃ b o, sp = some ⟨b, o, none⟩ ∧ b < a ∧ ∀ i, i < n → ∃ c : UInt8, w.cell? ⟨b, o + i, none⟩ = some (.int .u8 c.toNat))
theorem Rd.kept {a p : Nat} {w w' : World} (h : Rd a p w) (hb : Below w.heap.size w w') : Rd a p w' := by
 obtain ⟨sp, n, m, q0, q1, f0, f1, hl, hc⟩ := h
 have hlt := World.block_lt_of_cell? w ⟨a, 0, none⟩ q0
 refine ⟨sp, n, m, ckeep hb q0, ckeep hb q1, (hb.frozen (p := ⟨a, 0, none⟩) hlt).trans f0, (hb.frozen (p := ⟨a, 1, none⟩) hlt).trans f1, hl, ?_⟩
 rcases hc with h0 | ⟨b, o, e, hba, hc⟩
 ·exact .inl h0
 ·exact .inr ⟨b, o, e, hba, fun i hi => by obtain ⟨c, hc⟩ := hc i hi; exact ⟨c, ckeep hb hc⟩⟩
theorem Rd.keepB {a p B : Nat} {w w' : World} (h : Rd a p w) (hb : Below B w w') (hB : a < B) : Rd a p w' := by
 obtain ⟨sp, n, m, q0, q1, f0, f1, hl, hc⟩ := h
 refine ⟨sp, n, m, (hb.cell (p := ⟨a, 0, none⟩) hB).trans q0, (hb.cell (p := ⟨a, 1, none⟩) hB).trans q1, (hb.frozen (p := ⟨a, 0, none⟩) hB).trans f0, (hb.frozen (p := ⟨a, 1, none⟩) hB).trans f1, hl, ?_⟩
 rcases hc with h0 | ⟨b, o, e, hba, hc⟩
 ·exact .inl h0
 ·exact .inr ⟨b, o, e, hba, fun i hi => by
   obtain ⟨c, hc⟩ := hc i hi
   exact ⟨c, (hb.cell (p := ⟨b, o + i, none⟩) (Nat.lt_trans hba hB)).trans hc⟩⟩
theorem Kp.setNew {a : Nat} {w w1 : World} (h : Kp a w w1) {q : Addr} (hq : w.heap.size ≤ q.block) (v : Value) : Kp a w (w1.setCell q v) :=
 ⟨h.os, h.tape, h.output, by have := h.size; simpa [World.setCell] using this, fun k hk hne => by rw [Below.heap_setCell _ _ _ _ (by omega)]; exact h.block k hk hne⟩
theorem Rd.lt {a p : Nat} {w : World} (h : Rd a p w) : a < w.heap.size := by
 obtain ⟨sp, n, m, q0, _⟩ := h
 exact World.block_lt_of_cell? w ⟨a, 0, none⟩ q0
theorem Rd.put {a p : Nat} {w : World} (h : Rd a p w) : Rd a (p + 1) (w.setCell ⟨a, 1, none⟩ (.int .i64 ((p : Int) + 1))) := by
 obtain ⟨sp, n, m, q0, q1, f0, f1, hl, hb⟩ := h
 refine ⟨sp, n, m, by simp [go_sem, q0], by simp [go_sem, q1], by simp [go_sem, f0], by simp [go_sem, f1], hl, ?_⟩
 rcases hb with rfl | ⟨b, o, rfl, hba, hc⟩
 ·exact .inl rfl
 ·refine .inr ⟨b, o, rfl, hba, fun i hi => ?_⟩
  obtain ⟨c, hc⟩ := hc i hi
  have hne : ¬ a = b := by omega
  exact ⟨c, by simp [go_sem, hc]⟩
theorem xor_nn (x y : Int) (hx : 0 ≤ x) (hx2 : x < 1099511627776) (hy : 0 ≤ y) (hy2 : y < 1099511627776) : ∃ k : Nat, bits .xor .i64 x y = k := by
 obtain ⟨a, rfl⟩ := Int.eq_ofNat_of_zero_le hx
 obtain ⟨b, rfl⟩ := Int.eq_ofNat_of_zero_le hy
 have ha : a < 2 ^ 40 := by omega
 have hb : b < 2 ^ 40 := by omega
 have hab := Nat.xor_lt_two_pow ha hb
 refine ⟨a ^^^ b, ?_⟩
 unfold bits
 have e : (BitVec.ofInt IntKind.i64.bits (a : Int) ^^^ BitVec.ofInt IntKind.i64.bits (b : Int)).toNat = a ^^^ b := by
  show (BitVec.ofInt 64 (a : Int) ^^^ BitVec.ofInt 64 (b : Int)).toNat = a ^^^ b
  rw [BitVec.toNat_xor, BitVec.ofInt_natCast, BitVec.ofInt_natCast, BitVec.toNat_ofNat, BitVec.toNat_ofNat, Nat.mod_eq_of_lt (by omega), Nat.mod_eq_of_lt (by omega)]
 show IntKind.wrap .i64 ((BitVec.ofInt IntKind.i64.bits (a : Int) ^^^ BitVec.ofInt IntKind.i64.bits (b : Int)).toNat : Int) = _
 rw [e]
 exact wrap_small _ (by omega) (by omega)
theorem byte_wrap (c : UInt8) : wrap64 (c.toNat : Int) = c.toNat := by
 have := UInt8.toNat_lt c
 unfold wrap64
 omega
set_option maxRecDepth 100000 in
set_option maxHeartbeats 4000000 in
theorem pick_out (a p len m b o : Nat) (N : Int) (w : World) (q0 : w.cell? ⟨a, 0, none⟩ = some (.slice (some ⟨b, o, none⟩) len m)) (q1 : w.cell? ⟨a, 1, none⟩ = some (.int .i64 p))
  (f1 : w.frozen? ⟨a, 1, none⟩ = false) (hlen : len ≤ 2000) (h0 : 0 < len) (hp : len ≤ p) (hp2 : p ≤ 1000000) (hn : 1 ≤ N) (hn2 : N ≤ 1000000) (hba : b < a)
  (hcell : ∀ i, i < len → ∃ c : UInt8, w.cell? ⟨b, o + i, none⟩ = some (.int .u8 c.toNat)) :
  Calls Tryz.prog 80 #[.pointer (some ⟨a, 0, none⟩), .int .i64 N] w fun e w' => ∃ k : Int, 0 ≤ k ∧ k < N ∧ e = .returned (.int .i64 k) ∧ ∃ n, w' = (w.setCell ⟨a, 1, none⟩ (.int .i64 ((p : Int) + 1))).drewN n := by
 have hn1 : ¬ (N < 1) := by omega
 have hn0 : (N == 0) = false := by rw [beq_eq_false_iff_ne]; omega
 have hl0 : ((len : Int) == 0) = false := by rw [beq_eq_false_iff_ne]; omega
 have hne : ¬ a = b := by omega
 have hne2 : ¬ b = a := by omega
 have hk : ¬ p < len := by omega
 have hc0 : w.cell? ⟨b, o + p % len, none⟩ = w.cell? ⟨b, o + p % len, none⟩ := rfl
 clear hc0
 obtain ⟨i1, hi1⟩ : ∃ i, p % len = i := ⟨_, rfl⟩
 obtain ⟨i2, hi2⟩ : ∃ i, (p * 7 + 3) % len = i := ⟨_, rfl⟩
 obtain ⟨i3, hi3⟩ : ∃ i, p / len = i := ⟨_, rfl⟩
 have l1 : i1 < len := by rw [← hi1]; exact Nat.mod_lt _ h0
 have l2 : i2 < len := by rw [← hi2]; exact Nat.mod_lt _ h0
 have l3 : i3 ≤ p := by rw [← hi3]; exact Nat.div_le_self _ _
 obtain ⟨c1, hc1⟩ := hcell i1 l1
 obtain ⟨c2, hc2⟩ := hcell i2 l2
 clear hcell
 obtain ⟨d1, hd1⟩ : ∃ d, c1.toNat = d := ⟨_, rfl⟩
 obtain ⟨d2, hd2⟩ : ∃ d, c2.toNat = d := ⟨_, rfl⟩
 have b1 : d1 < 256 := by have := c1.toNat_lt; omega
 have b2 : d2 < 256 := by have := c2.toNat_lt; omega
 rw [hd1] at hc1
 rw [hd2] at hc2
 obtain ⟨m1, hm1⟩ : ∃ m, d1 * 131 = m := ⟨_, rfl⟩
 obtain ⟨m2, hm2⟩ : ∃ m, d2 * 1117 = m := ⟨_, rfl⟩
 obtain ⟨x7, hx7⟩ : ∃ m, p * 7 = m := ⟨_, rfl⟩
 obtain ⟨y, hy⟩ : ∃ m, x7 + 3 = m := ⟨_, rfl⟩
 obtain ⟨s1, hs1⟩ : ∃ m, m1 + m2 = m := ⟨_, rfl⟩
 obtain ⟨t, ht⟩ : ∃ m, p * 29 = m := ⟨_, rfl⟩
 obtain ⟨s2, hs2⟩ : ∃ m, s1 + t = m := ⟨_, rfl⟩
 obtain ⟨u, hu⟩ : ∃ m, i3 * 53 = m := ⟨_, rfl⟩
 obtain ⟨s3, hs3⟩ : ∃ m, s2 + u = m := ⟨_, rfl⟩
 have hs3b : s3 < 1000000000 := by omega
 obtain ⟨k, hk2⟩ := xor_nn (s3 : Int) ((s3 : Int) / 64) (by omega) (by omega) (by omega) (by omega)
 have E1 := Lib.hid (show IntKind.i64.wrap (d1 : Int) = d1 from IntWalk.i64_in _ (by omega))
 have E2 := Lib.hid (show IntKind.i64.wrap (d2 : Int) = d2 from IntWalk.i64_in _ (by omega))
 have E3 := Lib.hid (show IntKind.i64.wrap ((d1 : Int) * 131) = m1 from (IntWalk.i64_in _ (by omega)).trans (by omega))
 have E4 := Lib.hid (show IntKind.i64.wrap ((d2 : Int) * 1117) = m2 from (IntWalk.i64_in _ (by omega)).trans (by omega))
 have E5 := Lib.hid (show IntKind.i64.wrap ((p : Int) * 7) = x7 from (IntWalk.i64_in _ (by omega)).trans (by omega))
 have E6 := Lib.hid (show IntKind.i64.wrap ((x7 : Int) + 3) = y from (IntWalk.i64_in _ (by omega)).trans (by omega))
 have E7 := Lib.hid (show IntKind.i64.wrap ((m1 : Int) + m2) = s1 from (IntWalk.i64_in _ (by omega)).trans (by omega))
 have E8 := Lib.hid (show IntKind.i64.wrap ((p : Int) * 29) = t from (IntWalk.i64_in _ (by omega)).trans (by omega))
 have E9 := Lib.hid (show IntKind.i64.wrap ((s1 : Int) + t) = s2 from (IntWalk.i64_in _ (by omega)).trans (by omega))
 have E10 := Lib.hid (show IntKind.i64.wrap ((i3 : Int) * 53) = u from (IntWalk.i64_in _ (by omega)).trans (by omega))
 have E11 := Lib.hid (show IntKind.i64.wrap ((s2 : Int) + u) = s3 from (IntWalk.i64_in _ (by omega)).trans (by omega))
 have T1 := Lib.hid (show (p : Int).tmod (len : Int) = i1 by rw [← hi1]; rfl)
 have T2 := Lib.hid (show (y : Int).tmod (len : Int) = i2 by rw [← hi2, ← hy, ← hx7]; rfl)
 have T3 := Lib.hid (show (p : Int).tdiv (len : Int) = i3 by rw [← hi3]; rfl)
 have T4 := Lib.hid (show IntKind.i64.wrap ((p : Int).tdiv (len : Int)) = i3 from by rw [T3.out]; exact IntWalk.i64_in _ (by omega))
 have EK := Lib.hid (show (bits .xor .i64 (s3 : Int) ((s3 : Int) / 64)).tmod N = (k : Int) % N by rw [hk2, Int.tmod_eq_emod_of_nonneg (by omega)])
 clear hi1 hi2 hi3 hd1 hd2 hm1 hm2 hx7 hy hs1 ht hs2 hu hs3 hk2
 have HC1 := Lib.hid hc1
 have HC2 := Lib.hid hc2
 clear hc1 hc2
 go_enter Tryz.func80, Tryz.ntmps80
 go_wp2_with fail
 have r0 : (w.setCell ⟨a, 1, none⟩ (.int .i64 ((p : Int) + 1))).cell? ⟨a, 0, none⟩ = some (.slice (some ⟨b, o, none⟩) len m) := by simp [go_sem, q0]
 have z1 : (w.setCell ⟨a, 1, none⟩ (.int .i64 ((p : Int) + 1))).cell? ⟨b, o + i1, none⟩ = some (.int .u8 d1) := by simp [go_sem, HC1.out]
 have z2 : (w.setCell ⟨a, 1, none⟩ (.int .i64 ((p : Int) + 1))).cell? ⟨b, o + i2, none⟩ = some (.int .u8 d2) := by simp [go_sem, HC2.out]
 generalize hW1 : w.setCell ⟨a, 1, none⟩ (.int .i64 ((p : Int) + 1)) = w1 at *
 have HW1 := Lib.hid hW1
 clear hW1
 have n0 : (0 : Int) ≤ i1 := by omega
 have n1 : (i1 : Int) < len := by omega
 have n2 : (0 : Int) ≤ i2 := by omega
 have n3 : (i2 : Int) < len := by omega
 clear q0 q1 f1
 have e1 := E1.out; have e2 := E2.out; have e3 := E3.out; have e4 := E4.out; have e5 := E5.out; have e6 := E6.out; have e7 := E7.out; have e8 := E8.out; have e9 := E9.out; have e10 := E10.out; have e11 := E11.out
 have t1 := T1.out; have t2 := T2.out; have t3 := T3.out; have t4 := T4.out
 go_quiet (fail)
 clear e1 e2 e3 e4 e5 e6 e7 e8 e9 e10 e11 t1 t2 t3 t4
 go_wp2_with fail
 go_ret
 exact ⟨(k : Int) % N, Int.emod_nonneg _ (by omega), Int.emod_lt_of_pos _ (by omega), by rw [← EK.out]; rfl, nq, by rw [HW1.out]⟩
set_option maxHeartbeats 2000000 in
theorem pick_nil (a p m : Nat) (sp : Option Addr) (N : Int) (w : World) (q0 : w.cell? ⟨a, 0, none⟩ = some (.slice sp 0 m)) (q1 : w.cell? ⟨a, 1, none⟩ = some (.int .i64 p))
  (f1 : w.frozen? ⟨a, 1, none⟩ = false) (hp2 : p ≤ 1000000) (hn : 1 ≤ N) :
  Calls Tryz.prog 80 #[.pointer (some ⟨a, 0, none⟩), .int .i64 N] w fun e w' => e = .returned (.int .i64 0) ∧ w' = w.setCell ⟨a, 1, none⟩ (.int .i64 ((p : Int) + 1)) := by
 have hn1 : ¬ (N < 1) := by omega
 go_enter Tryz.func80, Tryz.ntmps80
 go_wp2_with fail
 go_ret
 exact ⟨rfl, rfl⟩
set_option maxHeartbeats 2000000 in
theorem pick_in (a p len m b o : Nat) (N : Int) (w : World) (q0 : w.cell? ⟨a, 0, none⟩ = some (.slice (some ⟨b, o, none⟩) len m)) (q1 : w.cell? ⟨a, 1, none⟩ = some (.int .i64 p))
  (f1 : w.frozen? ⟨a, 1, none⟩ = false) (hlen : len ≤ 2000) (hk : p < len) (hn : 1 ≤ N) (hba : b < a)
  (hcell : ∀ i, i < len → ∃ c : UInt8, w.cell? ⟨b, o + i, none⟩ = some (.int .u8 c.toNat)) :
  Calls Tryz.prog 80 #[.pointer (some ⟨a, 0, none⟩), .int .i64 N] w fun e w' => ∃ k : Int, 0 ≤ k ∧ k < N ∧ e = .returned (.int .i64 k) ∧ w' = w.setCell ⟨a, 1, none⟩ (.int .i64 ((p : Int) + 1)) := by
 have hn1 : ¬ (N < 1) := by omega
 have hn0 : (N == 0) = false := by rw [beq_eq_false_iff_ne]; omega
 have hl0 : ((len : Int) == 0) = false := by rw [beq_eq_false_iff_ne]; omega
 have hne : ¬ a = b := by omega
 have hne2 : ¬ b = a := by omega
 obtain ⟨c, hc⟩ := hcell p hk
 clear hcell
 have E : Hid ((wrap64 (c.toNat : Int)).tmod N = (c.toNat : Int) % N) := by show _ = _; rw [byte_wrap, Int.tmod_eq_emod_of_nonneg (by omega)]
 go_enter Tryz.func80, Tryz.ntmps80
 go_wp2_with fail
 go_ret
 exact ⟨(c.toNat : Int) % N, Int.emod_nonneg _ (by omega), Int.emod_lt_of_pos _ (by omega), by rw [← E.out]; rfl, rfl⟩
theorem pick_any {a p : Nat} (N : Int) {w : World} (hr : Rd a p w) (hp : p ≤ 1000000) (hn : 1 ≤ N) (hn2 : N ≤ 1000000) :
  Calls Tryz.prog 80 #[.pointer (some ⟨a, 0, none⟩), .int .i64 N] w fun e w' => ∃ k : Int, 0 ≤ k ∧ k < N ∧ e = .returned (.int .i64 k) ∧ Rd a (p + 1) w' ∧ Kp a w w' := by
 have h2 := hr.put
 have hk := (Kp.refl a w).set 1 (.int .i64 ((p : Int) + 1))
 obtain ⟨sp, len, m, q0, q1, f0, f1, hlen, hb⟩ := hr
 by_cases h0 : len = 0
 ·subst h0
  exact (pick_nil a p m sp N w q0 q1 f1 hp hn).mono fun e w' ⟨he, hw⟩ => ⟨0, by omega, by omega, he, hw ▸ h2, hw ▸ hk⟩
 ·rcases hb with rfl | ⟨b, o, rfl, hba, hcell⟩
  ·exact absurd rfl h0
  ·by_cases hlt : p < len
   ·exact (pick_in a p len m b o N w q0 q1 f1 hlen hlt hn hba hcell).mono fun e w' ⟨k, k0, k1, he, hw⟩ => ⟨k, k0, k1, he, hw ▸ h2, hw ▸ hk⟩
   ·exact (pick_out a p len m b o N w q0 q1 f1 hlen (by omega) (by omega) hp hn hn2 hba hcell).mono fun e w' ⟨k, k0, k1, he, n, hw⟩ =>
     ⟨k, k0, k1, he, hw ▸ h2.kept (bdrewN (Below.refl _ _) n), hw ▸ hk.drewN n⟩
def IsRow (w : World) (a : Option Addr) (len cap : Nat) (zs : List Int) : Prop :=
 (a = none ∧ len = 0 ∧ cap = 0 ∧ zs = []) ∨
 ∃ x, a = some x ∧ len ≤ cap ∧ cap ≤ maxLen ∧ zs.length = cap ∧ (∀ i, i < zs.length → w.cell? (x.add i) = some (.int .u8 (zs.getD i 0))) ∧ ∀ n ∈ zs, (Lit.int .u8 n).wf = true
theorem row_bytes {w : World} {x : Addr} {len cap : Nat} {zs : List Int} (hl : len ≤ cap) (hz : zs.length = cap) (hc : ∀ i, i < zs.length → w.cell? (x.add i) = some (.int .u8 (zs.getD i 0))) (hw : ∀ n ∈ zs, (Lit.int .u8 n).wf = true) (h0 : 0 < len) :
  x.spot = none ∧ x.block < w.heap.size ∧ ∀ i, i < len → ∃ c : UInt8, w.cell? ⟨x.block, x.off + i, none⟩ = some (.int .u8 c.toNat) := by
 obtain ⟨b, o, sp⟩ := x
 have hsp : sp = none := by simpa [Addr.add] using World.cell?_spot (hc 0 (by omega))
 subst hsp
 have e : ∀ i, (⟨b, o, none⟩ : Addr).add i = ⟨b, o + i, none⟩ := fun i => by by_cases h : i = 0 <;> simp [Addr.add, h]
 refine ⟨rfl, ?_, fun i hi => ?_⟩
 ·have := hc 0 (by omega)
  rw [e] at this
  exact World.block_lt_of_cell? w ⟨b, o + 0, none⟩ this
 ·have h1 := hc i (by omega)
  rw [e] at h1
  have h2 := hw (zs.getD i 0) (by rw [List.getD_eq_getElem?_getD, List.getElem?_eq_getElem (by omega)]; exact List.getElem_mem _)
  generalize zs.getD i 0 = z at h1 h2
  have hz : 0 ≤ z ∧ z < 256 := by
   simp [Lit.wf, IntKind.min, IntKind.max, IntKind.signed, IntKind.bits] at h2
   omega
  refine ⟨UInt8.ofNat z.toNat, ?_⟩
  rw [h1, UInt8.toNat_ofNat_of_lt' (by show _ < 256; omega)]
  congr 2
  omega
set_option maxHeartbeats 1000000 in
theorem open_small (sp : Option Addr) (n m : Nat) (w : World) (hn : n ≤ 2000)
  (hc : n = 0 ∨ ∃ b o, sp = some ⟨b, o, none⟩ ∧ b < w.heap.size ∧ ∀ i, i < n → ∃ c : UInt8, w.cell? ⟨b, o + i, none⟩ = some (.int .u8 c.toNat)) :
  Calls Tryz.prog 67 #[.slice sp n m] w fun e w' => e = .returned (.pointer (some ⟨w.heap.size, 0, none⟩)) ∧ Rd w.heap.size 0 w' ∧ Below w.heap.size w w' := by
 have HR : Hid (Rd w.heap.size 0 (w.alloc (.cells #[.slice sp n m, .int .i64 0] 162))) := by
  have t := Blk.new w #[.slice sp n m, .int .i64 0] 162
  refine ⟨sp, n, m, t.cell 0, t.cell 1, t.free 0, t.free 1, hn, ?_⟩
  rcases hc with h0 | ⟨b, o, e, hb, hc⟩
  ·exact .inl h0
  ·exact .inr ⟨b, o, e, hb, fun i hi => by obtain ⟨c, hc⟩ := hc i hi; exact ⟨c, ckeep ((Below.refl _ _).alloc (Nat.le_refl _) _) hc⟩⟩
 have hn2 : ¬ (2000 : Int) < n := by omega
 clear hc
 go_enter Tryz.func67, Tryz.ntmps67
 go_wp2_with fail
 go_ret
 exact ⟨rfl, HR.out, (Below.refl _ _).alloc (Nat.le_refl _) _⟩
set_option maxHeartbeats 1000000 in
theorem open_large (b o n m : Nat) (w : World) (hn : 2000 < n) (hm : n ≤ m) (hm2 : m ≤ maxLen) (hb : b < w.heap.size) (hc : ∀ i, i < n → ∃ c : UInt8, w.cell? ⟨b, o + i, none⟩ = some (.int .u8 c.toNat)) :
  Calls Tryz.prog 67 #[.slice (some ⟨b, o, none⟩) n m] w fun e w' => e = .returned (.pointer (some ⟨w.heap.size, 0, none⟩)) ∧ Rd w.heap.size 0 w' ∧ Below w.heap.size w w' := by
 unfold maxLen at hm2
 have HR : Hid (Rd w.heap.size 0 (w.alloc (.cells #[.slice (some ⟨b, o, none⟩) 2000 m, .int .i64 0] 162))) := by
  have t := Blk.new w #[.slice (some ⟨b, o, none⟩) 2000 m, .int .i64 0] 162
  refine ⟨_, 2000, m, t.cell 0, t.cell 1, t.free 0, t.free 1, Nat.le_refl _, .inr ⟨b, o, rfl, hb, fun i hi => ?_⟩⟩
  obtain ⟨c, hc⟩ := hc i (by omega)
  exact ⟨c, ckeep ((Below.refl _ _).alloc (Nat.le_refl _) _) hc⟩
 have hn2 : (2000 : Int) < n := by omega
 have hm3 : ¬ (m : Int) < 2000 := by omega
 clear hc
 go_enter Tryz.func67, Tryz.ntmps67
 go_wp2_with fail
 go_ret
 exact ⟨rfl, HR.out, (Below.refl _ _).alloc (Nat.le_refl _) _⟩
theorem open_any {a : Option Addr} {len cap : Nat} {zs : List Int} {w : World} (h : IsRow w a len cap zs) :
  Calls Tryz.prog 67 #[.slice a len cap] w fun e w' => e = .returned (.pointer (some ⟨w.heap.size, 0, none⟩)) ∧ Rd w.heap.size 0 w' ∧ Below w.heap.size w w' := by
 rcases h with ⟨rfl, rfl, rfl, rfl⟩ | ⟨x, rfl, hl, hm, hz, hc, hw⟩
 ·exact open_small none 0 0 w (by omega) (.inl rfl)
 ·by_cases h0 : len = 0
  ·exact open_small _ len cap w (by omega) (.inl h0)
  ·obtain ⟨h1, h2, h3⟩ := row_bytes hl hz hc hw (by omega)
   obtain ⟨b, o, sp⟩ := x
   obtain rfl : sp = none := h1
   by_cases hn : len ≤ 2000
   ·exact open_small _ len cap w hn (.inr ⟨b, o, rfl, h2, h3⟩)
   ·exact open_large b o len cap w (by omega) hl hm h2 h3
set_option maxHeartbeats 1000000 in
theorem of_any {a p L : Nat} (n m : Nat) {cs : Array Value} {T : TypeId} (Q : ByteArray → Prop) {w : World} (hr : Rd a p w) (hp : p ≤ 1000000) (hL : Blk w L cs T) (hne : L ≠ a) (hn : 0 < n) (hn2 : n ≤ 1000000)
  (hQ : ∀ i, i < n → ∃ s, cs[i]? = some (.string s) ∧ Q s) :
  Calls Tryz.prog 118 #[.pointer (some ⟨a, 0, none⟩), .slice (some ⟨L, 0, none⟩) n m] w fun e w' => ∃ s, Q s ∧ e = .returned (.string s) ∧ Rd a (p + 1) w' ∧ Kp a w w' := by
 have C := Lib.hid (pick_any (n : Int) hr hp (by omega) (by omega))
 have HQ := Lib.hid hQ
 have HL := Lib.hid hL
 clear hQ hL hr
 go_enter Tryz.func118, Tryz.ntmps118
 go_wp2_with fail
 refine C.out.mono ?_
 rintro e w1 ⟨k, k0, k1, rfl, hr, hk⟩
 obtain ⟨i, rfl⟩ := Int.eq_ofNat_of_zero_le k0
 have hi : i < n := by omega
 obtain ⟨s, hs, hq⟩ := HQ.out i hi
 have hc := ((HL.out.kp hk hne).cell i).trans hs
 have HR := Lib.hid hr
 have HK := Lib.hid hk
 have HQ2 := Lib.hid hq
 clear hr hk hs hq
 go_wp2_with fail
 go_ret
 exact ⟨s, HQ2.out, rfl, HR.out, HK.out⟩
theorem conv_0 (W : World) : (convert 22 9 (.slice (some ⟨W.heap.size, 0, none⟩) 1 1)).run Tryz.prog (W.alloc (.cells #[.int .u8 48] 5)) = .ok (.string ⟨#[48]⟩) (W.alloc (.cells #[.int .u8 48] 5)) := by
 rw [run_convert_bytes_string _ _ _ 5 _ _ _ Tryz.underlying22 Tryz.underlying5 Tryz.underlying9]
 exact run_bytesToString _ _ 1 1 [48] (by simp [go_sem])
set_option maxHeartbeats 2000000 in
theorem dec_0 (w : World) : Calls Tryz.prog 134 #[.int .i64 0] w fun e w' => e = .returned (.string (bs [48])) ∧ Below w.heap.size w w' := by
 have hcv := conv_0 w
 go_enter Tryz.func134, Tryz.ntmps134
 go_wp2_with fail
 refine wp_loop_rounds 1 ?_
 rw [rounds_succ]
 go_wp2_with fail
 go_ret
 exact ⟨rfl, (Below.refl _ _).alloc (Nat.le_refl _) _⟩
theorem conv_1 (W : World) : (convert 22 9 (.slice (some ⟨W.heap.size, 0, none⟩) 1 1)).run Tryz.prog (W.alloc (.cells #[.int .u8 49] 5)) = .ok (.string ⟨#[49]⟩) (W.alloc (.cells #[.int .u8 49] 5)) := by
 rw [run_convert_bytes_string _ _ _ 5 _ _ _ Tryz.underlying22 Tryz.underlying5 Tryz.underlying9]
 exact run_bytesToString _ _ 1 1 [49] (by simp [go_sem])
set_option maxHeartbeats 2000000 in
theorem dec_1 (w : World) : Calls Tryz.prog 134 #[.int .i64 1] w fun e w' => e = .returned (.string (bs [49])) ∧ Below w.heap.size w w' := by
 have hcv := conv_1 w
 go_enter Tryz.func134, Tryz.ntmps134
 go_wp2_with fail
 refine wp_loop_rounds 1 ?_
 rw [rounds_succ]
 go_wp2_with fail
 go_ret
 exact ⟨rfl, (Below.refl _ _).alloc (Nat.le_refl _) _⟩
theorem conv_2 (W : World) : (convert 22 9 (.slice (some ⟨W.heap.size, 0, none⟩) 1 1)).run Tryz.prog (W.alloc (.cells #[.int .u8 50] 5)) = .ok (.string ⟨#[50]⟩) (W.alloc (.cells #[.int .u8 50] 5)) := by
 rw [run_convert_bytes_string _ _ _ 5 _ _ _ Tryz.underlying22 Tryz.underlying5 Tryz.underlying9]
 exact run_bytesToString _ _ 1 1 [50] (by simp [go_sem])
set_option maxHeartbeats 2000000 in
theorem dec_2 (w : World) : Calls Tryz.prog 134 #[.int .i64 2] w fun e w' => e = .returned (.string (bs [50])) ∧ Below w.heap.size w w' := by
 have hcv := conv_2 w
 go_enter Tryz.func134, Tryz.ntmps134
 go_wp2_with fail
 refine wp_loop_rounds 1 ?_
 rw [rounds_succ]
 go_wp2_with fail
 go_ret
 exact ⟨rfl, (Below.refl _ _).alloc (Nat.le_refl _) _⟩
def DrP (a p lo hi c : Nat) (w : World) (e : Ending) (w' : World) : Prop := ∃ (s : ByteArray) (q : Nat), lo ≤ s.size ∧ s.size ≤ hi ∧ q ≤ p + c ∧ e = .returned (.string s) ∧ Rd a q w' ∧ Kp a w w'
theorem dec_one (k : Int) (h0 : 0 ≤ k) (h1 : k < 3) (w : World) : Calls Tryz.prog 134 #[.int .i64 k] w fun e w' => ∃ s : ByteArray, s.size = 1 ∧ e = .returned (.string s) ∧ Below w.heap.size w w' := by
 have : k = 0 ∨ k = 1 ∨ k = 2 := by omega
 rcases this with rfl | rfl | rfl
 ·exact (dec_0 w).mono fun e w' h => ⟨_, bs_size _, h.1, h.2⟩
 ·exact (dec_1 w).mono fun e w' h => ⟨_, bs_size _, h.1, h.2⟩
 ·exact (dec_2 w).mono fun e w' h => ⟨_, bs_size _, h.1, h.2⟩
set_option maxRecDepth 100000 in
set_option maxHeartbeats 4000000 in
theorem dE_zero {a p : Nat} (N : ByteArray) (hN : 1 ≤ N.size) (hN2 : N.size ≤ 6) (d : Int) (hd : d ≤ 0) {w : World} (hr : Rd a p w) (hp : p ≤ 900000) :
  Calls Tryz.prog 205 #[.pointer (some ⟨a, 0, none⟩), .int .i64 d, .string N] w (DrP a p 1 1 2 w) := by
 have HR := Lib.hid hr
 clear hr
 go_enter Tryz.func205, Tryz.ntmps205
 go_wp2_with fail
 refine (pick_any ((N.size : Int) + 2) HR.out (by omega) (by omega) (by omega)).mono ?_
 rintro e w1 ⟨k, k0, k1, rfl, hr, hk⟩
 have HR1 := Lib.hid hr
 have HK1 := Lib.hid hk
 clear hr hk
 obtain ⟨k, rfl⟩ := Int.eq_ofNat_of_zero_le k0
 by_cases hlt : k < N.size
 ·have h1 : (k : Int) < (N.size : Int) := by omega
  have h2 : (k : Int) + 1 ≤ (N.size : Int) := by omega
  have hz : (N.extract k (k + 1)).size = 1 := by simp [ByteArray.size_extract]; omega
  have HZ := Lib.hid hz
  clear hz
  go_wp2_with fail
  go_ret
  exact ⟨_, p + 1, Nat.le_of_eq HZ.out.symm, Nat.le_of_eq HZ.out, by omega, rfl, HR1.out, HK1.out⟩
 ·have h1 : ¬ (k : Int) < (N.size : Int) := by omega
  go_wp2_with fail
  refine (pick_any 3 HR1.out (by omega) (by omega) (by omega)).mono ?_
  rintro e w2 ⟨j, j0, j1, rfl, hr, hk⟩
  have HR2 := Lib.hid hr
  have HK2 := Lib.hid (HK1.out.trans hk)
  have HD := Lib.hid (dec_one j j0 j1 w2)
  clear hr hk
  go_wp2_with fail
  refine HD.out.mono ?_
  rintro e w3 ⟨s, hs, rfl, hb⟩
  have HR3 := Lib.hid (HR2.out.kept hb)
  have HK3 := Lib.hid (HK2.out.next hb)
  clear hb
  go_wp2_with fail
  go_ret
  exact ⟨s, p + 1 + 1, Nat.le_of_eq hs.symm, Nat.le_of_eq hs, by omega, rfl, HR3.out, HK3.out⟩
theorem szd {x y z hi : Nat} (hx : x ≤ 1) (hy : y ≤ hi) (hz : z ≤ hi) (h : hi ≤ 100000) : (¬ 9223372036854775807 < x + y) ∧ (¬ 9223372036854775807 < x + y + z) := by omega
set_option maxRecDepth 100000 in
set_option maxHeartbeats 8000000 in
theorem dE_succ {a p : Nat} (N : ByteArray) (hN : 1 ≤ N.size) (hN2 : N.size ≤ 6) (d m : Int) (hd : ¬ d ≤ 0) (hm : IntKind.i64.wrap (d - 1) = m) (hi c : Nat) (hh : hi ≤ 100000) (h1i : 1 ≤ hi) {w : World} (hr : Rd a p w) (hp : p + (2 * c + 3) ≤ 900000)
  (IH : ∀ (q : Nat) (w1 : World), q ≤ p + (c + 2) → Rd a q w1 → Calls Tryz.prog 205 #[.pointer (some ⟨a, 0, none⟩), .int .i64 m, .string N] w1 (DrP a q 1 hi c w1)) :
  Calls Tryz.prog 205 #[.pointer (some ⟨a, 0, none⟩), .int .i64 d, .string N] w (DrP a p 1 (2 * hi + 1) (2 * c + 3) w) := by
 have HR := Lib.hid hr
 have HI := Lib.hid IH
 clear hr IH
 have C := Lib.hid (pick_any 3 HR.out (by omega) (by omega) (by omega))
 go_enter Tryz.func205, Tryz.ntmps205
 go_wp2_with fail
 refine C.out.mono ?_
 rintro e w1 ⟨k, k0, k1, rfl, hr, hk⟩
 have HR1 := Lib.hid hr
 have HK1 := Lib.hid hk
 clear hr hk C
 by_cases e0 : k = 0
 ·subst e0
  go_wp2_with fail
  refine (pick_any ((N.size : Int) + 2) HR1.out (by omega) (by omega) (by omega)).mono ?_
  rintro e w2 ⟨k, k0, k1, rfl, hr, hk⟩
  have HR2 := Lib.hid hr
  have HK2 := Lib.hid (HK1.out.trans hk)
  clear hr hk
  obtain ⟨k, rfl⟩ := Int.eq_ofNat_of_zero_le k0
  by_cases hlt : k < N.size
  ·have h1 : (k : Int) < (N.size : Int) := by omega
   have h2 : (k : Int) + 1 ≤ (N.size : Int) := by omega
   have hz : (N.extract k (k + 1)).size = 1 := by simp [ByteArray.size_extract]; omega
   have HZ := Lib.hid hz
   clear hz
   go_wp2_with fail
   go_ret
   exact ⟨_, p + 1 + 1, Nat.le_of_eq HZ.out.symm, by rw [HZ.out]; omega, by omega, rfl, HR2.out, HK2.out⟩
  ·have h1 : ¬ (k : Int) < (N.size : Int) := by omega
   go_wp2_with fail
   refine (pick_any 3 HR2.out (by omega) (by omega) (by omega)).mono ?_
   rintro e w3 ⟨j, j0, j1, rfl, hr, hk⟩
   have HR3 := Lib.hid hr
   have HK3 := Lib.hid (HK2.out.trans hk)
   have HD := Lib.hid (dec_one j j0 j1 w3)
   clear hr hk
   go_wp2_with fail
   refine HD.out.mono ?_
   rintro e w4 ⟨s, hs, rfl, hb⟩
   have HR4 := Lib.hid (HR3.out.kept hb)
   have HK4 := Lib.hid (HK3.out.next hb)
   clear hb
   go_wp2_with fail
   go_ret
   exact ⟨s, p + 1 + 1 + 1, Nat.le_of_eq hs.symm, by omega, by omega, rfl, HR4.out, HK4.out⟩
 ·have g0 : (k == 0) = false := by rw [beq_eq_false_iff_ne]; exact e0
  clear e0
  have hlt := HR.out.lt
  have hne : w1.heap.size ≠ a := by have := HK1.out.size; omega
  have HL := Lib.hid (Blk.new w1 #[.string (⟨#[43]⟩), .string (⟨#[45]⟩), .string (⟨#[42]⟩), .string (⟨#[43]⟩)] 9)
  have hax := (Below.refl _ w1).alloc (Nat.le_refl _) (.cells #[.string (⟨#[43]⟩), .string (⟨#[45]⟩), .string (⟨#[42]⟩), .string (⟨#[43]⟩)] 9)
  have HR1x := Lib.hid (HR1.out.kept hax)
  have HK1x := Lib.hid (HK1.out.next hax)
  clear hax
  have HQ : Hid (∀ i, i < 4 → ∃ s, (#[.string (⟨#[43]⟩), .string (⟨#[45]⟩), .string (⟨#[42]⟩), .string (⟨#[43]⟩)] : Array Value)[i]? = some (.string s) ∧ s.size = 1) := fun i hi => by
   have hi : i = 0 ∨ i = 1 ∨ i = 2 ∨ i = 3 := by omega
   rcases hi with rfl | rfl | rfl | rfl <;> exact ⟨_, rfl, by decide⟩
  go_wp2_with fail
  refine (of_any 4 4 (fun s => s.size = 1) HR1x.out (by omega) HL.out hne (by omega) (by omega) HQ.out).mono ?_
  rintro e w2 ⟨o, ho, rfl, hr, hk⟩
  have HR2 := Lib.hid hr
  have HK2 := Lib.hid (HK1x.out.trans hk)
  clear hr hk HL HQ
  have HC := Lib.hid (HI.out (p + 1 + 1) w2 (by omega) HR2.out)
  go_wp2_with fail
  refine HC.out.mono ?_
  rintro e w3 ⟨x, q, x1, x2, hq, rfl, hr, hk⟩
  have HR3 := Lib.hid hr
  have HK3 := Lib.hid (HK2.out.trans hk)
  clear hr hk HC
  have HC := Lib.hid (HI.out q w3 (by omega) HR3.out)
  go_wp2_with fail
  refine HC.out.mono ?_
  rintro e w4 ⟨y, q', y1, y2, hq', rfl, hr, hk⟩
  have HR4 := Lib.hid hr
  have HK4 := Lib.hid (HK3.out.trans hk)
  clear hr hk HC
  obtain ⟨n1, n2⟩ := szd (Nat.le_of_eq ho) x2 y2 hh
  have hs : (o ++ x ++ y).size = 1 + x.size + y.size := by simp [ByteArray.size_append, ho]
  have HS := Lib.hid hs
  clear hs
  go_wp2_with fail
  go_ret
  exact ⟨o ++ x ++ y, q', by rw [HS.out]; omega, by rw [HS.out]; omega, by omega, rfl, HR4.out, HK4.out⟩
theorem dE_1 {a p : Nat} (N : ByteArray) (hN : 1 ≤ N.size) (hN2 : N.size ≤ 6) {w : World} (hr : Rd a p w) (hp : p ≤ 800000) :
  Calls Tryz.prog 205 #[.pointer (some ⟨a, 0, none⟩), .int .i64 1, .string N] w (DrP a p 1 3 7 w) :=
 dE_succ N hN hN2 1 0 (by omega) rfl 1 2 (by omega) (by omega) hr (by omega) fun q w1 hq h => dE_zero N hN hN2 0 (by omega) h (by omega)
set_option maxRecDepth 100000 in
set_option maxHeartbeats 8000000 in
theorem dT_zero {a p : Nat} (N : ByteArray) (hN : 1 ≤ N.size) (hN2 : N.size ≤ 6) (d : Int) (hd : d ≤ 0) {w : World} (hr : Rd a p w) (hp : p ≤ 700000) :
  Calls Tryz.prog 151 #[.pointer (some ⟨a, 0, none⟩), .int .i64 d, .string N] w (DrP a p 1 7 17 w) := by
 have HR := Lib.hid hr
 have hlt := hr.lt
 clear hr
 have C := Lib.hid (pick_any 8 HR.out (by omega) (by omega) (by omega))
 go_enter Tryz.func151, Tryz.ntmps151
 go_wp2_with fail
 refine C.out.mono ?_
 rintro e w1 ⟨k, k0, k1, rfl, hr, hk⟩
 have HR1 := Lib.hid hr
 have HK1 := Lib.hid hk
 clear hr hk C
 go_wp2_with fail
 refine (pick_any 10 HR1.out (by omega) (by omega) (by omega)).mono ?_
 rintro e w2 ⟨j, j0, j1, rfl, hr, hk⟩
 have HR2 := Lib.hid hr
 have HK2 := Lib.hid (HK1.out.trans hk)
 clear hr hk
 by_cases e0 : j = 0
 ·subst e0
  have hneL : w2.heap.size ≠ a := by have := HK2.out.size; omega
  have HL := Lib.hid (Blk.new w2 #[.string (⟨#[116]⟩), .string (⟨#[102]⟩)] 9)
  have hax := (Below.refl _ w2).alloc (Nat.le_refl _) (.cells #[.string (⟨#[116]⟩), .string (⟨#[102]⟩)] 9)
  have HRx := Lib.hid (HR2.out.kept hax)
  have HKx := Lib.hid (HK2.out.next hax)
  clear hax
  have HQ : Hid (∀ i, i < 2 → ∃ s, (#[.string (⟨#[116]⟩), .string (⟨#[102]⟩)] : Array Value)[i]? = some (.string s) ∧ s.size = 1) := fun i hi => by
   have hi : i = 0 ∨ i = 1 := by omega
   rcases hi with rfl | rfl <;> exact ⟨_, rfl, by decide⟩
  go_wp2_with fail
  refine (of_any 2 2 (fun s => s.size = 1) HRx.out (by omega) HL.out hneL (by omega) (by omega) HQ.out).mono ?_
  rintro e w3 ⟨o, ho, rfl, hr, hk⟩
  have HR3 := Lib.hid hr
  have HK3 := Lib.hid (HKx.out.trans hk)
  clear hr hk HL HQ HRx HKx
  have HO := Lib.hid ho
  go_wp2_with fail
  go_ret
  exact ⟨o, p + 1 + 1 + 1, by rw [HO.out]; omega, by rw [HO.out]; omega, by omega, rfl, HR3.out, HK3.out⟩
 ·have g0 : (j == 0) = false := by rw [beq_eq_false_iff_ne]; exact e0
  clear e0
  have hneL : w2.heap.size ≠ a := by have := HK2.out.size; omega
  have HL := Lib.hid (Blk.new w2 #[.string (⟨#[61]⟩), .string (⟨#[60]⟩)] 9)
  have hax := (Below.refl _ w2).alloc (Nat.le_refl _) (.cells #[.string (⟨#[61]⟩), .string (⟨#[60]⟩)] 9)
  have HRx := Lib.hid (HR2.out.kept hax)
  have HKx := Lib.hid (HK2.out.next hax)
  clear hax
  have HQ : Hid (∀ i, i < 2 → ∃ s, (#[.string (⟨#[61]⟩), .string (⟨#[60]⟩)] : Array Value)[i]? = some (.string s) ∧ s.size = 1) := fun i hi => by
   have hi : i = 0 ∨ i = 1 := by omega
   rcases hi with rfl | rfl <;> exact ⟨_, rfl, by decide⟩
  go_wp2_with fail
  refine (of_any 2 2 (fun s => s.size = 1) HRx.out (by omega) HL.out hneL (by omega) (by omega) HQ.out).mono ?_
  rintro e w3 ⟨o, ho, rfl, hr, hk⟩
  have HR3 := Lib.hid hr
  have HK3 := Lib.hid (HKx.out.trans hk)
  clear hr hk HL HQ HRx HKx
  have HC := Lib.hid (dE_1 N hN hN2 HR3.out (by omega))
  go_wp2_with fail
  refine HC.out.mono ?_
  rintro e w4 ⟨x, q, x1, x2, hq, rfl, hr, hk⟩
  have HR4 := Lib.hid hr
  have HK4 := Lib.hid (HK3.out.trans hk)
  clear hr hk HC
  have HC := Lib.hid (dE_1 N hN hN2 HR4.out (by omega))
  go_wp2_with fail
  refine HC.out.mono ?_
  rintro e w5 ⟨y, q', y1, y2, hq', rfl, hr, hk⟩
  have HR5 := Lib.hid hr
  have HK5 := Lib.hid (HK4.out.trans hk)
  clear hr hk HC
  obtain ⟨n1, n2⟩ := szd (Nat.le_of_eq ho) x2 y2 (by omega)
  have hs : (o ++ x ++ y).size = 1 + x.size + y.size := by simp [ByteArray.size_append, ho]
  have HS := Lib.hid hs
  clear hs
  go_wp2_with fail
  go_ret
  exact ⟨o ++ x ++ y, q', by rw [HS.out]; omega, by rw [HS.out]; omega, by omega, rfl, HR5.out, HK5.out⟩
set_option maxRecDepth 100000 in
set_option maxHeartbeats 8000000 in
theorem dT_succ {a p : Nat} (N : ByteArray) (hN : 1 ≤ N.size) (hN2 : N.size ≤ 6) (d m : Int) (hd : ¬ d ≤ 0) (hm : IntKind.i64.wrap (d - 1) = m) (hi c : Nat) (hh : hi ≤ 100000) (h7 : 7 ≤ hi) (h17 : 17 ≤ c) {w : World} (hr : Rd a p w) (hp : p + (2 * c + 2) ≤ 700000)
  (IH : ∀ (q : Nat) (w1 : World), q ≤ p + (c + 2) → Rd a q w1 → Calls Tryz.prog 151 #[.pointer (some ⟨a, 0, none⟩), .int .i64 m, .string N] w1 (DrP a q 1 hi c w1)) :
  Calls Tryz.prog 151 #[.pointer (some ⟨a, 0, none⟩), .int .i64 d, .string N] w (DrP a p 1 (2 * hi + 1) (2 * c + 2) w) := by
 have HR := Lib.hid hr
 have hlt := hr.lt
 have HI := Lib.hid IH
 clear hr IH
 have C := Lib.hid (pick_any 8 HR.out (by omega) (by omega) (by omega))
 go_enter Tryz.func151, Tryz.ntmps151
 go_wp2_with fail
 refine C.out.mono ?_
 rintro e w1 ⟨k, k0, k1, rfl, hr, hk⟩
 have HR1 := Lib.hid hr
 have HK1 := Lib.hid hk
 clear hr hk C
 by_cases h4 : k < 4
 ·go_wp2_with fail
  refine (pick_any 10 HR1.out (by omega) (by omega) (by omega)).mono ?_
  rintro e w2 ⟨j, j0, j1, rfl, hr, hk⟩
  have HR2 := Lib.hid hr
  have HK2 := Lib.hid (HK1.out.trans hk)
  clear hr hk
  by_cases e0 : j = 0
  ·subst e0
   have hneL : w2.heap.size ≠ a := by have := HK2.out.size; omega
   have HL := Lib.hid (Blk.new w2 #[.string (⟨#[116]⟩), .string (⟨#[102]⟩)] 9)
   have hax := (Below.refl _ w2).alloc (Nat.le_refl _) (.cells #[.string (⟨#[116]⟩), .string (⟨#[102]⟩)] 9)
   have HRx := Lib.hid (HR2.out.kept hax)
   have HKx := Lib.hid (HK2.out.next hax)
   clear hax
   have HQ : Hid (∀ i, i < 2 → ∃ s, (#[.string (⟨#[116]⟩), .string (⟨#[102]⟩)] : Array Value)[i]? = some (.string s) ∧ s.size = 1) := fun i hi => by
    have hi : i = 0 ∨ i = 1 := by omega
    rcases hi with rfl | rfl <;> exact ⟨_, rfl, by decide⟩
   go_wp2_with fail
   refine (of_any 2 2 (fun s => s.size = 1) HRx.out (by omega) HL.out hneL (by omega) (by omega) HQ.out).mono ?_
   rintro e w3 ⟨o, ho, rfl, hr, hk⟩
   have HR3 := Lib.hid hr
   have HK3 := Lib.hid (HKx.out.trans hk)
   clear hr hk HL HQ HRx HKx
   have HO := Lib.hid ho
   go_wp2_with fail
   go_ret
   exact ⟨o, p + 1 + 1 + 1, by rw [HO.out]; omega, by rw [HO.out]; omega, by omega, rfl, HR3.out, HK3.out⟩
  ·have g0 : (j == 0) = false := by rw [beq_eq_false_iff_ne]; exact e0
   clear e0
   have hneL : w2.heap.size ≠ a := by have := HK2.out.size; omega
   have HL := Lib.hid (Blk.new w2 #[.string (⟨#[61]⟩), .string (⟨#[60]⟩)] 9)
   have hax := (Below.refl _ w2).alloc (Nat.le_refl _) (.cells #[.string (⟨#[61]⟩), .string (⟨#[60]⟩)] 9)
   have HRx := Lib.hid (HR2.out.kept hax)
   have HKx := Lib.hid (HK2.out.next hax)
   clear hax
   have HQ : Hid (∀ i, i < 2 → ∃ s, (#[.string (⟨#[61]⟩), .string (⟨#[60]⟩)] : Array Value)[i]? = some (.string s) ∧ s.size = 1) := fun i hi => by
    have hi : i = 0 ∨ i = 1 := by omega
    rcases hi with rfl | rfl <;> exact ⟨_, rfl, by decide⟩
   go_wp2_with fail
   refine (of_any 2 2 (fun s => s.size = 1) HRx.out (by omega) HL.out hneL (by omega) (by omega) HQ.out).mono ?_
   rintro e w3 ⟨o, ho, rfl, hr, hk⟩
   have HR3 := Lib.hid hr
   have HK3 := Lib.hid (HKx.out.trans hk)
   clear hr hk HL HQ HRx HKx
   have HC := Lib.hid (dE_1 N hN hN2 HR3.out (by omega))
   go_wp2_with fail
   refine HC.out.mono ?_
   rintro e w4 ⟨x, q, x1, x2, hq, rfl, hr, hk⟩
   have HR4 := Lib.hid hr
   have HK4 := Lib.hid (HK3.out.trans hk)
   clear hr hk HC
   have HC := Lib.hid (dE_1 N hN hN2 HR4.out (by omega))
   go_wp2_with fail
   refine HC.out.mono ?_
   rintro e w5 ⟨y, q', y1, y2, hq', rfl, hr, hk⟩
   have HR5 := Lib.hid hr
   have HK5 := Lib.hid (HK4.out.trans hk)
   clear hr hk HC
   obtain ⟨n1, n2⟩ := szd (Nat.le_of_eq ho) x2 y2 (by omega)
   have hs : (o ++ x ++ y).size = 1 + x.size + y.size := by simp [ByteArray.size_append, ho]
   have HS := Lib.hid hs
   clear hs
   go_wp2_with fail
   go_ret
   exact ⟨o ++ x ++ y, q', by rw [HS.out]; omega, by rw [HS.out]; omega, by omega, rfl, HR5.out, HK5.out⟩
 ·by_cases h5 : k < 5
  ·have HC := Lib.hid (HI.out (p + 1) w1 (by omega) HR1.out)
   go_wp2_with fail
   refine HC.out.mono ?_
   rintro e w2 ⟨x, q, x1, x2, hq, rfl, hr, hk⟩
   have HR2 := Lib.hid hr
   have HK2 := Lib.hid (HK1.out.trans hk)
   clear hr hk HC
   obtain ⟨n1, n2⟩ := szd (x := 1) (z := x.size) (Nat.le_refl _) x2 x2 hh
   go_wp2_with fail
   go_ret
   exact ⟨_, q, by rw [ByteArray.size_append]; omega, by rw [ByteArray.size_append, show ByteArray.size ⟨#[33]⟩ = 1 from rfl]; omega, by omega, rfl, HR2.out, HK2.out⟩
  ·have hneL : w1.heap.size ≠ a := by have := HK1.out.size; omega
   have HL := Lib.hid (Blk.new w1 #[.string (⟨#[38]⟩), .string (⟨#[124]⟩)] 9)
   have hax := (Below.refl _ w1).alloc (Nat.le_refl _) (.cells #[.string (⟨#[38]⟩), .string (⟨#[124]⟩)] 9)
   have HRx := Lib.hid (HR1.out.kept hax)
   have HKx := Lib.hid (HK1.out.next hax)
   clear hax
   have HQ : Hid (∀ i, i < 2 → ∃ s, (#[.string (⟨#[38]⟩), .string (⟨#[124]⟩)] : Array Value)[i]? = some (.string s) ∧ s.size = 1) := fun i hi => by
    have hi : i = 0 ∨ i = 1 := by omega
    rcases hi with rfl | rfl <;> exact ⟨_, rfl, by decide⟩
   go_wp2_with fail
   refine (of_any 2 2 (fun s => s.size = 1) HRx.out (by omega) HL.out hneL (by omega) (by omega) HQ.out).mono ?_
   rintro e w3 ⟨o, ho, rfl, hr, hk⟩
   have HR3 := Lib.hid hr
   have HK3 := Lib.hid (HKx.out.trans hk)
   clear hr hk HL HQ HRx HKx
   have HC := Lib.hid (HI.out (p + 1 + 1) w3 (by omega) HR3.out)
   go_wp2_with fail
   refine HC.out.mono ?_
   rintro e w4 ⟨x, q, x1, x2, hq, rfl, hr, hk⟩
   have HR4 := Lib.hid hr
   have HK4 := Lib.hid (HK3.out.trans hk)
   clear hr hk HC
   have HC := Lib.hid (HI.out q w4 (by omega) HR4.out)
   go_wp2_with fail
   refine HC.out.mono ?_
   rintro e w5 ⟨y, q', y1, y2, hq', rfl, hr, hk⟩
   have HR5 := Lib.hid hr
   have HK5 := Lib.hid (HK4.out.trans hk)
   clear hr hk HC
   obtain ⟨n1, n2⟩ := szd (Nat.le_of_eq ho) x2 y2 hh
   have hs : (o ++ x ++ y).size = 1 + x.size + y.size := by simp [ByteArray.size_append, ho]
   have HS := Lib.hid hs
   clear hs
   go_wp2_with fail
   go_ret
   exact ⟨o ++ x ++ y, q', by rw [HS.out]; omega, by rw [HS.out]; omega, by omega, rfl, HR5.out, HK5.out⟩
theorem dT_1 {a p : Nat} (N : ByteArray) (hN : 1 ≤ N.size) (hN2 : N.size ≤ 6) {w : World} (hr : Rd a p w) (hp : p ≤ 600000) :
  Calls Tryz.prog 151 #[.pointer (some ⟨a, 0, none⟩), .int .i64 1, .string N] w (DrP a p 1 15 36 w) :=
 dT_succ N hN hN2 1 0 (by omega) rfl 7 17 (by omega) (by omega) (by omega) hr (by omega) fun q w1 hq h => dT_zero N hN hN2 0 (by omega) h (by omega)
theorem szt {x y z : Nat} (h1 : x ≤ 100000) (h2 : y ≤ 100000) (h3 : z ≤ 100000) : (¬ 9223372036854775807 < 1 + x) ∧ (¬ 9223372036854775807 < 1 + x + y) ∧ (¬ 9223372036854775807 < 1 + x + y + z) := by omega
theorem one_size (c : UInt8) : (⟨#[c]⟩ : ByteArray).size = 1 := rfl
set_option maxRecDepth 100000 in
set_option maxHeartbeats 8000000 in
theorem dS_any {a p : Nat} (N : ByteArray) (hN : 1 ≤ N.size) (hN2 : N.size ≤ 6) {w : World} (hr : Rd a p w) (hp : p ≤ 700000) :
  Calls Tryz.prog 150 #[.pointer (some ⟨a, 0, none⟩), .string N] w (DrP a p 1 5 9 w) := by
 have HR := Lib.hid hr
 have hlt := hr.lt
 clear hr
 have C := Lib.hid (pick_any (N.size : Int) HR.out (by omega) (by omega) (by omega))
 go_enter Tryz.func150, Tryz.ntmps150
 go_wp2_with fail
 refine C.out.mono ?_
 rintro e w1 ⟨k, k0, k1, rfl, hr, hk⟩
 have HR1 := Lib.hid hr
 have HK1 := Lib.hid hk
 clear hr hk C
 obtain ⟨k, rfl⟩ := Int.eq_ofNat_of_zero_le k0
 have h1 : (k : Int) < (N.size : Int) := by omega
 have h2 : (k : Int) + 1 ≤ (N.size : Int) := by omega
 have hz : (N.extract k (k + 1)).size = 1 := by simp [ByteArray.size_extract]; omega
 have HZ := Lib.hid hz
 clear hz
 have C := Lib.hid (pick_any 4 HR1.out (by omega) (by omega) (by omega))
 go_wp2_with fail
 refine C.out.mono ?_
 rintro e w2 ⟨j, j0, j1, rfl, hr, hk⟩
 have HR2 := Lib.hid hr
 have HK2 := Lib.hid (HK1.out.trans hk)
 clear hr hk C
 generalize N.extract k (k + 1) = v at *
 have n1 : ¬ 9223372036854775807 < 1 + v.size := by rw [HZ.out]; omega
 by_cases e0 : j = 0
 ·subst e0
  have hneL : w2.heap.size ≠ a := by have := HK2.out.size; omega
  have HL := Lib.hid (Blk.new w2 #[.string (⟨#[43]⟩), .string (⟨#[45]⟩)] 9)
  have hax := (Below.refl _ w2).alloc (Nat.le_refl _) (.cells #[.string (⟨#[43]⟩), .string (⟨#[45]⟩)] 9)
  have HRx := Lib.hid (HR2.out.kept hax)
  have HKx := Lib.hid (HK2.out.next hax)
  clear hax
  have HQ : Hid (∀ i, i < 2 → ∃ s, (#[.string (⟨#[43]⟩), .string (⟨#[45]⟩)] : Array Value)[i]? = some (.string s) ∧ s.size = 1) := fun i hi => by
   have hi : i = 0 ∨ i = 1 := by omega
   rcases hi with rfl | rfl <;> exact ⟨_, rfl, by decide⟩
  go_wp2_with fail
  refine (of_any 2 2 (fun s => s.size = 1) HRx.out (by omega) HL.out hneL (by omega) (by omega) HQ.out).mono ?_
  rintro e w3 ⟨o, ho, rfl, hr, hk⟩
  have HR3 := Lib.hid hr
  have HK3 := Lib.hid (HKx.out.trans hk)
  clear hr hk HL HQ HRx HKx
  have n2 : ¬ 9223372036854775807 < 1 + v.size + o.size := by rw [HZ.out, ho]; omega
  have n3 : ¬ 9223372036854775807 < 1 + v.size + o.size + v.size := by rw [HZ.out, ho]; omega
  have HO := Lib.hid ho
  clear ho
  have C := Lib.hid (pick_any 2 HR3.out (by omega) (by omega) (by omega))
  go_wp2_with fail
  refine C.out.mono ?_
  rintro e w4 ⟨i, i0, i1, rfl, hr, hk⟩
  have HR4 := Lib.hid hr
  have HK4 := Lib.hid (HK3.out.trans hk)
  clear hr hk C
  have ew : IntKind.i64.wrap (1 + i) = 1 + i := IntWalk.i64_in _ (by omega)
  have HD := Lib.hid (dec_one (1 + i) (by omega) (by omega) w4)
  go_wp2_with fail
  refine HD.out.mono ?_
  rintro e w5 ⟨s, hs, rfl, hb⟩
  have HR5 := Lib.hid (HR4.out.kept hb)
  have HK5 := Lib.hid (HK4.out.next hb)
  clear hb HD
  have n4 : ¬ 9223372036854775807 < 1 + v.size + o.size + v.size + s.size := by rw [HZ.out, HO.out, hs]; omega
  have hz : ((⟨#[97]⟩ : ByteArray) ++ v ++ o ++ v ++ s).size = 5 := by simp only [ByteArray.size_append, HZ.out, HO.out, hs, one_size]
  have HS := Lib.hid hz
  clear hz hs
  go_wp2_with fail
  go_ret
  exact ⟨(⟨#[97]⟩ : ByteArray) ++ v ++ o ++ v ++ s, _, by rw [HS.out]; omega, by rw [HS.out]; omega, by omega, rfl, HR5.out, HK5.out⟩
 have g0 : (j == 0) = false := by rw [beq_eq_false_iff_ne]; exact e0
 clear e0
 by_cases e1 : j = 1
 ·subst e1
  have C := Lib.hid (pick_any 3 HR2.out (by omega) (by omega) (by omega))
  go_wp2_with fail
  refine C.out.mono ?_
  rintro e w4 ⟨i, i0, i1, rfl, hr, hk⟩
  have HR4 := Lib.hid hr
  have HK4 := Lib.hid (HK2.out.trans hk)
  clear hr hk C
  have HD := Lib.hid (dec_one i (by omega) (by omega) w4)
  go_wp2_with fail
  refine HD.out.mono ?_
  rintro e w5 ⟨s, hs, rfl, hb⟩
  have HR5 := Lib.hid (HR4.out.kept hb)
  have HK5 := Lib.hid (HK4.out.next hb)
  clear hb HD
  have n4 : ¬ 9223372036854775807 < 1 + v.size + s.size := by rw [HZ.out, hs]; omega
  have hz : ((⟨#[97]⟩ : ByteArray) ++ v ++ s).size = 3 := by simp only [ByteArray.size_append, HZ.out, hs, one_size]
  have HS := Lib.hid hz
  clear hz hs
  go_wp2_with fail
  go_ret
  exact ⟨(⟨#[97]⟩ : ByteArray) ++ v ++ s, _, by rw [HS.out]; omega, by rw [HS.out]; omega, by omega, rfl, HR5.out, HK5.out⟩
 have g1 : (j == 1) = false := by rw [beq_eq_false_iff_ne]; exact e1
 clear e1
 have HC := Lib.hid (dE_1 N hN hN2 HR2.out (by omega))
 go_wp2_with fail
 refine HC.out.mono ?_
 rintro e w3 ⟨x, q, x1, x2, hq, rfl, hr, hk⟩
 have HR3 := Lib.hid hr
 have HK3 := Lib.hid (HK2.out.trans hk)
 clear hr hk HC
 have n4 : ¬ 9223372036854775807 < 1 + v.size + x.size := by rw [HZ.out]; omega
 have hz : ((⟨#[97]⟩ : ByteArray) ++ v ++ x).size = 2 + x.size := by simp only [ByteArray.size_append, HZ.out, one_size]
 have HS := Lib.hid hz
 clear hz
 go_wp2_with fail
 go_ret
 exact ⟨(⟨#[97]⟩ : ByteArray) ++ v ++ x, _, by rw [HS.out]; omega, by rw [HS.out]; omega, by omega, rfl, HR3.out, HK3.out⟩
set_option maxRecDepth 100000 in
set_option maxHeartbeats 8000000 in
theorem dP_zero {a p : Nat} (N : ByteArray) (hN : 1 ≤ N.size) (hN2 : N.size ≤ 6) (d : Int) (b : Bool) (hd : d ≤ 0) {w : World} (hr : Rd a p w) (hp : p ≤ 600000) :
  Calls Tryz.prog 79 #[.pointer (some ⟨a, 0, none⟩), .int .i64 d, .bool b, .string N] w (DrP a p 1 5 11 w) := by
 have HR := Lib.hid hr
 clear hr
 have C := Lib.hid (pick_any 12 HR.out (by omega) (by omega) (by omega))
 go_enter Tryz.func79, Tryz.ntmps79
 go_wp2_with fail
 refine C.out.mono ?_
 rintro e w1 ⟨k, k0, k1, rfl, hr, hk⟩
 have HR1 := Lib.hid hr
 have HK1 := Lib.hid hk
 clear hr hk C
 have C := Lib.hid (pick_any 8 HR1.out (by omega) (by omega) (by omega))
 go_wp2_with fail
 refine C.out.mono ?_
 rintro e w2 ⟨j, j0, j1, rfl, hr, hk⟩
 have HR2 := Lib.hid hr
 have HK2 := Lib.hid (HK1.out.trans hk)
 clear hr hk C
 by_cases e0 : j = 0
 ·subst e0
  go_wp2_with fail
  go_ret
  exact ⟨⟨#[115]⟩, _, by rw [one_size]; omega, by rw [one_size]; omega, by omega, rfl, HR2.out, HK2.out⟩
 ·have g0 : (j == 0) = false := by rw [beq_eq_false_iff_ne]; exact e0
  clear e0
  have HC := Lib.hid (dS_any N hN hN2 HR2.out (by omega))
  go_wp2_with fail
  refine HC.out.mono ?_
  rintro e w3 ⟨x, q, x1, x2, hq, rfl, hr, hk⟩
  have HR3 := Lib.hid hr
  have HK3 := Lib.hid (HK2.out.trans hk)
  clear hr hk HC
  go_wp2_with fail
  go_ret
  exact ⟨x, q, x1, by omega, by omega, rfl, HR3.out, HK3.out⟩
set_option maxRecDepth 100000 in
set_option maxHeartbeats 16000000 in
theorem dP_succ {a p : Nat} (N : ByteArray) (hN : 1 ≤ N.size) (hN2 : N.size ≤ 6) (d m : Int) (b : Bool) (hd : ¬ d ≤ 0) (hm : IntKind.i64.wrap (d - 1) = m) (hi c : Nat) (hh : hi ≤ 10000) (h5 : 5 ≤ hi) (h11 : 11 ≤ c) {w : World} (hr : Rd a p w) (hp : p + (2 * c + 37) ≤ 600000)
  (IH : ∀ (q : Nat) (w1 : World), q ≤ p + (c + 37) → Rd a q w1 → Calls Tryz.prog 79 #[.pointer (some ⟨a, 0, none⟩), .int .i64 m, .bool b, .string N] w1 (DrP a q 1 hi c w1)) :
  Calls Tryz.prog 79 #[.pointer (some ⟨a, 0, none⟩), .int .i64 d, .bool b, .string N] w (DrP a p 1 (2 * hi + 16) (2 * c + 37) w) := by
 have HR := Lib.hid hr
 have HI := Lib.hid IH
 clear hr IH
 have C := Lib.hid (pick_any 12 HR.out (by omega) (by omega) (by omega))
 go_enter Tryz.func79, Tryz.ntmps79
 go_wp2_with fail
 refine C.out.mono ?_
 rintro e w1 ⟨k, k0, k1, rfl, hr, hk⟩
 have HR1 := Lib.hid hr
 have HK1 := Lib.hid hk
 clear hr hk C
 by_cases h2 : k < 2
 ·have C := Lib.hid (pick_any 8 HR1.out (by omega) (by omega) (by omega))
  go_wp2_with fail
  refine C.out.mono ?_
  rintro e w2 ⟨j, j0, j1, rfl, hr, hk⟩
  have HR2 := Lib.hid hr
  have HK2 := Lib.hid (HK1.out.trans hk)
  clear hr hk C
  by_cases e0 : j = 0
  ·subst e0
   go_wp2_with fail
   go_ret
   exact ⟨⟨#[115]⟩, _, by rw [one_size]; omega, by rw [one_size]; omega, by omega, rfl, HR2.out, HK2.out⟩
  ·have g0 : (j == 0) = false := by rw [beq_eq_false_iff_ne]; exact e0
   clear e0
   have HC := Lib.hid (dS_any N hN hN2 HR2.out (by omega))
   go_wp2_with fail
   refine HC.out.mono ?_
   rintro e w3 ⟨x, q, x1, x2, hq, rfl, hr, hk⟩
   have HR3 := Lib.hid hr
   have HK3 := Lib.hid (HK2.out.trans hk)
   clear hr hk HC
   go_wp2_with fail
   go_ret
   exact ⟨x, q, x1, by omega, by omega, rfl, HR3.out, HK3.out⟩
 by_cases h6 : k < 6
 ·have HC := Lib.hid (HI.out (p + 1) w1 (by omega) HR1.out)
  go_wp2_with fail
  refine HC.out.mono ?_
  rintro e w2 ⟨x, q2, x1, x2, hq2, rfl, hr, hk⟩
  have HR2 := Lib.hid hr
  have HK2 := Lib.hid (HK1.out.trans hk)
  clear hr hk HC
  have HC := Lib.hid (HI.out (q2) w2 (by omega) HR2.out)
  go_wp2_with fail
  refine HC.out.mono ?_
  rintro e w3 ⟨y, q3, y1, y2, hq3, rfl, hr, hk⟩
  have HR3 := Lib.hid hr
  have HK3 := Lib.hid (HK2.out.trans hk)
  clear hr hk HC
  obtain ⟨m1, m2, m3⟩ := szt (by omega : x.size ≤ 100000) (by omega : y.size ≤ 100000) (Nat.zero_le _ : (0 : Nat) ≤ 100000)
  have hz : ((⟨#[59]⟩ : ByteArray) ++ x ++ y).size = 1 + x.size + y.size := by simp only [ByteArray.size_append, one_size]
  have HS := Lib.hid hz
  clear hz
  go_wp2_with fail
  go_ret
  exact ⟨(⟨#[59]⟩ : ByteArray) ++ x ++ y, _, by rw [HS.out]; omega, by rw [HS.out]; omega, by omega, rfl, HR3.out, HK3.out⟩
 by_cases h8 : k < 8
 ·have HC := Lib.hid (dT_1 N hN hN2 HR1.out (by omega))
  go_wp2_with fail
  refine HC.out.mono ?_
  rintro e w2 ⟨t, q2, t1, t2, hq2, rfl, hr, hk⟩
  have HR2 := Lib.hid hr
  have HK2 := Lib.hid (HK1.out.trans hk)
  clear hr hk HC
  have HC := Lib.hid (HI.out (q2) w2 (by omega) HR2.out)
  go_wp2_with fail
  refine HC.out.mono ?_
  rintro e w3 ⟨x, q3, x1, x2, hq3, rfl, hr, hk⟩
  have HR3 := Lib.hid hr
  have HK3 := Lib.hid (HK2.out.trans hk)
  clear hr hk HC
  have HC := Lib.hid (HI.out (q3) w3 (by omega) HR3.out)
  go_wp2_with fail
  refine HC.out.mono ?_
  rintro e w4 ⟨y, q4, y1, y2, hq4, rfl, hr, hk⟩
  have HR4 := Lib.hid hr
  have HK4 := Lib.hid (HK3.out.trans hk)
  clear hr hk HC
  obtain ⟨m1, m2, m3⟩ := szt (by omega : t.size ≤ 100000) (by omega : x.size ≤ 100000) (by omega : y.size ≤ 100000)
  have hz : ((⟨#[63]⟩ : ByteArray) ++ t ++ x ++ y).size = 1 + t.size + x.size + y.size := by simp only [ByteArray.size_append, one_size]
  have HS := Lib.hid hz
  clear hz
  go_wp2_with fail
  go_ret
  exact ⟨(⟨#[63]⟩ : ByteArray) ++ t ++ x ++ y, _, by rw [HS.out]; omega, by rw [HS.out]; omega, by omega, rfl, HR4.out, HK4.out⟩
 by_cases h10 : k < 10
 ·have HC := Lib.hid (dT_1 N hN hN2 HR1.out (by omega))
  go_wp2_with fail
  refine HC.out.mono ?_
  rintro e w2 ⟨t, q2, t1, t2, hq2, rfl, hr, hk⟩
  have HR2 := Lib.hid hr
  have HK2 := Lib.hid (HK1.out.trans hk)
  clear hr hk HC
  have HC := Lib.hid (HI.out (q2) w2 (by omega) HR2.out)
  go_wp2_with fail
  refine HC.out.mono ?_
  rintro e w3 ⟨x, q3, x1, x2, hq3, rfl, hr, hk⟩
  have HR3 := Lib.hid hr
  have HK3 := Lib.hid (HK2.out.trans hk)
  clear hr hk HC
  obtain ⟨m1, m2, m3⟩ := szt (by omega : t.size ≤ 100000) (by omega : x.size ≤ 100000) (Nat.zero_le _ : (0 : Nat) ≤ 100000)
  have hz : ((⟨#[64]⟩ : ByteArray) ++ t ++ x).size = 1 + t.size + x.size := by simp only [ByteArray.size_append, one_size]
  have HS := Lib.hid hz
  clear hz
  go_wp2_with fail
  go_ret
  exact ⟨(⟨#[64]⟩ : ByteArray) ++ t ++ x, _, by rw [HS.out]; omega, by rw [HS.out]; omega, by omega, rfl, HR3.out, HK3.out⟩
 cases b
 case true =>
  have HC := Lib.hid (dT_1 N hN hN2 HR1.out (by omega))
  go_wp2_with fail
  refine HC.out.mono ?_
  rintro e w2 ⟨t, q2, t1, t2, hq2, rfl, hr, hk⟩
  have HR2 := Lib.hid hr
  have HK2 := Lib.hid (HK1.out.trans hk)
  clear hr hk HC
  have HC := Lib.hid (HI.out (q2) w2 (by omega) HR2.out)
  go_wp2_with fail
  refine HC.out.mono ?_
  rintro e w3 ⟨x, q3, x1, x2, hq3, rfl, hr, hk⟩
  have HR3 := Lib.hid hr
  have HK3 := Lib.hid (HK2.out.trans hk)
  clear hr hk HC
  obtain ⟨m1, m2, m3⟩ := szt (by omega : t.size ≤ 100000) (by omega : x.size ≤ 100000) (Nat.zero_le _ : (0 : Nat) ≤ 100000)
  have hz : ((⟨#[64]⟩ : ByteArray) ++ t ++ x).size = 1 + t.size + x.size := by simp only [ByteArray.size_append, one_size]
  have HS := Lib.hid hz
  clear hz
  go_wp2_with fail
  go_ret
  exact ⟨(⟨#[64]⟩ : ByteArray) ++ t ++ x, _, by rw [HS.out]; omega, by rw [HS.out]; omega, by omega, rfl, HR3.out, HK3.out⟩
 case false =>
  by_cases h12 : k < 11
  ·have HC := Lib.hid (HI.out (p + 1) w1 (by omega) HR1.out)
   go_wp2_with fail
   refine HC.out.mono ?_
   rintro e w2 ⟨x, q2, x1, x2, hq2, rfl, hr, hk⟩
   have HR2 := Lib.hid hr
   have HK2 := Lib.hid (HK1.out.trans hk)
   clear hr hk HC
   have HC := Lib.hid (HI.out (q2) w2 (by omega) HR2.out)
   go_wp2_with fail
   refine HC.out.mono ?_
   rintro e w3 ⟨y, q3, y1, y2, hq3, rfl, hr, hk⟩
   have HR3 := Lib.hid hr
   have HK3 := Lib.hid (HK2.out.trans hk)
   clear hr hk HC
   obtain ⟨m1, m2, m3⟩ := szt (by omega : x.size ≤ 100000) (by omega : y.size ≤ 100000) (Nat.zero_le _ : (0 : Nat) ≤ 100000)
   have hz : ((⟨#[47]⟩ : ByteArray) ++ x ++ y).size = 1 + x.size + y.size := by simp only [ByteArray.size_append, one_size]
   have HS := Lib.hid hz
   clear hz
   go_wp2_with fail
   go_ret
   exact ⟨(⟨#[47]⟩ : ByteArray) ++ x ++ y, _, by rw [HS.out]; omega, by rw [HS.out]; omega, by omega, rfl, HR3.out, HK3.out⟩
  ·have HC := Lib.hid (dT_1 N hN hN2 HR1.out (by omega))
   go_wp2_with fail
   refine HC.out.mono ?_
   rintro e w2 ⟨t, q2, t1, t2, hq2, rfl, hr, hk⟩
   have HR2 := Lib.hid hr
   have HK2 := Lib.hid (HK1.out.trans hk)
   clear hr hk HC
   obtain ⟨m1, m2, m3⟩ := szt (by omega : t.size ≤ 100000) (Nat.zero_le _ : (0 : Nat) ≤ 100000) (Nat.zero_le _ : (0 : Nat) ≤ 100000)
   have hz : ((⟨#[126]⟩ : ByteArray) ++ t).size = 1 + t.size := by simp only [ByteArray.size_append, one_size]
   have HS := Lib.hid hz
   clear hz
   go_wp2_with fail
   go_ret
   exact ⟨(⟨#[126]⟩ : ByteArray) ++ t, _, by rw [HS.out]; omega, by rw [HS.out]; omega, by omega, rfl, HR2.out, HK2.out⟩
theorem dP_1 {a p : Nat} (N : ByteArray) (hN : 1 ≤ N.size) (hN2 : N.size ≤ 6) (b : Bool) {w : World} (hr : Rd a p w) (hp : p ≤ 500000) :
  Calls Tryz.prog 79 #[.pointer (some ⟨a, 0, none⟩), .int .i64 1, .bool b, .string N] w (DrP a p 1 26 59 w) :=
 dP_succ N hN hN2 1 0 b (by omega) rfl 5 11 (by omega) (by omega) (by omega) hr (by omega) fun q w1 hq h => dP_zero N hN hN2 0 b (by omega) h (by omega)
theorem dP_2 {a p : Nat} (N : ByteArray) (hN : 1 ≤ N.size) (hN2 : N.size ≤ 6) (b : Bool) {w : World} (hr : Rd a p w) (hp : p ≤ 400000) :
  Calls Tryz.prog 79 #[.pointer (some ⟨a, 0, none⟩), .int .i64 2, .bool b, .string N] w (DrP a p 1 68 155 w) :=
 dP_succ N hN hN2 2 1 b (by omega) rfl 26 59 (by omega) (by omega) (by omega) hr (by omega) fun q w1 hq h => dP_1 N hN hN2 b h (by omega)
theorem dP_3 {a p : Nat} (N : ByteArray) (hN : 1 ≤ N.size) (hN2 : N.size ≤ 6) (b : Bool) {w : World} (hr : Rd a p w) (hp : p ≤ 300000) :
  Calls Tryz.prog 79 #[.pointer (some ⟨a, 0, none⟩), .int .i64 3, .bool b, .string N] w (DrP a p 1 152 347 w) :=
 dP_succ N hN hN2 3 2 b (by omega) rfl 68 155 (by omega) (by omega) (by omega) hr (by omega) fun q w1 hq h => dP_2 N hN hN2 b h (by omega)
theorem DrP.wide {a p lo hi c hi' c' : Nat} {w w' : World} {e : Ending} (h : DrP a p lo hi c w e w') (h1 : hi ≤ hi') (h2 : c ≤ c') : DrP a p lo hi' c' w e w' := by
 obtain ⟨s, q, s1, s2, hq, he, hr, hk⟩ := h
 exact ⟨s, q, s1, by omega, by omega, he, hr, hk⟩
theorem dP_any {a p : Nat} (N : ByteArray) (hN : 1 ≤ N.size) (hN2 : N.size ≤ 6) (b : Bool) (d : Int) (h1 : 1 ≤ d) (h3 : d ≤ 3) {w : World} (hr : Rd a p w) (hp : p ≤ 300000) :
  Calls Tryz.prog 79 #[.pointer (some ⟨a, 0, none⟩), .int .i64 d, .bool b, .string N] w (DrP a p 1 152 347 w) := by
 have : d = 1 ∨ d = 2 ∨ d = 3 := by omega
 rcases this with rfl | rfl | rfl
 ·exact (dP_1 N hN hN2 b hr (by omega)).mono fun e w' h => h.wide (by omega) (by omega)
 ·exact (dP_2 N hN hN2 b hr (by omega)).mono fun e w' h => h.wide (by omega) (by omega)
 ·exact dP_3 N hN hN2 b hr hp
set_option maxRecDepth 100000 in
set_option maxHeartbeats 8000000 in
theorem some3 {a p : Nat} {w : World} (hr : Rd a p w) (hp : p ≤ 200000) :
  Calls Tryz.prog 168 #[.pointer (some ⟨a, 0, none⟩)] w (DrP a p 1 152 349 w) := by
 have HR := Lib.hid hr
 clear hr
 have C := Lib.hid (pick_any 3 HR.out (by omega) (by omega) (by omega))
 go_enter Tryz.func168, Tryz.ntmps168
 go_wp2_with fail
 refine C.out.mono ?_
 rintro e w1 ⟨k, k0, k1, rfl, hr, hk⟩
 have HR1 := Lib.hid hr
 have HK1 := Lib.hid hk
 clear hr hk C
 have ew : IntKind.i64.wrap (1 + k) = 1 + k := IntWalk.i64_in _ (by omega)
 have C := Lib.hid (pick_any 2 HR1.out (by omega) (by omega) (by omega))
 go_wp2_with fail
 refine C.out.mono ?_
 rintro e w2 ⟨j, j0, j1, rfl, hr, hk⟩
 have HR2 := Lib.hid hr
 have HK2 := Lib.hid (HK1.out.trans hk)
 clear hr hk C
 have HC := Lib.hid (dP_any ⟨#[120, 121, 122]⟩ (by decide) (by decide) (j == 0) (1 + k) (by omega) (by omega) HR2.out (by omega))
 go_wp2_with fail
 refine HC.out.mono ?_
 rintro e w3 ⟨x, q, x1, x2, hq, rfl, hr, hk⟩
 have HR3 := Lib.hid hr
 have HK3 := Lib.hid (HK2.out.trans hk)
 clear hr hk HC
 go_wp2_with fail
 go_ret
 exact ⟨x, q, x1, x2, by omega, rfl, HR3.out, HK3.out⟩
def SB (a p : Nat) (w w' : World) : Prop := ∃ q : Nat, q ≤ p ∧ Rd a q w' ∧ Kp a w w'
theorem sb_done {a p hi : Nat} {w w' : World} {s : ByteArray} {e : Ending} (hs : s.size ≤ hi) (he : e = .returned (.string s)) (h : SB a (p + 3) w w') : DrP a p 0 hi 3 w e w' := by
 obtain ⟨q, hq, hr, hk⟩ := h
 exact ⟨s, q, Nat.zero_le _, hs, hq, he, hr, hk⟩
theorem szb {s x : Nat} (hs : s ≤ 100000) (hx : x = 1) : ¬ 9223372036854775807 < s + x := by omega
theorem szc {s x k : Nat} (hs : s ≤ 100000) (hx : x = 1) (hk : k + 1 ≤ s) : (¬ 9223372036854775807 < k + x) ∧ (¬ 9223372036854775807 < k + x + (s - (k + 1))) ∧ (¬ 9223372036854775807 < k + 1 + (s - (k + 1))) ∧ (¬ 9223372036854775807 < min k s + x) ∧ (¬ 9223372036854775807 < min k s + x + (s - (k + 1))) := by omega
set_option maxRecDepth 100000 in
set_option maxHeartbeats 8000000 in
theorem bad3 {a p : Nat} (t : ByteArray) (h1 : 1 ≤ t.size) (h2 : t.size ≤ 100000) {w : World} (hr : Rd a p w) (hp : p ≤ 900000) :
  Calls Tryz.prog 78 #[.pointer (some ⟨a, 0, none⟩), .string t] w (DrP a p 0 (t.size + 1) 3 w) := by
 have HR := Lib.hid hr
 have hlt := hr.lt
 clear hr
 have C := Lib.hid (pick_any 40 HR.out (by omega) (by omega) (by omega))
 go_enter Tryz.func78, Tryz.ntmps78
 go_wp2_with fail
 refine C.out.mono ?_
 rintro e w1 ⟨k, k0, k1, rfl, hr, hk⟩
 have HR1 := Lib.hid hr
 have HK1 := Lib.hid hk
 clear hr hk C
 by_cases e0 : k = 0
 ·subst e0
  have hneL : w1.heap.size ≠ a := by have := HK1.out.size; omega
  have HL := Lib.hid (Blk.new w1 #[.string (⟨#[115]⟩), .string (⟨#[120]⟩), .string (⟨#[32]⟩)] 9)
  have hax := (Below.refl _ w1).alloc (Nat.le_refl _) (.cells #[.string (⟨#[115]⟩), .string (⟨#[120]⟩), .string (⟨#[32]⟩)] 9)
  have HRx := Lib.hid (HR1.out.kept hax)
  have HKx := Lib.hid (HK1.out.next hax)
  clear hax
  have HQ : Hid (∀ i, i < 3 → ∃ s, (#[.string (⟨#[115]⟩), .string (⟨#[120]⟩), .string (⟨#[32]⟩)] : Array Value)[i]? = some (.string s) ∧ s.size = 1) := fun i hi => by
   have hi : i = 0 ∨ i = 1 ∨ i = 2 := by omega
   rcases hi with rfl | rfl | rfl <;> exact ⟨_, rfl, by decide⟩
  go_wp2_with fail
  refine (of_any 3 3 (fun s => s.size = 1) HRx.out (by omega) HL.out hneL (by omega) (by omega) HQ.out).mono ?_
  rintro e w2 ⟨x, hx, rfl, hr, hk⟩
  have HR2 := Lib.hid hr
  have HK2 := Lib.hid (HKx.out.trans hk)
  clear hr hk
  have n1 := szb h2 hx
  go_wp2_with fail
  go_ret
  exact ⟨_, p + 1 + 1, Nat.zero_le _, by rw [ByteArray.size_append, hx]; exact Nat.le_refl _, by omega, rfl, HR2.out, HK2.out⟩
 have g0 : (k == 0) = false := by rw [beq_eq_false_iff_ne]; exact e0
 clear e0
 by_cases e1 : k = 1
 ·subst e1
  have ew : IntKind.i64.wrap ((t.size : Int) - 1) = ((t.size - 1 : Nat) : Int) := (IntWalk.i64_in _ (by omega)).trans (by omega)
  go_wp2_with fail
  go_ret
  exact ⟨_, p + 1, Nat.zero_le _, by simp only [ByteArray.size_extract]; omega, by omega, rfl, HR1.out, HK1.out⟩
 have g1 : (k == 1) = false := by rw [beq_eq_false_iff_ne]; exact e1
 clear e1
 by_cases e2 : k = 2
 ·subst e2
  have C := Lib.hid (pick_any (t.size : Int) HR1.out (by omega) (by omega) (by omega))
  go_wp2_with fail
  refine C.out.mono ?_
  rintro e w2 ⟨k, k0, k1, rfl, hr, hk⟩
  have HR2 := Lib.hid hr
  have HK2 := Lib.hid (HK1.out.trans hk)
  clear hr hk C g0 g1
  obtain ⟨k, rfl⟩ := Int.eq_ofNat_of_zero_le k0
  have hk1 : k + 1 ≤ t.size := by omega
  have hneL : w2.heap.size ≠ a := by have := HK2.out.size; omega
  have HL := Lib.hid (Blk.new w2 #[.string (⟨#[88]⟩), .string (⟨#[119]⟩), .string (⟨#[59]⟩), .string (⟨#[64]⟩)] 9)
  have hax := (Below.refl _ w2).alloc (Nat.le_refl _) (.cells #[.string (⟨#[88]⟩), .string (⟨#[119]⟩), .string (⟨#[59]⟩), .string (⟨#[64]⟩)] 9)
  have HRx := Lib.hid (HR2.out.kept hax)
  have HKx := Lib.hid (HK2.out.next hax)
  clear hax
  have HQ : Hid (∀ i, i < 4 → ∃ s, (#[.string (⟨#[88]⟩), .string (⟨#[119]⟩), .string (⟨#[59]⟩), .string (⟨#[64]⟩)] : Array Value)[i]? = some (.string s) ∧ s.size = 1) := fun i hi => by
   have hi : i = 0 ∨ i = 1 ∨ i = 2 ∨ i = 3 := by omega
   rcases hi with rfl | rfl | rfl | rfl <;> exact ⟨_, rfl, by decide⟩
  have hs0 : SB a (p + 3) w w2.drew := ⟨_, by omega, HR2.out.kept (Below.refl _ _).drew, HK2.out.next (Below.refl _ _).drew⟩
  have hs1 : SB a (p + 3) w (w2.alloc (.cells #[.string (⟨#[88]⟩), .string (⟨#[119]⟩), .string (⟨#[59]⟩), .string (⟨#[64]⟩)] 9)).drew := ⟨_, by omega, HRx.out.kept (Below.refl _ _).drew, HKx.out.next (Below.refl _ _).drew⟩
  have HRy := Lib.hid (HRx.out.kept (Below.refl _ _).drew)
  have HKy := Lib.hid (HKx.out.next (Below.refl _ _).drew)
  have HLy := Lib.hid HL.out.drew
  have C := Lib.hid (of_any 4 4 (fun s => s.size = 1) HRy.out (by omega) HLy.out hneL (by omega) (by omega) HQ.out)
  have ew : IntKind.i64.wrap ((k : Int) + 1) = (k : Int) + 1 := IntWalk.i64_in _ (by omega)
  have hq0 : (0 : Int) ≤ (k : Int) + 1 := by omega
  have hq1 : (k : Int) ≤ (t.size : Int) := by omega
  have hq2 : (k : Int) + 1 ≤ (t.size : Int) := by omega
  have hq3 : k ≤ t.size := by omega
  have hq4 : ((k : Int) + 1).toNat = k + 1 := by omega
  have hq5 : min k t.size = k := by omega
  clear HR HR1 HK1 HL HRx HQ HLy HKx
  go_wp2_with fail
  go_region_held3 (fun w' => SB a (p + 3) w w')
   (first | assumption | (go_split_ands; assumption))
   (first
    | (go_at_call 118; (with_reducible refine C.out.mono ?_); rintro e w6 ⟨s, hs, rfl, hr, hk⟩; have hbw3 : SB a (p + 3) w w6 := ⟨_, by omega, hr, HKy.out.trans hk⟩; obtain ⟨n0, n1, n2, n3, n4⟩ := szc h2 hs hk1; replace hs := Lib.hid hs))
  all_goals
   go_split_ands
   go_wp2_with fail
   go_ret
   have hz : (t.extract 0 k ++ s ++ t.extract (k + 1) t.size).size ≤ t.size + 1 := by simp only [ByteArray.size_append, ByteArray.size_extract, hs.out]; omega
   exact sb_done hz rfl (by assumption)
 have g2 : (k == 2) = false := by rw [beq_eq_false_iff_ne]; exact e2
 clear e2
 go_wp2_with fail
 go_ret
 exact ⟨_, p + 1, Nat.zero_le _, by omega, by omega, rfl, HR1.out, HK1.out⟩
set_option maxHeartbeats 4000000 in
theorem open3 {a p : Nat} {w : World} (hr : Rd a p w) (hp : p ≤ 200000) :
  Calls Tryz.prog 92 #[.pointer (some ⟨a, 0, none⟩)] w (DrP a p 0 153 352 w) := by
 have HC := Lib.hid (some3 hr hp)
 clear hr
 go_enter Tryz.func92, Tryz.ntmps92
 go_wp2_with fail
 refine HC.out.mono ?_
 rintro e w1 ⟨x, q, x1, x2, hq, rfl, hr, hk⟩
 have HK1 := Lib.hid hk
 have HC := Lib.hid (bad3 x x1 (by omega) hr (by omega))
 clear hr hk
 go_wp2_with fail
 refine HC.out.mono ?_
 rintro e w2 ⟨y, q', y1, y2, hq', rfl, hr, hk⟩
 have HR2 := Lib.hid hr
 have HK2 := Lib.hid (HK1.out.trans hk)
 clear hr hk
 go_wp2_with fail
 go_ret
 exact ⟨y, q', y1, by omega, by omega, rfl, HR2.out, HK2.out⟩
def sub1 (c : UInt8) (new l : List UInt8) : List UInt8 := l.flatMap fun b => if b = c then new else [b]
theorem sub1_append (c : UInt8) (new a b : List UInt8) : sub1 c new (a ++ b) = sub1 c new a ++ sub1 c new b := by simp [sub1]
theorem sub1_cons (c b : UInt8) (new l : List UInt8) : sub1 c new (b :: l) = (if b = c then new else [b]) ++ sub1 c new l := by simp [sub1]
theorem sub1_le (c : UInt8) (new : List UInt8) (hn : new.length ≤ 200) : ∀ l, (sub1 c new l).length ≤ 200 * l.length
 | [] => by simp [sub1]
 | b :: l => by
  rw [sub1_cons, List.length_append]
  have := sub1_le c new hn l
  split <;> simp <;> omega
set_option maxHeartbeats 2000000 in
theorem specSub (c : UInt8) (s y : ByteArray) (w : World) (hs : s.size ≤ 200) (hy : y.size ≤ 200) :
  Calls Tryz.prog 135 #[.string s, .int .u8 c.toNat, .string y] w fun e w' => e = .returned (.string (bs (sub1 c y.data.toList s.data.toList))) ∧ w = w' := by
 go_enter Tryz.func135, Tryz.ntmps135
 go_wp2_with fail
 go_loop [7, 8] (fun out i => ∃ (k : Nat) (o : ByteArray), k ≤ s.size ∧ i = .int .i64 k ∧ out = .string o ∧ o.size ≤ 200 * k ∧ Hid (o = bs (sub1 c y.data.toList (s.data.toList.take k)))) (fun _ i => s.size - (intOf i).toNat)
 case atStart => exact ⟨0, bs [], Nat.zero_le _, rfl, rfl, by simp [bs, ByteArray.size], rfl⟩
 case round =>
  obtain ⟨k, o, hk, rfl, rfl, ho, HO⟩ := hrel
  by_cases hlt : k < s.size
  ·have htake : s.data.toList.take (k + 1) = s.data.toList.take k ++ [s[k]] := by
    rw [List.take_succ_eq_append_getElem (by simpa using hlt)]; rfl
   have hv : sub1 c y.data.toList (s.data.toList.take (k + 1)) = sub1 c y.data.toList (s.data.toList.take k) ++ (if s[k] = c then y.data.toList else [s[k]]) := by
    rw [htake, sub1_append]; simp [sub1]
   have X := Lib.hid (extract_one s k hlt)
   by_cases h : s[k] = c
   ·have ht : ((s[k].toNat : Int) == (c.toNat : Int)) = true := by rw [h]; simp
    rw [if_pos h] at hv
    have HV := Lib.hid hv
    clear h hv htake
    go_wp2_with fail
    go_round
    case rel => exact ⟨k + 1, o ++ y, by omega, by go_num, rfl, by rw [ByteArray.size_append]; omega, by
     show _ = _
     rw [HV.out, HO.out, ← bs_append]; rfl⟩
    case measure => simp [intOf]; omega
   ·have ht : ((s[k].toNat : Int) == (c.toNat : Int)) = false := by
     rw [beq_eq_false_iff_ne]; intro e; exact h (UInt8.toNat_inj.1 (by exact_mod_cast e))
    rw [if_neg h] at hv
    have HV := Lib.hid hv
    clear h hv htake
    go_wp2_with fail
    go_round
    case rel => exact ⟨k + 1, o ++ s.extract k (k + 1), by omega, by go_num, rfl, by rw [X.out, ByteArray.size_append, bs_size]; simp; omega, by show _ = _; rw [X.out, HV.out, HO.out, bs_append]⟩
    case measure => simp [intOf]; omega
  ·have hfin : Hid (o = bs (sub1 c y.data.toList s.data.toList)) := by
    show _ = _
    rw [HO.out, List.take_of_length_le (by simp; omega)]
   go_wp2_with fail
   go_ret
   exact ⟨by rw [← hfin.out]; rfl, rfl⟩
def TenPost (a p : Nat) (w : World) (e : Ending) (w' : World) : Prop := ∃ (s t : ByteArray) (q : Nat), s.size ≤ 100000 ∧ t.size ≤ 100000 ∧ q ≤ p + 1000 ∧ e = .returned (.tuple #[.string s, .string t]) ∧ Rd a q w' ∧ Kp a w w'
theorem szj {x : Nat} (h : x ≤ 1000) : (¬ 9223372036854775807 < 2 + x) ∧ (¬ 9223372036854775807 < 2 + x + 1) ∧ (¬ 9223372036854775807 < 1 + x) := by omega
theorem szj2 {x y : Nat} (h : x ≤ 1000) (k : y ≤ 1000) : ¬ 9223372036854775807 < 1 + x + y := by omega
theorem sub_size (c : UInt8) (y s : ByteArray) (hs : s.size ≤ 200) (hy : y.size ≤ 200) : (bs (sub1 c y.data.toList s.data.toList)).size ≤ 100000 := by
 have h := sub1_le c y.data.toList (by simpa using hy) s.data.toList
 rw [bs_size]
 have : s.data.toList.length ≤ 200 := by simpa using hs
 omega
theorem sz2 {x : ByteArray} (h : x.size ≤ 1000) : ((⟨#[59, 115]⟩ : ByteArray) ++ x).size ≤ 100000 := by rw [ByteArray.size_append]; show 2 + x.size ≤ _; omega
theorem sz3 {x : ByteArray} (h : x.size ≤ 1000) : (((⟨#[63, 116]⟩ : ByteArray) ++ x) ++ (⟨#[115]⟩ : ByteArray)).size ≤ 100000 := by rw [ByteArray.size_append, ByteArray.size_append]; show 2 + x.size + 1 ≤ _; omega
theorem sz4 {x y : ByteArray} (h : x.size ≤ 1000) (k : y.size ≤ 1000) : (((⟨#[47]⟩ : ByteArray) ++ x) ++ y).size ≤ 100000 := by rw [ByteArray.size_append, ByteArray.size_append]; show 1 + x.size + y.size ≤ _; omega
set_option maxRecDepth 100000 in
set_option maxHeartbeats 8000000 in
theorem pair10 {a p : Nat} {w : World} (hr : Rd a p w) (hp : p ≤ 100000) :
  Calls Tryz.prog 68 #[.pointer (some ⟨a, 0, none⟩)] w (TenPost a p w) := by
 have HR := Lib.hid hr
 clear hr
 have C := Lib.hid (pick_any 2 HR.out (by omega) (by omega) (by omega))
 go_enter Tryz.func68, Tryz.ntmps68
 go_wp2_with fail
 refine C.out.mono ?_
 rintro e w1 ⟨k, k0, k1, rfl, hr, hk⟩
 have HR1 := Lib.hid hr
 have HK1 := Lib.hid hk
 clear hr hk C
 have ew : IntKind.i64.wrap (1 + k) = 1 + k := IntWalk.i64_in _ (by omega)
 have C := Lib.hid (pick_any 2 HR1.out (by omega) (by omega) (by omega))
 go_wp2_with fail
 refine C.out.mono ?_
 rintro e w2 ⟨j, j0, j1, rfl, hr, hk⟩
 have HR2 := Lib.hid hr
 have HK2 := Lib.hid (HK1.out.trans hk)
 clear hr hk C
 have HC := Lib.hid (dP_any ⟨#[120, 121, 122]⟩ (by decide) (by decide) (j == 0) (1 + k) (by omega) (by omega) HR2.out (by omega))
 go_wp2_with fail
 refine HC.out.mono ?_
 rintro e w3 ⟨x, q, x1, x2, hq, rfl, hr, hk⟩
 have HR3 := Lib.hid hr
 have HK3 := Lib.hid (HK2.out.trans hk)
 clear hr hk HC
 have C := Lib.hid (pick_any 6 HR3.out (by omega) (by omega) (by omega))
 go_wp2_with fail
 refine C.out.mono ?_
 rintro e w4 ⟨m, m0, m1, rfl, hr, hk⟩
 have HR4 := Lib.hid hr
 have HK4 := Lib.hid (HK3.out.trans hk)
 clear hr hk C
 have HX := szj (x := x.size) (by omega)
 obtain ⟨h1, h2, h3⟩ := HX
 by_cases e0 : m = 0
 ·subst e0
  have HC := Lib.hid (bad3 x x1 (by omega) HR4.out (by omega))
  go_wp2_with fail
  refine HC.out.mono ?_
  rintro e w5 ⟨y, q', y1, y2, hq', rfl, hr, hk⟩
  have HR5 := Lib.hid hr
  have HK5 := Lib.hid (HK4.out.trans hk)
  clear hr hk HC
  go_wp2_with fail
  go_ret2
  exact ⟨_, _, q', by omega, sz2 (by omega), by omega, rfl, HR5.out, HK5.out⟩
 have n0 : (m == 0) = false := by simpa using e0
 by_cases e1 : m = 1
 ·subst e1
  have HC := Lib.hid (bad3 x x1 (by omega) HR4.out (by omega))
  go_wp2_with fail
  refine HC.out.mono ?_
  rintro e w5 ⟨y, q', y1, y2, hq', rfl, hr, hk⟩
  have HR5 := Lib.hid hr
  have HK5 := Lib.hid (HK4.out.trans hk)
  clear hr hk HC
  go_wp2_with fail
  go_ret2
  exact ⟨_, _, q', by omega, sz3 (by omega), by omega, rfl, HR5.out, HK5.out⟩
 have n1 : (m == 1) = false := by simpa using e1
 by_cases e2 : m = 2
 ·subst e2
  have HC := Lib.hid (dP_1 ⟨#[120, 121, 122]⟩ (by decide) (by decide) true HR4.out (by omega))
  go_wp2_with fail
  refine HC.out.mono ?_
  rintro e w5 ⟨y, q', y1, y2, hq', rfl, hr, hk⟩
  have HR5 := Lib.hid hr
  have HK5 := Lib.hid (HK4.out.trans hk)
  have h4 := szj2 (x := x.size) (y := y.size) (by omega) (by omega)
  clear hr hk HC
  go_wp2_with fail
  go_ret2
  exact ⟨_, _, q', by omega, sz4 (by omega) (by omega), by omega, rfl, HR5.out, HK5.out⟩
 have n2 : (m == 2) = false := by simpa using e2
 by_cases e3 : m = 3
 ·subst e3
  have HC := fun w => Lib.hid (specSub 49 x ⟨#[50]⟩ w (by omega) (by decide))
  have HZ := Lib.hid (sub_size 49 ⟨#[50]⟩ x (by omega) (by decide))
  generalize bs (sub1 49 (⟨#[50]⟩ : ByteArray).data.toList x.data.toList) = y at *
  go_wp2_with fail
  refine (HC _).out.mono ?_
  rintro e w5 ⟨rfl, rfl⟩
  go_wp2_with fail
  go_ret2
  exact ⟨_, _, _, by omega, HZ.out, by omega, rfl, HR4.out, HK4.out⟩
 have n3 : (m == 3) = false := by simpa using e3
 have C := Lib.hid (pick_any 2 HR4.out (by omega) (by omega) (by omega))
 go_wp2_with fail
 refine C.out.mono ?_
 rintro e w5 ⟨k', k0', k1', rfl, hr, hk⟩
 have HR5 := Lib.hid hr
 have HK5 := Lib.hid (HK4.out.trans hk)
 clear hr hk C
 have ew' : IntKind.i64.wrap (1 + k') = 1 + k' := IntWalk.i64_in _ (by omega)
 have C := Lib.hid (pick_any 2 HR5.out (by omega) (by omega) (by omega))
 go_wp2_with fail
 refine C.out.mono ?_
 rintro e w6 ⟨j', j0', j1', rfl, hr, hk⟩
 have HR6 := Lib.hid hr
 have HK6 := Lib.hid (HK5.out.trans hk)
 clear hr hk C
 have HC := Lib.hid (dP_any ⟨#[120, 121, 122]⟩ (by decide) (by decide) (j' == 0) (1 + k') (by omega) (by omega) HR6.out (by omega))
 go_wp2_with fail
 refine HC.out.mono ?_
 rintro e w7 ⟨y, q', y1, y2, hq', rfl, hr, hk⟩
 have HR7 := Lib.hid hr
 have HK7 := Lib.hid (HK6.out.trans hk)
 clear hr hk HC
 have HC := Lib.hid (bad3 x x1 (by omega) HR7.out (by omega))
 go_wp2_with fail
 refine HC.out.mono ?_
 rintro e w8 ⟨x', q8, x1', x2', hq8, rfl, hr, hk⟩
 have HR8 := Lib.hid hr
 have HK8 := Lib.hid (HK7.out.trans hk)
 clear hr hk HC
 have HC := Lib.hid (bad3 y y1 (by omega) HR8.out (by omega))
 go_wp2_with fail
 refine HC.out.mono ?_
 rintro e w9 ⟨y', q9, y1', y2', hq9, rfl, hr, hk⟩
 have HR9 := Lib.hid hr
 have HK9 := Lib.hid (HK8.out.trans hk)
 clear hr hk HC
 go_wp2_with fail
 go_ret2
 exact ⟨_, _, q9, by omega, by omega, by omega, rfl, HR9.out, HK9.out⟩
end Go.Proofs.YtgkoljphndgoeaaGreatDoor
