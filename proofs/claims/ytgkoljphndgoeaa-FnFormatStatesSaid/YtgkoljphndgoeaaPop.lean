/-
  The number of ones of a number of 32 bits, by the library's table.
-/
import Derived.Test.YtgkoljphndgoeaaSetW
import Derived.Deep.QuietTactic
import Derived.BigQuiet
namespace Go.Proofs.Ytgkoljphndgoeaa
open Go.RowKit

theorem mask8 (m : Nat) (hm : m < 4294967296) : bits .and .u32 (m : Int) 255 = ((m % 256 : Nat) : Int) := by
  rw [show (255 : Int) = ((255 : Nat) : Int) from rfl, u32_and_nat _ _ hm (by omega), nat_mask8]

def tabl : List UInt8 := (List.range 256).map fun x => UInt8.ofNat (cnt 8 x.testBit)
theorem tab_at (T : ByteArray) (hT : T.data.toList = tabl) (a : Nat) (h : a < T.size) : ((T[a]'h).toNat : Int) = (cnt 8 a.testBit : Nat) := by
  have e : T[a] = T.data.toList[a]'(by simpa using h) := rfl
  have h2 : a < tabl.length := by rw [← hT]; simpa using h
  have e2 : T[a] = tabl[a] := by rw [e]; simp only [hT]
  rw [e2]
  simp only [tabl, List.getElem_map, List.getElem_range]
  have := cnt_le 8 a.testBit
  rw [UInt8.toNat_ofNat_of_lt' (by show _ < 256; omega)]
theorem cnt_add (k m : Nat) (F : Nat → Bool) : cnt (k + m) F = cnt k F + cnt m (fun i => F (k + i)) := by
  induction m with
  | zero => rfl
  | succ m ih => rw [← Nat.add_assoc]; simp only [cnt]; rw [ih]; omega
theorem cnt_congr {k : Nat} {F G : Nat → Bool} (h : ∀ i, i < k → F i = G i) : cnt k F = cnt k G := by
  induction k with
  | zero => rfl
  | succ k ih => simp only [cnt]; rw [ih (fun i hi => h i (by omega)), h k (by omega)]
theorem cnt_zero {k : Nat} {F : Nat → Bool} (h : ∀ i, i < k → F i = false) : cnt k F = 0 := by
  induction k with
  | zero => rfl
  | succ k ih => simp only [cnt]; rw [ih (fun i hi => h i (by omega)), h k (by omega)]; rfl
theorem pop_split (n : Nat) (hn : n < 134217728) : cnt 27 n.testBit = cnt 8 (n / 16777216).testBit + cnt 8 (n / 65536 % 256).testBit + cnt 8 (n / 256 % 256).testBit + cnt 8 (n % 256).testBit := by
  have h32 : cnt 32 n.testBit = cnt 27 n.testBit := by
    rw [show (32 : Nat) = 27 + 5 from rfl, cnt_add]
    rw [cnt_zero (k := 5) (F := fun i => n.testBit (27 + i)) (fun i _ => Nat.testBit_lt_two_pow (Nat.lt_of_lt_of_le hn (Nat.pow_le_pow_right (n := 2) (by omega) (by omega : 27 ≤ 27 + i))))]
    omega
  rw [← h32, show (32 : Nat) = 8 + (8 + (8 + 8)) from rfl, cnt_add, cnt_add, cnt_add]
  rw [cnt_congr (G := (n % 256).testBit) (F := n.testBit) (fun i hi => by rw [show (256 : Nat) = 2 ^ 8 from rfl, Nat.testBit_mod_two_pow]; simp [hi])]
  rw [cnt_congr (G := (n / 256 % 256).testBit) (F := fun i => n.testBit (8 + i)) (fun i hi => by rw [show n / 256 % 256 = n / 2 ^ 8 % 2 ^ 8 from rfl, Nat.testBit_mod_two_pow, Nat.testBit_div_two_pow]; simp [hi, Nat.add_comm])]
  rw [cnt_congr (G := (n / 65536 % 256).testBit) (F := fun i => n.testBit (8 + (8 + i))) (fun i hi => by rw [show n / 65536 % 256 = n / 2 ^ 16 % 2 ^ 8 from rfl, Nat.testBit_mod_two_pow, Nat.testBit_div_two_pow]; simp [hi]; congr 1; omega)]
  rw [cnt_congr (G := (n / 16777216).testBit) (F := fun i => n.testBit (8 + (8 + (8 + i)))) (fun i hi => by rw [show n / 16777216 = n / 2 ^ 24 from rfl, Nat.testBit_div_two_pow]; congr 1; omega)]
  omega

set_option maxRecDepth 100000 in
set_option maxHeartbeats 4000000 in
theorem popAny (n : Nat) (w : World) (hn : n < 134217728) : Calls Try.prog 21 #[.int .u32 n] w fun e w' => e = .returned (.int .i64 (cnt 27 n.testBit : Nat)) ∧ ∃ m, w' = w.drewN m := by
  have HN := Lib.hid (pop_split n hn)
  obtain ⟨a, ha⟩ : ∃ a : Nat, n / 16777216 = a := ⟨_, rfl⟩
  obtain ⟨b, hb⟩ : ∃ a : Nat, n / 65536 % 256 = a := ⟨_, rfl⟩
  obtain ⟨c, hc⟩ : ∃ a : Nat, n / 256 % 256 = a := ⟨_, rfl⟩
  obtain ⟨d, hd⟩ : ∃ a : Nat, n % 256 = a := ⟨_, rfl⟩
  have ea : (n : Int) / 16777216 = a := by omega
  have eb : bits .and .u32 ((n : Int) / 65536) 255 = b := by rw [show (n : Int) / 65536 = ((n / 65536 : Nat) : Int) by omega, mask8 _ (by omega), hb]
  have ec : bits .and .u32 ((n : Int) / 256) 255 = c := by rw [show (n : Int) / 256 = ((n / 256 : Nat) : Int) by omega, mask8 _ (by omega), hc]
  have ed : bits .and .u32 (n : Int) 255 = d := by rw [mask8 _ (by omega), hd]
  have la : (a : Int) < 256 := by omega
  have lb : (b : Int) < 256 := by omega
  have lc : (c : Int) < 256 := by omega
  have ld : (d : Int) < 256 := by omega
  have ka : (0 : Int) ≤ a := by omega
  have kb : (0 : Int) ≤ b := by omega
  have kc : (0 : Int) ≤ c := by omega
  have kd : (0 : Int) ≤ d := by omega
  have HA := Lib.hid ha
  have HB := Lib.hid hb
  have HC := Lib.hid hc
  have HD := Lib.hid hd
  clear ha hb hc hd
  go_enter Try.func21, Try.ntmps21
  go_wp2_with fail
  go_quiet (fail)
  go_wp2_with fail
  go_ret
  refine ⟨?_, _, rfl⟩
  refine congrArg (fun z : Int => Ending.returned (.int .i64 z)) ?_
  rw [HN.out, HA.out, HB.out, HC.out, HD.out, tab_at (a := a), tab_at (a := b), tab_at (a := c), tab_at (a := d)]
  · have h1 := cnt_le 8 a.testBit
    have h2 := cnt_le 8 b.testBit
    have h3 := cnt_le 8 c.testBit
    have h4 := cnt_le 8 d.testBit
    omega
  all_goals kernel_rfl
end Go.Proofs.Ytgkoljphndgoeaa
