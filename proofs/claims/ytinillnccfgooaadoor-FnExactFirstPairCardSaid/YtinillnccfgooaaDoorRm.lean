/-
  Sets as numbers of the model, without the parts that read terms: bits, masks, texts.
-/
import Derived.Test.YtinillnccfgooaaDoorSetW
import Derived.Test.YtinillnccfgooaaDoorSetQ
import Derived.Laws.Rows
import Derived.Laws.Tables
import Derived.Great.Walk
import Derived.Great.BuildSlice
namespace Go.Proofs.YtinillnccfgooaaDoor
open Go.RowKit Go.Great

theorem i64_and_nat (a b : Nat) (ha : a < 134217728) (hb : b < 134217728) : bits .and .i64 (a : Int) (b : Int) = ((a &&& b : Nat) : Int) := by
  have hx : a &&& b < 134217728 := Nat.lt_of_le_of_lt Nat.and_le_left ha
  show IntKind.i64.wrap ((BitVec.ofInt 64 (a : Int) &&& BitVec.ofInt 64 (b : Int)).toNat : Int) = _
  rw [BitVec.toNat_and, ofInt_u64 a (by omega), ofInt_u64 b (by omega)]
  exact IntWalk.i64_in _ (by omega)
theorem i64_or_nat (a b : Nat) (ha : a < 134217728) (hb : b < 134217728) : bits .or .i64 (a : Int) (b : Int) = ((a ||| b : Nat) : Int) := by
  have hx : a ||| b < 134217728 := Nat.or_lt_two_pow (n := 27) ha hb
  show IntKind.i64.wrap ((BitVec.ofInt 64 (a : Int) ||| BitVec.ofInt 64 (b : Int)).toNat : Int) = _
  rw [BitVec.toNat_or, ofInt_u64 a (by omega), ofInt_u64 b (by omega)]
  exact IntWalk.i64_in _ (by omega)
theorem i64_andNot_nat (a b : Nat) (ha : a < 134217728) (hb : b < 134217728) : bits .andNot .i64 (a : Int) (b : Int) = ((a &&& (18446744073709551615 - b) : Nat) : Int) := by
  have hx : a &&& (18446744073709551615 - b) < 134217728 := Nat.lt_of_le_of_lt Nat.and_le_left ha
  show IntKind.i64.wrap ((BitVec.ofInt 64 (a : Int) &&& ~~~BitVec.ofInt 64 (b : Int)).toNat : Int) = _
  rw [BitVec.toNat_and, BitVec.toNat_not, ofInt_u64 a (by omega), ofInt_u64 b (by omega)]
  have e : 2 ^ 64 - 1 - b = 18446744073709551615 - b := by omega
  rw [e]
  exact IntWalk.i64_in _ (by omega)
theorem s_and (F G : Nat → Bool) : bits .and .i64 (nb 27 F : Nat) (nb 27 G : Nat) = (nb 27 (fun i => F i && G i) : Nat) := by
  rw [i64_and_nat _ _ (nb_lt27 F) (nb_lt27 G), nb_and]
theorem s_or (F G : Nat → Bool) : bits .or .i64 (nb 27 F : Nat) (nb 27 G : Nat) = (nb 27 (fun i => F i || G i) : Nat) := by
  rw [i64_or_nat _ _ (nb_lt27 F) (nb_lt27 G), nb_or2]
theorem s_andNot (F G : Nat → Bool) : bits .andNot .i64 (nb 27 F : Nat) (nb 27 G : Nat) = (nb 27 (fun i => F i && !G i) : Nat) := by
  have h := nb_lt27 F
  have h' := nb_lt27 G
  rw [i64_andNot_nat _ _ h h']
  congr 1
  apply nb_of_bits
  · exact Nat.lt_of_le_of_lt Nat.and_le_left h
  · intro i hi
    rw [Nat.testBit_and, show 18446744073709551615 - nb 27 G = 2 ^ 64 - (nb 27 G + 1) by omega, Nat.testBit_two_pow_sub_succ (by omega), nb_bit, nb_bit]
    have h64 : i < 64 := by omega
    simp [hi, h64]
theorem nb_all : (nb 27 (fun _ => true) : Nat) = 134217727 := by decide
theorem s_in (F : Nat → Bool) (i : Nat) (hi : i < 27) : (bits .and .i64 (((nb 27 F : Nat) : Int) / 2 ^ i) 1 == 1) = F i := by
  have hn := nb_lt27 F
  have e : (((nb 27 F : Nat) : Int) / 2 ^ i) = ((nb 27 F / 2 ^ i : Nat) : Int) := by simp
  have h1 : nb 27 F / 2 ^ i ≤ nb 27 F := Nat.div_le_self _ _
  have h2 : F i = (nb 27 F).testBit i := by rw [nb_bit]; simp [hi]
  rw [e, show (1 : Int) = ((1 : Nat) : Int) from rfl, i64_and_nat _ 1 (by omega) (by omega), nat_mask1, h2, Nat.testBit_eq_decide_div_mod_eq, Bool.eq_iff_iff, beq_iff_eq, decide_eq_true_eq]
  omega
set_option maxHeartbeats 1000000 in
theorem specInS (F : Nat → Bool) (i : Nat) (hi : i < 27) (w : World) : Calls Tryd.prog 123 #[.int .i64 (nb 27 F), .int .i64 i] w fun e w' => e = .returned (.bool (F i)) ∧ w = w' := by
  have H := Lib.hid (s_in F i hi)
  go_enter Tryd.func123, Tryd.ntmps123
  go_wp2_with fail
  go_ret
  exact ⟨by rw [← H.out]; rfl, rfl⟩
theorem nb_single (k : Nat) (hk : k < 27) : (nb 27 (fun j => j == k) : Nat) = 2 ^ k := by
  have := nb_or 27 (fun _ => false) k hk
  rw [nb_zero 27 (fun _ _ => rfl)] at this
  simp at this
  exact this.symm
theorem wrap_bit {k : Nat} (hk : k < 27) : wrap64 ((2 : Int) ^ k) = ((nb 27 (fun j => j == k) : Nat) : Int) := by
  rw [nb_single k hk]
  have h : (2 : Nat) ^ k ≤ 67108864 := Nat.pow_le_pow_right (n := 2) (j := 26) (by omega) (by omega)
  have e : ((2 ^ k : Nat) : Int) = (2 : Int) ^ k := by simp
  rw [← e]
  generalize (2 : Nat) ^ k = n at *
  unfold wrap64
  omega
theorem s_bit {k : Nat} (hk : k < 27) (G : Nat → Bool) : bits .or .i64 (nb 27 G : Nat) (wrap64 ((2 : Int) ^ k)) = (nb 27 (fun j => G j || j == k) : Nat) := by rw [wrap_bit hk, s_or]
theorem hs_byte {s : ByteArray} {n : Nat} (h : Bits n s.data.toList) (k : Nat) (hk : k < s.size) : s[k] = bitc (hs s.data.toList k) := hs_cases h (by simpa using hk)
def upto (m : Nat) (p : Nat → Bool) : Bool := (List.range m).any p
theorem upto_zero (p : Nat → Bool) : upto 0 p = false := rfl
theorem upto_succ (m : Nat) (p : Nat → Bool) : upto (m + 1) p = (upto m p || p m) := by
  unfold upto; rw [List.range_succ, List.any_append]; simp
theorem upto_iff {m : Nat} {p : Nat → Bool} : upto m p = true ↔ ∃ q, q < m ∧ p q = true := by
  unfold upto; simp
def postS (F : Nat → Bool) (B : Nat → Nat → Bool) (m : Nat) : Nat → Bool := fun j => upto m (fun i => F i && B i j)
theorem postS_yes {F : Nat → Bool} {B : Nat → Nat → Bool} {m : Nat} (h : F m = true) : (fun j => postS F B m j || B m j) = postS F B (m + 1) := by
  funext j
  unfold postS
  rw [upto_succ, h, Bool.true_and]
theorem postS_no {F : Nat → Bool} {B : Nat → Nat → Bool} {m : Nat} (h : F m = false) : postS F B m = postS F B (m + 1) := by
  funext j
  unfold postS
  rw [upto_succ, h, Bool.false_and, Bool.or_false]
set_option maxHeartbeats 2000000 in
theorem specTextS (F : Nat → Bool) (w : World) : Calls Tryd.prog 98 #[.int .i64 (nb 27 F)] w fun e w' => e = .returned (.string (bs (tb F))) ∧ Below w.heap.size w w' := by
  have hmk : ∀ w, (Instr.makeSlice 87 (.int .i64 27) (.int .i64 27)).run Tryd.prog w = .ok (.slice (some ⟨w.heap.size, 0, none⟩) 27 27) (w.alloc (.cells (u8s (zs 27)) 5)) := fun w => mkBytes 27 (by omega) w
  have CI := fun m hm w => Lib.hid (specInS F m hm w)
  go_enter Tryd.func98, Tryd.ntmps98
  go_wp2_with fail
  have HT0 := Lib.hid (BBlk.made 27 w)
  have HB0 := Lib.hid ((Below.refl _ w).alloc (Nat.le_refl _) (.cells (u8s (zs 27)) 5))
  generalize w.alloc (.cells (u8s (zs 27)) 5) = w0 at *
  go_loopw [4] (fun i wr => ∃ k : Nat, k ≤ 27 ∧ i = .int .i64 k ∧ Hid (BBlk wr w.heap.size (part 27 k F)) ∧ Hid (Below w.heap.size w wr)) (fun i _ => 27 - (intOf i).toNat)
  case atStart => exact ⟨0, by omega, rfl, HT0, HB0⟩
  case round =>
    clear HT0 HB0
    obtain ⟨k, hk, rfl, HT, HB⟩ := hrel
    by_cases hlt : k < 27
    · have HP := Lib.hid (part_step 27 k F hlt)
      have hl := part_len 27 k F (by omega)
      obtain ⟨old, hc⟩ := HT.out.some k (by rw [hl]; omega)
      have hf := HT.out.free k
      have D := CI k hlt
      clear hl
      go_wp2_with fail
      refine (D _).out.mono ?_
      rintro e w2 ⟨rfl, rfl⟩
      go_wp2_with fail
      refine (specBit _ _).mono ?_
      rintro e w' ⟨rfl, rfl⟩
      go_wp2_with fail
      refine ⟨⟨k + 1, by omega, by go_num, ?_, Lib.hid (HB.out.setCell (p := ⟨w.heap.size, k, none⟩) (Nat.le_refl _) _)⟩, by simp [intOf]; omega⟩
      rw [← HP.out]
      exact Lib.hid (HT.out.set k _)
    · have hk2 : k = 27 := by omega
      subst hk2
      have hv := toStr HT.out 27 27 (part_len 27 27 F (by omega)).symm
      rw [part_all] at hv
      go_wp2_with fail
      go_ret
      exact ⟨rfl, HB.out⟩
theorem al1 {w : World} {N : Nat} (z : w.heap.size = N) (c : Array Value) (t : TypeId) : (w.alloc (.cells c t)).heap.size = N + 1 ∧ Blk (w.alloc (.cells c t)) N c t := by
  subst z; exact ⟨by simp, Blk.new w c t⟩
theorem al2 {w : World} {N M : Nat} (z : w.heap.size = N) (h : M = N + 1) (c : Array Value) (t : TypeId) : (w.alloc (.cells c t)).heap.size = M ∧ Blk (w.alloc (.cells c t)) N c t := by
  subst h; exact al1 z c t
theorem Blk.row {w : World} {g : Nat} {cs : Array Value} {t : TypeId} (h : Blk w g cs t) (cs' : Array Value) : Blk (w.setRow g cs') g cs' t := setRow_heap w g cs cs' t (0, 0) h
theorem Blk.rowOther {w : World} {b g : Nat} {cs : Array Value} {t : TypeId} (h : Blk w b cs t) (hne : b ≠ g) (cs' : Array Value) : Blk (w.setRow g cs') b cs t := by
  unfold Blk at *
  rw [setRow_other _ _ _ _ hne]; exact h
theorem Below.setRow {B : Nat} {a w : World} (h : Below B a w) {g : Nat} (hg : B ≤ g) (cs : Array Value) : Below B a (w.setRow g cs) :=
  h.trans ⟨rfl, rfl, rfl, by simp, fun k hk => setRow_other _ _ _ _ (by omega)⟩
end Go.Proofs.YtinillnccfgooaaDoor
