/-
  Several small texts in one: SetP Byt SetS SetW SetQ Tst Asg Img AsgR PredOf PpF.
-/
import Derived.Test.YtknjoadicdijdaaDoorBlk
import Derived.Test.YtknjoadicdijdaaDoorBytes
import Derived.Laws.MakeOwn
import Derived.Laws.Cells
import Derived.Laws.BytesString
import Derived.Laws.BitsAllLaws
import Derived.Test.YtknjoadicdijdaaDoorAt0
import Derived.Test.YtknjoadicdijdaaDoorEvalT
import Derived.Test.YtknjoadicdijdaaDoorSetD
import Derived.Test.YtknjoadicdijdaaDoorRead
import Derived.Test.YtknjoadicdijdaaDoorSpecValid
namespace Go.Proofs.YtknjoadicdijdaaDoor

/-- Is the byte at an index a one? -/
def hs (l : List UInt8) (i : Nat) : Bool := l[i]? == some 49
def bitc (b : Bool) : UInt8 := if b then 49 else 48
/-- The text of n bits. -/
def tbn (n : Nat) (F : Nat → Bool) : List UInt8 := (List.range n).map fun i => bitc (F i)
def tb (F : Nat → Bool) : List UInt8 := tbn 27 F
/-- The number of k bits. -/
def nb : Nat → (Nat → Bool) → Nat
  | 0, _ => 0
  | k + 1, F => nb k F + (if F k then 2 ^ k else 0)
/-- A text of n bits. -/
def Bits (n : Nat) (l : List UInt8) : Prop := l.length = n ∧ ∀ i (h : i < l.length), l[i] = 48 ∨ l[i] = 49

theorem nb_lt (k : Nat) (F : Nat → Bool) : nb k F < 2 ^ k := by
  induction k with
  | zero => simp [nb]
  | succ k ih =>
    unfold nb
    rw [Nat.pow_succ]
    split <;> omega
theorem nb_lt27 (F : Nat → Bool) : nb 27 F < 134217728 := nb_lt 27 F
theorem nb_bit (k : Nat) (F : Nat → Bool) (i : Nat) : (nb k F).testBit i = (decide (i < k) && F i) := by
  induction k with
  | zero => simp [nb]
  | succ k ih =>
    unfold nb
    have hk := nb_lt k F
    have e : nb k F + (if F k then 2 ^ k else 0) = nb k F ||| (if F k then 2 ^ k else 0) := by
      cases F k
      · simp
      · simp only [if_true]
        have h := Nat.two_pow_add_eq_or_of_lt hk 1
        rw [Nat.mul_one] at h
        rw [Nat.add_comm, h, Nat.or_comm]
    rw [e, Nat.testBit_or, ih]
    by_cases h1 : i < k
    · cases F k
      · have h3 : i < k + 1 := by omega
        simp [h1, h3]
      · have h3 : i < k + 1 := by omega
        have h4 : ¬ k = i := by omega
        simp [h1, h3, h4]
    · by_cases h2 : i = k
      · subst h2
        cases F i <;> simp
      · have h3 : ¬ i < k + 1 := by omega
        have h4 : ¬ k = i := by omega
        cases F k
        · simp [h1, h3]
        · simp [h1, h3, h4]
theorem nb_congr {k : Nat} {F G : Nat → Bool} (h : ∀ i, i < k → F i = G i) : nb k F = nb k G := by
  induction k with
  | zero => rfl
  | succ k ih => unfold nb; rw [ih (fun i hi => h i (by omega)), h k (by omega)]
theorem nb_inj {k : Nat} {F G : Nat → Bool} (h : nb k F = nb k G) (i : Nat) (hi : i < k) : F i = G i := by
  have h1 := nb_bit k F i
  have h2 := nb_bit k G i
  rw [h] at h1
  rw [h1] at h2
  simpa [hi] using h2
theorem nb_of_bits {k n : Nat} {F : Nat → Bool} (hn : n < 2 ^ k) (h : ∀ i, i < k → n.testBit i = F i) : n = nb k F := by
  apply Nat.eq_of_testBit_eq
  intro i
  rw [nb_bit]
  by_cases hi : i < k
  · simp [hi, h i hi]
  · simp [hi]
    exact Nat.testBit_lt_two_pow (Nat.lt_of_lt_of_le hn (Nat.pow_le_pow_right (by omega) (by omega)))
theorem nb_or (k : Nat) (F : Nat → Bool) (j : Nat) (hj : j < k) : nb k F ||| 2 ^ j = nb k (fun i => F i || i == j) := by
  apply nb_of_bits
  · exact Nat.or_lt_two_pow (nb_lt k F) (Nat.pow_lt_pow_right (by omega) hj)
  · intro i hi
    rw [Nat.testBit_or, nb_bit, Nat.testBit_two_pow]
    simp [hi]
    rw [show decide (j = i) = (i == j) by rw [Bool.eq_iff_iff, beq_iff_eq, decide_eq_true_eq]; exact eq_comm]
theorem nb_and (k : Nat) (F G : Nat → Bool) : nb k F &&& nb k G = nb k (fun i => F i && G i) := by
  apply nb_of_bits
  · exact Nat.and_lt_two_pow _ (nb_lt k G)
  · intro i hi; rw [Nat.testBit_and, nb_bit, nb_bit]; simp [hi]
theorem nb_or2 (k : Nat) (F G : Nat → Bool) : nb k F ||| nb k G = nb k (fun i => F i || G i) := by
  apply nb_of_bits
  · exact Nat.or_lt_two_pow (nb_lt k F) (nb_lt k G)
  · intro i hi; rw [Nat.testBit_or, nb_bit, nb_bit]; simp [hi]

theorem nb_zero (k : Nat) {F : Nat → Bool} (h : ∀ i, i < k → F i = false) : nb k F = 0 := by
  rw [nb_congr (G := fun _ => false) h]
  induction k with
  | zero => rfl
  | succ k ih => simp [nb]; exact ih (fun i hi => h i (by omega))

theorem tbn_length (n : Nat) (F : Nat → Bool) : (tbn n F).length = n := by simp [tbn]
theorem tbn_get (n : Nat) (F : Nat → Bool) (i : Nat) (h : i < n) : (tbn n F)[i]? = some (bitc (F i)) := by simp [tbn, h]
theorem tbn_congr {n : Nat} {F G : Nat → Bool} (h : ∀ i, i < n → F i = G i) : tbn n F = tbn n G := by
  unfold tbn
  apply List.map_congr_left
  intro i hi
  rw [h i (by simpa using hi)]
theorem tb_congr {F G : Nat → Bool} (h : ∀ i, i < 27 → F i = G i) : tb F = tb G := tbn_congr h
theorem tbn_inj {n : Nat} {F G : Nat → Bool} (h : tbn n F = tbn n G) (i : Nat) (hi : i < n) : F i = G i := by
  have h1 := tbn_get n F i hi
  rw [h, tbn_get n G i hi] at h1
  cases hF : F i <;> cases hG : G i <;> simp [hF, hG, bitc] at h1 ⊢
theorem hs_tbn (n : Nat) (F : Nat → Bool) (i : Nat) : hs (tbn n F) i = (decide (i < n) && F i) := by
  unfold hs
  by_cases h : i < n
  · rw [tbn_get n F i h]; cases F i <;> simp [bitc, h]
  · rw [List.getElem?_eq_none (by rw [tbn_length]; omega)]; simp [h]
theorem bits_tbn (n : Nat) (F : Nat → Bool) : Bits n (tbn n F) := by
  refine ⟨tbn_length n F, fun i h => ?_⟩
  have h1 := tbn_get n F i (by rwa [tbn_length] at h)
  rw [List.getElem?_eq_getElem h] at h1
  injection h1 with h1
  rw [h1]; unfold bitc; split <;> simp
/-- A text of bits is the text of its bits. -/
theorem tbn_hs {n : Nat} {l : List UInt8} (h : Bits n l) : tbn n (hs l) = l := by
  apply List.ext_getElem?
  intro i
  by_cases hi : i < n
  · rw [tbn_get n _ i hi]
    have hl : i < l.length := by rw [h.1]; exact hi
    rw [List.getElem?_eq_getElem hl]
    unfold hs bitc
    rw [List.getElem?_eq_getElem hl]
    rcases h.2 i hl with e | e <;> rw [e] <;> rfl
  · rw [List.getElem?_eq_none (by rw [tbn_length]; omega), List.getElem?_eq_none (by rw [h.1]; omega)]
theorem hs_cases {n : Nat} {l : List UInt8} (h : Bits n l) {i : Nat} (hi : i < l.length) : l[i] = bitc (hs l i) := by
  unfold hs bitc
  rw [List.getElem?_eq_getElem hi]
  rcases h.2 i hi with e | e <;> rw [e] <;> rfl
theorem tbn_succ (n : Nat) (F : Nat → Bool) : tbn (n + 1) F = tbn n F ++ [bitc (F n)] := by
  simp [tbn, List.range_succ]
/-- So many zero bytes. -/
def zs (n : Nat) : List UInt8 := List.replicate n 0
def part (n k : Nat) (F : Nat → Bool) : List UInt8 := tbn k F ++ List.replicate (n - k) 0
theorem part_zero (n : Nat) (F : Nat → Bool) : part n 0 F = zs n := rfl
theorem part_all (n : Nat) (F : Nat → Bool) : part n n F = tbn n F := by simp [part]
theorem part_step (n k : Nat) (F : Nat → Bool) (h : k < n) : (part n k F).set k (bitc (F k)) = part n (k + 1) F := by
  unfold part
  rw [List.set_append_right _ _ (by rw [tbn_length]; omega), tbn_length, Nat.sub_self, tbn_succ]
  obtain ⟨m, hm⟩ : ∃ m, n - k = m + 1 := ⟨n - k - 1, by omega⟩
  rw [hm, show n - (k + 1) = m by omega, List.replicate_succ]
  simp
theorem part_len (n k : Nat) (F : Nat → Bool) (h : k ≤ n) : (part n k F).length = n := by simp [part, tbn_length]; omega
/-- How many of the first numbers are in a set. -/
def cnt : Nat → (Nat → Bool) → Nat
  | 0, _ => 0
  | k + 1, F => cnt k F + (if F k then 1 else 0)
theorem cnt_le (k : Nat) (F : Nat → Bool) : cnt k F ≤ k := by
  induction k with
  | zero => exact Nat.le_refl _
  | succ k ih => unfold cnt; split <;> omega
/-- Is each number below n that is in one set in the other one? -/
def wi (n : Nat) (F G : Nat → Bool) : Bool := (List.range n).all fun i => !F i || G i
theorem wi_iff {n : Nat} {F G : Nat → Bool} : wi n F G = true ↔ ∀ i, i < n → F i = true → G i = true := by
  unfold wi
  rw [List.all_eq_true]
  constructor
  · intro h i hi hF
    have := h i (by simpa using hi)
    simpa [hF] using this
  · intro h i hi
    have := h i (by simpa using hi)
    cases hF : F i
    · rfl
    · simp [this hF]
end Go.Proofs.YtknjoadicdijdaaDoor

namespace Go.Proofs.YtknjoadicdijdaaDoor
open Go.RowKit

def bv (c : UInt8) : Value := .int .u8 c.toNat
def u8s (l : List UInt8) : Array Value := (l.map bv).toArray
/-- Block b holds the bytes of l. -/
def BBlk (w : World) (b : Nat) (l : List UInt8) : Prop := Blk w b (u8s l) 5
theorem BBlk.kept {w w' : World} {b : Nat} {l : List UInt8} (h : BBlk w b l) (hb : Below w.heap.size w w') : BBlk w' b l := Blk.kept h hb
theorem BBlk.lt {w : World} {b : Nat} {l : List UInt8} (h : BBlk w b l) : b < w.heap.size := Blk.lt h
theorem BBlk.get {w : World} {b : Nat} {l : List UInt8} (h : BBlk w b l) (i : Nat) (hi : i < l.length) : w.cell? ⟨b, i, none⟩ = some (.int .u8 (l[i].toNat : Int)) := by
  rw [Blk.cell h i]; simp [u8s, bv, hi]
theorem BBlk.free {w : World} {b : Nat} {l : List UInt8} (h : BBlk w b l) (i : Nat) : w.frozen? ⟨b, i, none⟩ = false := Blk.free h i
theorem BBlk.set {w : World} {b : Nat} {l : List UInt8} (h : BBlk w b l) (i : Nat) (c : UInt8) : BBlk (w.setCell ⟨b, i, none⟩ (.int .u8 c.toNat)) b (l.set i c) := by
  have := Blk.set h i (.int .u8 c.toNat)
  unfold BBlk
  rw [show u8s (l.set i c) = (u8s l).setIfInBounds i (.int .u8 c.toNat) by unfold u8s; simp [bv, List.map_set]]
  exact this
theorem BBlk.some {w : World} {b : Nat} {l : List UInt8} (h : BBlk w b l) (i : Nat) (hi : i < l.length) : ∃ v, w.cell? ⟨b, i, none⟩ = Option.some (.int .u8 v) := ⟨_, h.get i hi⟩
theorem BBlk.set2 {w : World} {b : Nat} {l : List UInt8} (h : BBlk w b l) (i : Nat) (c d : UInt8) : BBlk ((w.setCell ⟨b, i, none⟩ (.int .u8 c.toNat)).setCell ⟨b, i, none⟩ (.int .u8 d.toNat)) b (l.set i d) := by
  have := (h.set i c).set i d
  rwa [List.set_set] at this
theorem u8info : (Tryd.prog.info? 5).map (fun i => (i.zero, i.size, i.bytes)) = some (some (.int .u8 0), 1, 1) := by kernel_rfl
theorem mkBytes (n : Nat) (hn : n ≤ 1000000) (w : World) : (Instr.makeSlice 22 (.int .i64 n) (.int .i64 n)).run Tryd.prog w = .ok (.slice (some ⟨w.heap.size, 0, none⟩) n n) (w.alloc (.cells (u8s (zs n)) 5)) := by
  obtain ⟨i0, hi, hz0, hz1, hz2⟩ := info_parts u8info
  have h := run_make (P := Tryd.prog) w 22 5 i0 (.int .u8 0) Tryd.underlying22 hi hz0 .i64 .i64 n n (by omega) (by omega) (by rw [hz2]; omega) (by omega)
  rw [h, hz1]
  have e : madeCells (Value.int .u8 0).cells ((n : Int).toNat * 1) = u8s (zs n) := by
    rw [Int.toNat_natCast, Nat.mul_one]
    apply Array.ext
    · simp [madeCells, u8s, zs]
    · intro i h1 h2
      simp [madeCells, u8s, zs, bv, Value.cells, Nat.mod_one]
  rw [e, Int.toNat_natCast]
theorem BBlk.made (n : Nat) (w : World) : BBlk (w.alloc (.cells (u8s (zs n)) 5)) w.heap.size (zs n) := Blk.new w _ _
theorem fold_push (ns : List UInt8) (s : ByteArray) : (ns.map (fun c : UInt8 => (c.toNat : Int))).foldl (fun r n => r.push (UInt8.ofNat n.toNat)) s = s ++ bs ns := by
  induction ns generalizing s with
  | nil => simp [bs]; apply ByteArray.ext; simp
  | cons c ns ih =>
    rw [List.map_cons, List.foldl_cons, ih]
    apply ByteArray.ext
    simp [bs]
/-- The bytes of a whole block as a string. -/
theorem toStr {w : World} {b : Nat} {l : List UInt8} (h : BBlk w b l) (n c : Nat) (hn : n = l.length) : (convert 22 9 (.slice (some ⟨b, 0, none⟩) n c)).run Tryd.prog w = .ok (.string (bs l)) w := by
  subst hn
  rw [run_convert_bytes_string _ _ _ 5 _ _ _ Tryd.underlying22 Tryd.underlying5 Tryd.underlying9]
  rw [run_bytesToString _ _ l.length c (l.map (fun c : UInt8 => (c.toNat : Int)))]
  · rw [fold_push]
    congr 2
  · have h2 := run_loadCells_list (w := w) (P := Tryd.prog) ⟨b, 0, none⟩ (l.map bv) (fun j v hj => by
      rw [List.getElem?_map] at hj
      have hlt : j < l.length := by
        rcases Nat.lt_or_ge j l.length with h | h
        · exact h
        · rw [List.getElem?_eq_none h] at hj; cases hj
      rw [List.getElem?_eq_getElem hlt] at hj
      simp at hj
      subst hj
      have e : (⟨b, 0, none⟩ : Addr).add j = ⟨b, j, none⟩ := by
        by_cases h0 : j = 0 <;> simp [Addr.add, h0]
      rw [e]
      exact h.get j hlt)
    simp at h2
    rw [h2]
    simp [bv, List.map_map, Function.comp_def]
end Go.Proofs.YtknjoadicdijdaaDoor

namespace Go.Proofs.YtknjoadicdijdaaDoor
open Go.RowKit

theorem byte_int' {c d : UInt8} (h : c ≠ d) : ((c.toNat : Int) == (d.toNat : Int)) = false := by
  rw [beq_eq_false_iff_ne]; intro e
  exact h (UInt8.toNat_inj.1 (by omega))
theorem byte_nb {c d : UInt8} (h : c ≠ d) : ((c.toNat : Int) != (d.toNat : Int)) = true := by rw [bne, byte_int' h]; rfl

theorem hs_int (s : ByteArray) (k : Nat) (hk : k < s.size) : hs s.data.toList k = ((s[k].toNat : Int) == 49) := by
  unfold hs
  rw [List.getElem?_eq_getElem (by simpa using hk)]
  show (some s[k] == some 49) = _
  rw [Bool.eq_iff_iff, beq_iff_eq, beq_iff_eq]
  constructor
  · intro h; injection h with h; rw [h]; rfl
  · intro h
    have e : (49 : UInt8).toNat = 49 := rfl
    rw [show s[k] = 49 from UInt8.toNat_inj.1 (by omega)]

set_option maxHeartbeats 2000000 in
theorem specBits_yes (s : ByteArray) (n : Nat) (w : World) (hv : Bits n s.data.toList) (hn : n ≤ 1000000) : Calls Tryd.prog 80 #[.string s, .int .i64 n] w fun e w' => e = .returned (.bool true) ∧ w = w' := by
  have hs : s.size = n := by have := hv.1; simpa using this
  have HV := Lib.hid hv
  clear hv
  go_enter Tryd.func80, Tryd.ntmps80
  go_wp2_with fail
  go_loop [5] (fun i => ∃ k : Nat, k ≤ n ∧ i = .int .i64 k) (fun i => n - (intOf i).toNat)
  case atStart => exact ⟨0, by omega, rfl⟩
  case round =>
    obtain ⟨k, hk, rfl⟩ := hrel
    by_cases hlt : k < n
    · have hk2 : k < s.size := by omega
      have hd : s[k] = 48 ∨ s[k] = 49 := HV.out.2 k (by simpa using hk2)
      rcases hd with hc | hc
      · have b0 : (s[k].toNat : Int) = 48 := by rw [hc]; rfl
        clear hc
        go_wp2_with fail
        exact ⟨⟨k + 1, by omega, by go_num⟩, by simp [intOf]; omega⟩
      · have b0 : (s[k].toNat : Int) = 49 := by rw [hc]; rfl
        clear hc
        go_wp2_with fail
        exact ⟨⟨k + 1, by omega, by go_num⟩, by simp [intOf]; omega⟩
    · have hk2 : k = n := by omega
      subst hk2
      go_wp2_with fail
      go_ret
      exact ⟨rfl, rfl⟩

set_option maxHeartbeats 2000000 in
theorem specBit (b : Bool) (w : World) : Calls Tryd.prog 89 #[.bool b] w fun e w' => e = .returned (.int .u8 (bitc b).toNat) ∧ w = w' := by
  cases b
  all_goals
    go_enter Tryd.func89, Tryd.ntmps89
    go_wp2_with fail
    go_ret
    exact ⟨rfl, rfl⟩

set_option maxHeartbeats 2000000 in
theorem specBits_no (s : ByteArray) (n : Nat) (w : World) (hv : ¬ Bits n s.data.toList) (hm : s.size ≤ maxLen) (_hn : n ≤ 1000000) : Calls Tryd.prog 80 #[.string s, .int .i64 n] w fun e w' => e = .returned (.bool false) ∧ w = w' := by
  unfold maxLen at hm
  have HV := Lib.hid hv
  clear hv
  go_enter Tryd.func80, Tryd.ntmps80
  go_wp2_with fail
  go_loop [5] (fun i => ∃ k : Nat, k ≤ s.size ∧ i = .int .i64 k ∧ ∀ j (hj : j < s.size), j < k → s[j] = 48 ∨ s[j] = 49) (fun i => s.size - (intOf i).toNat)
  case atStart => exact ⟨0, by omega, rfl, fun j _ hj => by omega⟩
  case round =>
    obtain ⟨k, hk, rfl, hok⟩ := hrel
    have HO := Lib.hid hok
    clear hok
    by_cases hk2 : k < s.size
    · by_cases hd : s[k] = 48 ∨ s[k] = 49
      · have N : Hid (∀ j (hj : j < s.size), j < k + 1 → s[j] = 48 ∨ s[j] = 49) := fun j hj h => by
          rcases Nat.lt_succ_iff_lt_or_eq.1 h with h | h
          · exact HO.out j hj h
          · subst h; exact hd
        rcases hd with hc | hc
        · have b0 : (s[k].toNat : Int) = 48 := by rw [hc]; rfl
          clear hc
          go_wp2_with fail
          exact ⟨⟨k + 1, by omega, by go_num, N.out⟩, by simp [intOf]; omega⟩
        · have b0 : (s[k].toNat : Int) = 49 := by rw [hc]; rfl
          clear hc
          go_wp2_with fail
          exact ⟨⟨k + 1, by omega, by go_num, N.out⟩, by simp [intOf]; omega⟩
      · have n0 : ((s[k].toNat : Int) != 48) = true := byte_nb (d := 48) fun h => hd (.inl h)
        have n1 : ((s[k].toNat : Int) != 49) = true := byte_nb (d := 49) fun h => hd (.inr h)
        clear hd
        go_wp2_with fail
        go_ret
        exact ⟨rfl, rfl⟩
    · have hk3 : k = s.size := by omega
      have hne : ((s.size : Int) == (n : Int)) = false := by
        rw [beq_eq_false_iff_ne]; intro e
        refine HV.out ⟨by simpa using (by omega : s.size = n), fun j hj => ?_⟩
        have hj2 : j < s.size := by simpa using hj
        exact HO.out j hj2 (by omega)
      subst hk3
      go_wp2_with fail
      go_ret
      exact ⟨rfl, rfl⟩

set_option maxHeartbeats 2000000 in
theorem specCount0 (p : ByteArray) (n : Nat) (w : World) (hv : Bits n p.data.toList) (hn : n ≤ 1000000) : Calls Tryd.prog 56 #[.string p] w fun e w' => e = .returned (.int .i64 (cnt n (hs p.data.toList))) ∧ w = w' := by
  have hp : p.size = n := by have := hv.1; simpa using this
  have HV := Lib.hid hv
  clear hv
  go_enter Tryd.func56, Tryd.ntmps56
  go_wp2_with fail
  go_loop [3, 4] (fun v i => ∃ k : Nat, k ≤ n ∧ i = .int .i64 k ∧ v = .int .i64 (cnt k (hs p.data.toList))) (fun _ i => n - (intOf i).toNat)
  case atStart => exact ⟨0, by omega, rfl, rfl⟩
  case round =>
    obtain ⟨k, hk, rfl, rfl⟩ := hrel
    have hle := cnt_le k (hs p.data.toList)
    by_cases hlt : k < n
    · have hk2 : k < p.size := by omega
      have hg := hs_int p k hk2
      have hd : p[k] = 48 ∨ p[k] = 49 := HV.out.2 k (by simpa using hk2)
      rcases hd with hc | hc
      · have hs2 : Hid (cnt (k + 1) (hs p.data.toList) = cnt k (hs p.data.toList)) := by show _ = _; simp only [cnt]; rw [hg, hc]; rfl
        have b0 : (p[k].toNat : Int) = 48 := by rw [hc]; rfl
        clear hc hg
        go_wp2_with fail
        exact ⟨⟨k + 1, by omega, by go_num, by rw [hs2.out]⟩, by simp [intOf]; omega⟩
      · have hs2 : Hid (cnt (k + 1) (hs p.data.toList) = cnt k (hs p.data.toList) + 1) := by show _ = _; simp only [cnt]; rw [hg, hc]; rfl
        have b0 : (p[k].toNat : Int) = 49 := by rw [hc]; rfl
        clear hc hg
        go_wp2_with fail
        exact ⟨⟨k + 1, by omega, by go_num, by rw [hs2.out]; go_num⟩, by simp [intOf]; omega⟩
    · have hk2 : k = n := by omega
      subst hk2
      go_wp2_with fail
      go_ret
      exact ⟨rfl, rfl⟩

def Set27 (s : ByteArray) : Prop := Bits 27 s.data.toList

set_option maxHeartbeats 1000000 in
theorem specPredValid_yes (s : ByteArray) (w : World) (hv : Set27 s) : Calls Tryd.prog 55 #[.string s] w fun e w' => e = .returned (.bool true) ∧ w = w' := by
  have C := fun w => Lib.hid (specBits_yes s 27 w hv (by omega))
  go_enter Tryd.func55, Tryd.ntmps55
  go_wp2_with fail
  refine (C _).out.mono ?_
  rintro e w' ⟨rfl, rfl⟩
  go_wp2_with fail
  go_ret
  exact ⟨rfl, rfl⟩
set_option maxHeartbeats 1000000 in
theorem specPredValid_no (s : ByteArray) (w : World) (hv : ¬ Set27 s) (hm : s.size ≤ maxLen) : Calls Tryd.prog 55 #[.string s] w fun e w' => e = .returned (.bool false) ∧ w = w' := by
  have C := fun w => Lib.hid (specBits_no s 27 w hv hm (by omega))
  clear hv
  go_enter Tryd.func55, Tryd.ntmps55
  go_wp2_with fail
  refine (C _).out.mono ?_
  rintro e w' ⟨rfl, rfl⟩
  go_wp2_with fail
  go_ret
  exact ⟨rfl, rfl⟩
end Go.Proofs.YtknjoadicdijdaaDoor

namespace Go.Proofs.YtknjoadicdijdaaDoor
open Go.RowKit

theorem bit_has (n i : Nat) (hn : n < 134217728) : (bits .and .u32 ((n : Int) / 2 ^ i) 1 == 1) = n.testBit i := by
  have e : ((n : Int) / 2 ^ i) = ((n / 2 ^ i : Nat) : Int) := by simp
  have h1 : n / 2 ^ i ≤ n := Nat.div_le_self _ _
  rw [e, show (1 : Int) = ((1 : Nat) : Int) from rfl, u32_and_nat _ 1 (by omega) (by omega), nat_mask1, Nat.testBit_eq_decide_div_mod_eq, Bool.eq_iff_iff, beq_iff_eq, decide_eq_true_eq]
  omega
theorem bit_with (n i : Nat) (hn : n < 134217728) (hi : i < 27) : bits .or .u32 (n : Int) (2 ^ i % 4294967296) = ((n ||| 2 ^ i : Nat) : Int) := by
  have h1 : 2 ^ i < 2 ^ 27 := Nat.pow_lt_pow_right (by omega) hi
  have e : (2 : Int) ^ i % 4294967296 = ((2 ^ i : Nat) : Int) := by
    rw [Int.emod_eq_of_lt]
    · simp
    · exact Int.pow_nonneg (by omega)
    · have : ((2 ^ i : Nat) : Int) < 4294967296 := by omega
      simpa using this
  rw [e, u32_or_nat _ _ (by omega) (by omega)]

set_option maxHeartbeats 1000000 in
theorem implHas (n i : Nat) (w : World) (hn : n < 134217728) (_hi : i < 27) : Calls Tryd.prog 60 #[.int .u32 n, .int .i64 i] w fun e w' => e = .returned (.bool (n.testBit i)) ∧ w = w' := by
  have H := Lib.hid (bit_has n i hn)
  go_enter Tryd.func60, Tryd.ntmps60
  go_wp2_with fail
  go_ret
  exact ⟨by rw [← H.out]; rfl, rfl⟩

set_option maxHeartbeats 1000000 in
theorem implWith (n i : Nat) (w : World) (hn : n < 134217728) (hi : i < 27) : Calls Tryd.prog 79 #[.int .u32 n, .int .i64 i] w fun e w' => e = .returned (.int .u32 ((n ||| 2 ^ i : Nat) : Int)) ∧ w = w' := by
  have H := Lib.hid (bit_with n i hn hi)
  go_enter Tryd.func79, Tryd.ntmps79
  go_wp2_with fail
  go_ret
  exact ⟨by rw [← H.out]; rfl, rfl⟩

/-- A set with one state more. -/
theorem implWithB (F : Nat → Bool) (i : Nat) (w : World) (hi : i < 27) : Calls Tryd.prog 79 #[.int .u32 (nb 27 F), .int .i64 i] w fun e w' => e = .returned (.int .u32 (nb 27 (fun j => F j || j == i) : Nat)) ∧ w = w' := by
  have h := implWith (nb 27 F) i w (nb_lt27 F) hi
  rw [nb_or 27 F i hi] at h
  exact h
theorem implHasB (F : Nat → Bool) (i : Nat) (w : World) (hi : i < 27) : Calls Tryd.prog 60 #[.int .u32 (nb 27 F), .int .i64 i] w fun e w' => e = .returned (.bool (F i)) ∧ w = w' := by
  have h := implHas (nb 27 F) i w (nb_lt27 F) hi
  rw [nb_bit, decide_eq_true hi, Bool.true_and] at h
  exact h

def low (l : List UInt8) (k : Nat) : Nat → Bool := fun i => decide (i < k) && hs l i
theorem low_zero (l : List UInt8) : nb 27 (low l 0) = 0 := nb_zero 27 (fun i _ => by simp [low])
theorem low_one {l : List UInt8} {k : Nat} (h : hs l k = true) : nb 27 (fun j => low l k j || j == k) = nb 27 (low l (k + 1)) := nb_congr fun i _ => by
  unfold low
  by_cases e : i = k
  · subst e; simp [h]
  · by_cases h2 : i < k
    · have h3 : i < k + 1 := by omega
      simp [h2, h3, e]
    · have h3 : ¬ i < k + 1 := by omega
      simp [h2, h3, e]
theorem low_nil {l : List UInt8} {k : Nat} (h : hs l k = false) : nb 27 (low l k) = nb 27 (low l (k + 1)) := nb_congr fun i _ => by
  unfold low
  by_cases e : i = k
  · subst e; simp [h]
  · by_cases h2 : i < k
    · have h3 : i < k + 1 := by omega
      simp [h2, h3]
    · have h3 : ¬ i < k + 1 := by omega
      simp [h2, h3]
theorem low_all (l : List UInt8) : nb 27 (low l 27) = nb 27 (hs l) := nb_congr fun i hi => by simp [low, hi]

theorem hs_get (s : ByteArray) (k : Nat) (hk : k < s.size) : hs s.data.toList k = (s[k] == 49) := by
  unfold hs
  rw [List.getElem?_eq_getElem (by simpa using hk)]
  show (some s[k] == some 49) = _
  rfl

set_option maxHeartbeats 2000000 in
theorem implRead_yes (s : ByteArray) (w : World) (hv : Set27 s) : Calls Tryd.prog 52 #[.string s] w fun e w' => e = .returned (.tuple #[.int .u32 (nb 27 (hs s.data.toList)), .bool true]) ∧ w = w' := by
  have hs27 : s.size = 27 := by have := hv.1; simpa using this
  have HV := Lib.hid hv
  clear hv
  go_enter Tryd.func52, Tryd.ntmps52
  go_wp2_with fail
  go_loop [4, 9] (fun v i => ∃ k : Nat, k ≤ 27 ∧ i = .int .i64 k ∧ v = .int .u32 (nb 27 (low s.data.toList k))) (fun _ i => 27 - (intOf i).toNat)
  case atStart => exact ⟨0, by omega, rfl, by rw [low_zero]; rfl⟩
  case round =>
    obtain ⟨k, hk, rfl, rfl⟩ := hrel
    by_cases hlt : k < 27
    · have hk2 : k < s.size := by omega
      have hg := hs_get s k hk2
      have hd := HV.out.2 k (by simpa using hk2)
      have hc : s[k] = 48 ∨ s[k] = 49 := hd
      have C := fun w => Lib.hid (implWithB (low s.data.toList k) k w hlt)
      rcases hc with hc | hc
      · have L := Lib.hid (low_nil (l := s.data.toList) (k := k) (by rw [hg, hc]; rfl))
        have hb : (s[k].toNat : Int) = 48 := by rw [hc]; rfl
        clear hg hd hc
        go_wp2_with fail
        exact ⟨⟨k + 1, by omega, by go_num, by rw [L.out]⟩, by simp [intOf]; omega⟩
      · have L := Lib.hid (low_one (l := s.data.toList) (k := k) (by rw [hg, hc]; rfl))
        have hb : (s[k].toNat : Int) = 49 := by rw [hc]; rfl
        clear hg hd hc
        go_wp2_with fail
        refine (C _).out.mono ?_
        rintro e w' ⟨rfl, rfl⟩
        go_wp2_with fail
        exact ⟨⟨k + 1, by omega, by go_num, by rw [L.out]⟩, by simp [intOf]; omega⟩
    · have hk2 : k = 27 := by omega
      subst hk2
      go_wp2_with fail
      go_ret2
      exact ⟨by rw [← low_all]; rfl, rfl⟩

theorem byte_int {c d : UInt8} (h : c ≠ d) : ((c.toNat : Int) == (d.toNat : Int)) = false := by
  rw [beq_eq_false_iff_ne]; intro e
  exact h (UInt8.toNat_inj.1 (by omega))

set_option maxHeartbeats 2000000 in
theorem implRead_no (s : ByteArray) (w : World) (hv : ¬ Set27 s) : Calls Tryd.prog 52 #[.string s] w fun e w' => e = .returned (.tuple #[.int .u32 0, .bool false]) ∧ w = w' := by
  by_cases h27 : s.size = 27
  · have HV := Lib.hid hv
    clear hv
    go_enter Tryd.func52, Tryd.ntmps52
    go_wp2_with fail
    go_loop [4, 9] (fun v i => ∃ k : Nat, k ≤ 27 ∧ i = .int .i64 k ∧ v = .int .u32 (nb 27 (low s.data.toList k)) ∧ ∀ j (hj : j < s.size), j < k → s[j] = 48 ∨ s[j] = 49) (fun _ i => 27 - (intOf i).toNat)
    case atStart => exact ⟨0, by omega, rfl, by rw [low_zero]; rfl, fun j _ hj => by omega⟩
    case round =>
      obtain ⟨k, hk, rfl, rfl, hok⟩ := hrel
      have HO := Lib.hid hok
      clear hok
      by_cases hlt : k < 27
      · have hk2 : k < s.size := by omega
        have hg := hs_get s k hk2
        have C := fun w => Lib.hid (implWithB (low s.data.toList k) k w hlt)
        by_cases hc : s[k] = 48
        · have L := Lib.hid (low_nil (l := s.data.toList) (k := k) (by rw [hg, hc]; rfl))
          have hb : (s[k].toNat : Int) = 48 := by rw [hc]; rfl
          have N : Hid (∀ j (hj : j < s.size), j < k + 1 → s[j] = 48 ∨ s[j] = 49) := fun j hj h => by
            rcases Nat.lt_succ_iff_lt_or_eq.1 h with h | h
            · exact HO.out j hj h
            · subst h; exact .inl hc
          clear hg hc
          go_wp2_with fail
          exact ⟨⟨k + 1, by omega, by go_num, by rw [L.out], N.out⟩, by simp [intOf]; omega⟩
        · by_cases hc1 : s[k] = 49
          · have L := Lib.hid (low_one (l := s.data.toList) (k := k) (by rw [hg, hc1]; rfl))
            have hb : (s[k].toNat : Int) = 49 := by rw [hc1]; rfl
            have N : Hid (∀ j (hj : j < s.size), j < k + 1 → s[j] = 48 ∨ s[j] = 49) := fun j hj h => by
              rcases Nat.lt_succ_iff_lt_or_eq.1 h with h | h
              · exact HO.out j hj h
              · subst h; exact .inr hc1
            clear hg hc hc1
            go_wp2_with fail
            refine (C _).out.mono ?_
            rintro e w' ⟨rfl, rfl⟩
            go_wp2_with fail
            exact ⟨⟨k + 1, by omega, by go_num, by rw [L.out], N.out⟩, by simp [intOf]; omega⟩
          · have b0 : ((s[k].toNat : Int) == 48) = false := byte_int hc
            have b1 : ((s[k].toNat : Int) == 49) = false := byte_int hc1
            clear hg hc hc1
            go_wp2_with fail
            go_ret2
            exact ⟨rfl, rfl⟩
      · refine absurd ⟨by simpa using h27, fun j hj => ?_⟩ HV.out
        have hj2 : j < s.size := by simpa using hj
        exact HO.out j hj2 (by omega)
  · have hs : ((s.size : Int) == 27) = false := by rw [beq_eq_false_iff_ne]; omega
    have hs2 : ((s.size : Int) != 27) = true := by rw [bne_iff_ne]; omega
    clear hv h27
    go_enter Tryd.func52, Tryd.ntmps52
    go_wp2_with fail
    go_ret2
    exact ⟨rfl, rfl⟩

set_option maxHeartbeats 2000000 in
theorem implText (F : Nat → Bool) (w : World) : Calls Tryd.prog 64 #[.int .u32 (nb 27 F)] w fun e w' => e = .returned (.string (bs (tb F))) ∧ Below w.heap.size w w' := by
  have hmk : ∀ w, (Instr.makeSlice 22 (.int .i64 27) (.int .i64 27)).run Tryd.prog w = .ok (.slice (some ⟨w.heap.size, 0, none⟩) 27 27) (w.alloc (.cells (u8s (zs 27)) 5)) := fun w => mkBytes 27 (by omega) w
  have hcv : Hid (∀ (w : World) (b : Nat) (l : List UInt8), BBlk w b l → l.length = 27 → (convert 22 9 (.slice (some ⟨b, 0, none⟩) 27 27)).run Tryd.prog w = .ok (.string (bs l)) w) := fun w b l h hl => toStr h 27 27 hl.symm
  have t0 := BBlk.made 27 w
  have hB := (Below.refl _ w).alloc (Nat.le_refl _) (.cells (u8s (zs 27)) 5)
  have HT0 := Lib.hid t0
  have HB0 := Lib.hid hB
  clear t0 hB
  go_enter Tryd.func64, Tryd.ntmps64
  go_wp2_with fail
  generalize w.alloc (.cells (u8s (zs 27)) 5) = w0 at *
  go_loopw [6] (fun i wr => ∃ k : Nat, k ≤ 27 ∧ i = .int .i64 k ∧ BBlk wr w.heap.size (part 27 k F) ∧ Below w.heap.size w wr) (fun i _ => 27 - (intOf i).toNat)
  case atStart => exact ⟨0, by omega, rfl, HT0.out, HB0.out⟩
  case round =>
    clear HT0 HB0
    obtain ⟨k, hk, rfl, ht, hb⟩ := hrel
    by_cases hlt : k < 27
    · have C := fun w => Lib.hid (implHasB F k w hlt)
      have hl := part_len 27 k F (by omega)
      obtain ⟨old, hc⟩ := ht.some k (by omega)
      have hf := ht.free k
      have HT := Lib.hid ht
      have HB := Lib.hid hb
      have HS := Lib.hid (part_step 27 k F hlt)
      clear ht hb hl
      cases hF : F k
      · rw [hF] at C
        have HF := Lib.hid hF
        clear hF
        go_wp2_with fail
        refine (C _).out.mono ?_
        rintro e w' ⟨rfl, rfl⟩
        go_wp2_with fail
        refine ⟨⟨k + 1, by omega, by go_num, ?_, HB.out.setCell (p := ⟨w.heap.size, k, none⟩) (Nat.le_refl _) _⟩, by simp [intOf]; omega⟩
        have h := HT.out.set k 48
        have h2 := HS.out
        rw [HF.out] at h2
        rw [← h2]; exact h
      · rw [hF] at C
        have HF := Lib.hid hF
        clear hF
        go_wp2_with fail
        refine (C _).out.mono ?_
        rintro e w' ⟨rfl, rfl⟩
        go_wp2_with fail
        refine ⟨⟨k + 1, by omega, by go_num, ?_, (HB.out.setCell (p := ⟨w.heap.size, k, none⟩) (Nat.le_refl _) _).setCell (p := ⟨w.heap.size, k, none⟩) (Nat.le_refl _) _⟩, by simp [intOf]; omega⟩
        have h := HT.out.set2 k 48 49
        have h2 := HS.out
        rw [HF.out] at h2
        rw [← h2]; exact h
    · have hk2 : k = 27 := by omega
      subst hk2
      have HB := Lib.hid hb
      have hv := hcv.out wr w.heap.size _ ht (part_len 27 27 F (by omega))
      rw [part_all] at hv
      clear ht hb hlt
      go_wp2_with fail
      go_ret
      exact ⟨rfl, HB.out⟩

theorem not_bits (F : Nat → Bool) : bits .andNot .u32 134217727 (nb 27 F : Nat) = (nb 27 (fun i => !F i) : Nat) := by
  have h := nb_lt27 F
  have h1 := u32_andNot_nat 134217727 (nb 27 F) (by omega) (by omega)
  rw [show ((134217727 : Nat) : Int) = 134217727 from rfl] at h1
  rw [h1]
  congr 1
  apply nb_of_bits
  · exact Nat.lt_of_le_of_lt Nat.and_le_left (by decide)
  · intro i hi
    rw [Nat.testBit_and, show 4294967295 - nb 27 F = 2 ^ 32 - (nb 27 F + 1) by omega, Nat.testBit_two_pow_sub_succ (by omega), nb_bit]
    rw [show (134217727 : Nat) = 2 ^ 27 - 1 from rfl, Nat.testBit_two_pow_sub_one]
    have h32 : i < 32 := by omega
    simp [hi, h32]
theorem within_bits (F G : Nat → Bool) : (bits .andNot .u32 (nb 27 F : Nat) (nb 27 G : Nat) == 0) = wi 27 F G := by
  have h := nb_lt27 F
  have h' := nb_lt27 G
  rw [u32_andNot_nat _ _ (by omega) (by omega), Bool.eq_iff_iff, beq_iff_eq, wi_iff]
  have e : nb 27 F &&& (4294967295 - nb 27 G) = nb 27 (fun i => F i && !G i) := by
    apply nb_of_bits
    · exact Nat.lt_of_le_of_lt Nat.and_le_left h
    · intro i hi
      rw [Nat.testBit_and, show 4294967295 - nb 27 G = 2 ^ 32 - (nb 27 G + 1) by omega, Nat.testBit_two_pow_sub_succ (by omega), nb_bit, nb_bit]
      have h32 : i < 32 := by omega
      simp [hi, h32]
  rw [e]
  constructor
  · intro hz i hi hF
    have h0 : nb 27 (fun i => F i && !G i) = nb 27 (fun _ => false) := by rw [nb_zero 27 (F := fun _ => false) (fun _ _ => rfl)]; omega
    have := nb_inj h0 i hi
    simpa [hF] using this
  · intro hall
    have : nb 27 (fun i => F i && !G i) = 0 := nb_zero 27 fun i hi => by
      cases hF : F i
      · rfl
      · simp [hall i hi hF]
    omega

end Go.Proofs.YtknjoadicdijdaaDoor

namespace Go.Proofs.YtknjoadicdijdaaDoor

/-- The numbers of a set below k. -/
def lowF (F : Nat → Bool) (k : Nat) : Nat → Bool := fun i => decide (i < k) && F i
theorem lowF_zero (F : Nat → Bool) : nb 27 (lowF F 0) = 0 := nb_zero 27 (fun i _ => by simp [lowF])
theorem lowF_one {F : Nat → Bool} {k : Nat} (h : F k = true) : nb 27 (fun j => lowF F k j || j == k) = nb 27 (lowF F (k + 1)) := nb_congr fun i _ => by
  unfold lowF
  by_cases e : i = k
  · subst e; simp [h]
  · by_cases h2 : i < k
    · have h3 : i < k + 1 := by omega
      simp [h2, h3, e]
    · have h3 : ¬ i < k + 1 := by omega
      simp [h2, h3, e]
theorem lowF_nil {F : Nat → Bool} {k : Nat} (h : F k = false) : nb 27 (lowF F k) = nb 27 (lowF F (k + 1)) := nb_congr fun i _ => by
  unfold lowF
  by_cases e : i = k
  · subst e; simp [h]
  · by_cases h2 : i < k
    · have h3 : i < k + 1 := by omega
      simp [h2, h3]
    · have h3 : ¬ i < k + 1 := by omega
      simp [h2, h3]
theorem lowF_all (F : Nat → Bool) : nb 27 (lowF F 27) = nb 27 F := nb_congr fun i hi => by simp [lowF, hi]

/-- The numbers that those of a set below k become by a step. -/
def imgF (F : Nat → Bool) (st : Nat → Nat) (k : Nat) : Nat → Bool := fun j => (List.range k).any fun i => F i && st i == j
theorem imgF_zero (F : Nat → Bool) (st : Nat → Nat) : nb 27 (imgF F st 0) = 0 := nb_zero 27 (fun i _ => by simp [imgF])
theorem imgF_succ (F : Nat → Bool) (st : Nat → Nat) (k j : Nat) : imgF F st (k + 1) j = (imgF F st k j || (F k && st k == j)) := by
  simp [imgF, List.range_succ]
theorem imgF_one {F : Nat → Bool} {st : Nat → Nat} {k : Nat} (h : F k = true) : nb 27 (fun j => imgF F st k j || j == st k) = nb 27 (imgF F st (k + 1)) := nb_congr fun i _ => by
  rw [imgF_succ, h, Bool.true_and]
  congr 1
  rw [Bool.eq_iff_iff, beq_iff_eq, beq_iff_eq]; exact eq_comm
theorem imgF_nil {F : Nat → Bool} {st : Nat → Nat} {k : Nat} (h : F k = false) : nb 27 (imgF F st k) = nb 27 (imgF F st (k + 1)) := nb_congr fun i _ => by
  rw [imgF_succ, h, Bool.false_and, Bool.or_false]
end Go.Proofs.YtknjoadicdijdaaDoor

namespace Go.Proofs.YtknjoadicdijdaaDoor
open Go.RowKit Tm

/-- The values of the variables in the state with a number. -/
def env (i : Nat) : Nat → Int := one (ax i) (ay i) (az i)
def tst (t : Tm) (i : Nat) : Bool := tru (env i) t

set_option maxHeartbeats 2000000 in
theorem implStates (t : Tm) (B : Nat) (xc : Int) (ya : Option Addr) (yn ym : Nat) (w : World) (ht : Ok false true t) (hr : RepT w B t (.int .u8 xc) (.slice ya yn ym)) :
    Calls Tryd.prog 81 #[.agg #[.int .u8 xc, .slice ya yn ym]] w fun e w' => e = .returned (.int .u32 (nb 27 (tst t))) ∧ Below w.heap.size w w' := by
  have HR := Lib.hid hr
  clear hr
  go_enter Tryd.func81, Tryd.ntmps81
  go_wp2_with fail
  have HK := Lib.hid (Blk.new w #[.int .u8 xc, .slice ya yn ym] 58)
  have HB := Lib.hid ((Below.refl _ w).alloc (Nat.le_refl _) (.cells #[.int .u8 xc, .slice ya yn ym] 58))
  have HRa := Lib.hid (HR.out.below ((Below.refl _ w).alloc (Nat.le_refl _) (.cells #[.int .u8 xc, .slice ya yn ym] 58)))
  clear HR
  generalize w.alloc (.cells #[.int .u8 xc, .slice ya yn ym] 58) = w0 at *
  go_loopw [3, 7] (fun v i wr => ∃ k : Nat, k ≤ 27 ∧ i = .int .i64 k ∧ v = .int .u32 (nb 27 (lowF (tst t) k)) ∧ Blk wr w.heap.size #[.int .u8 xc, .slice ya yn ym] 58 ∧ Below w.heap.size w wr ∧ RepT wr B t (.int .u8 xc) (.slice ya yn ym)) (fun _ i _ => 27 - (intOf i).toNat)
  case atStart => exact ⟨0, by omega, rfl, by rw [lowF_zero]; rfl, HK.out, HB.out, HRa.out⟩
  case round =>
    clear HK HB HRa
    obtain ⟨k, hk, rfl, rfl, hk0, hb, hr⟩ := hrel
    have HK := Lib.hid hk0
    have HB := Lib.hid hb
    have HR := Lib.hid hr
    clear hk0 hb hr
    by_cases hlt : k < 27
    · have C := fun w => Lib.hid (implAt_yes k w (by omega) (by omega))
      have D := fun w h => Lib.hid (holds_any _ _ _ (at_st3 (i := (k : Int)) (by omega) (by omega)) t B (.int .u8 xc) (.slice ya yn ym) w ht h)
      have E := fun w => Lib.hid (implWithB (lowF (tst t) k) k w hlt)
      go_wp2_with fail
      refine (C _).out.mono ?_
      rintro e w1 ⟨rfl, hb⟩
      have HB1 := Lib.hid (bnext HB.out hb)
      have HK1 := Lib.hid (HK.out.kept hb)
      have HR1 := Lib.hid (HR.out.below hb)
      clear hb
      have q0 := HK1.out.cell 0
      have q1 := HK1.out.cell 1
      simp at q0 q1
      have hl1 := HK1.out.lt
      have HA := Lib.hid (Blk.new w1 #[.int .i64 (ax k), .int .i64 (ay k), .int .i64 (az k)] 30)
      have hbe := (Below.refl _ w1).alloc (Nat.le_refl _) (.cells #[.int .i64 (ax k), .int .i64 (ay k), .int .i64 (az k)] 30)
      have HRx := Lib.hid (HR1.out.below hbe)
      have HBx := Lib.hid (bnext HB1.out hbe)
      have HKx := Lib.hid (HK1.out.kept hbe)
      clear hbe
      cases hF : tst t k
      · have L := Lib.hid (lowF_nil hF)
        have HF := Lib.hid hF
        clear hF
        go_wp2_with fail
        clear q0 q1 hl1
        refine (D _ HRx.out).out.mono ?_
        rintro e w2 ⟨rfl, hb⟩
        have HB2 := Lib.hid (bnext HBx.out hb)
        have HK2 := Lib.hid (HKx.out.kept hb)
        have HR2 := Lib.hid (HRx.out.below hb)
        clear hb
        rw [show tru (one (ax k) (ay k) (az k)) t = false from HF.out]
        go_wp2_with fail
        exact ⟨⟨k + 1, by omega, by go_num, by rw [L.out], HK2.out, HB2.out, HR2.out⟩, by simp [intOf]; omega⟩
      · have L := Lib.hid (lowF_one hF)
        have HF := Lib.hid hF
        clear hF
        go_wp2_with fail
        clear q0 q1 hl1
        refine (D _ HRx.out).out.mono ?_
        rintro e w2 ⟨rfl, hb⟩
        have HB2 := Lib.hid (bnext HBx.out hb)
        have HK2 := Lib.hid (HKx.out.kept hb)
        have HR2 := Lib.hid (HRx.out.below hb)
        clear hb
        rw [show tru (one (ax k) (ay k) (az k)) t = true from HF.out]
        go_wp2_with fail
        refine (E _).out.mono ?_
        rintro e w' ⟨rfl, rfl⟩
        go_wp2_with fail
        exact ⟨⟨k + 1, by omega, by go_num, by rw [L.out], HK2.out, HB2.out, HR2.out⟩, by simp [intOf]; omega⟩
    · have hk2 : k = 27 := by omega
      subst hk2
      go_wp2_with fail
      go_ret
      exact ⟨by rw [← lowF_all]; rfl, HB.out⟩

set_option maxHeartbeats 2000000 in
theorem specOf0 (s : ByteArray) (t : Tm) (w : World) (ht0 : Ok true true t) (hs : s.data.toList = t.ser) (hl0 : s.size ≤ 1000000) :
    Calls Tryd.prog 88 #[.string s] w fun e w' => e = .returned (.string (bs (tb (tst t)))) ∧ Below w.heap.size w w' := by
  have hmk : ∀ w, (Instr.makeSlice 22 (.int .i64 27) (.int .i64 27)).run Tryd.prog w = .ok (.slice (some ⟨w.heap.size, 0, none⟩) 27 27) (w.alloc (.cells (u8s (zs 27)) 5)) := fun w => mkBytes 27 (by omega) w
  go_enter Tryd.func88, Tryd.ntmps88
  go_wp2_with fail
  have HT0 := Lib.hid (BBlk.made 27 w)
  have HB0 := Lib.hid ((Below.refl _ w).alloc (Nat.le_refl _) (.cells (u8s (zs 27)) 5))
  generalize w.alloc (.cells (u8s (zs 27)) 5) = w0 at *
  have HS := Lib.hid hs
  clear hs
  go_loopw [4] (fun i wr => ∃ k : Nat, k ≤ 27 ∧ i = .int .i64 k ∧ BBlk wr w.heap.size (part 27 k (tst t)) ∧ Below w.heap.size w wr) (fun i _ => 27 - (intOf i).toNat)
  case atStart => exact ⟨0, by omega, rfl, HT0.out, HB0.out⟩
  case round =>
    clear HT0 HB0
    obtain ⟨k, hk, rfl, ht, hb⟩ := hrel
    by_cases hlt : k < 27
    · have HT := Lib.hid ht
      have HB := Lib.hid hb
      have HP := Lib.hid (part_step 27 k (tst t) hlt)
      have hl := Lib.hid (part_len 27 k (tst t) (by omega))
      clear ht hb
      have C := fun w => Lib.hid (specAt0 k w (by omega) (by omega))
      have D := fun w => Lib.hid (specOne (ax k) (ay k) (az k) w)
      have H := fun w => Lib.hid (sph_any (env k) (one_bd (at_st3 (i := (k : Int)) (by omega) (by omega))) s hl0 t 0 [] w ht0 (by rw [List.drop_zero, List.append_nil]; exact HS.out))
      go_wp2_with fail
      refine (C _).out.mono ?_
      rintro e w1 ⟨rfl, hb⟩
      have HB1 := Lib.hid (bnext HB.out hb)
      have HT1 := Lib.hid (HT.out.kept hb)
      clear hb
      go_wp2_with fail
      refine (D _).out.mono ?_
      rintro e w2 ⟨rfl, hb⟩
      have HB2 := Lib.hid (bnext HB1.out hb)
      have HT2 := Lib.hid (HT1.out.kept hb)
      clear hb
      go_wp2_with fail
      refine (H _).out.mono ?_
      rintro e w3 ⟨rfl, hb⟩
      have HB3 := Lib.hid (bnext HB2.out hb)
      have HT3 := Lib.hid (HT2.out.kept hb)
      clear hb
      obtain ⟨old, hc⟩ := HT3.out.some k (by rw [hl.out]; omega)
      have hf := HT3.out.free k
      go_wp2_with fail
      refine (specBit _ _).mono ?_
      rintro e w' ⟨rfl, rfl⟩
      go_wp2_with fail
      refine ⟨⟨k + 1, by omega, by go_num, ?_, HB3.out.setCell (p := ⟨w.heap.size, k, none⟩) (Nat.le_refl _) _⟩, by simp [intOf]; omega⟩
      rw [← HP.out]
      exact HT3.out.set k _
    · have hk2 : k = 27 := by omega
      subst hk2
      have HB := Lib.hid hb
      have hv := toStr ht 27 27 (part_len 27 27 _ (by omega)).symm
      rw [part_all] at hv
      clear ht hb hlt
      go_wp2_with fail
      go_ret
      exact ⟨rfl, HB.out⟩
end Go.Proofs.YtknjoadicdijdaaDoor

namespace Go.Proofs.YtknjoadicdijdaaDoor
open Go.RowKit Tm

theorem blk3 {w : World} {b : Nat} {x y z : Value} {t : TypeId} (h : Blk w b #[x, y, z] t) : w.cell? ⟨b, 0, none⟩ = some x ∧ w.cell? ⟨b, 1, none⟩ = some y ∧ w.cell? ⟨b, 2, none⟩ = some z ∧ b < w.heap.size := ⟨h.cell 0, h.cell 1, h.cell 2, h.lt⟩

theorem bswap {w0 w : World} {x y : Obj} (h : Below w0.heap.size w0 (w.alloc x)) (hz : w0.heap.size ≤ w.heap.size) : Below w0.heap.size w0 (w.alloc y) :=
  ⟨h.os, h.tape, h.output, by simp; omega, fun k hk => by
    rw [Below.heap_alloc _ _ _ (by omega), ← h.block k hk, Below.heap_alloc _ _ _ (by omega)]⟩
theorem keep33 {w0 w' : World} {b d : Nat} {x y z p q r : Value} {t u : TypeId} (h : Blk w0 b #[x, y, z] t) (k : Blk w0 d #[p, q, r] u) (hb : Below w0.heap.size w0 w') :
    Below w0.heap.size w0 w' ∧ w'.cell? ⟨b, 0, none⟩ = some x ∧ w'.cell? ⟨b, 1, none⟩ = some y ∧ w'.cell? ⟨b, 2, none⟩ = some z ∧ w'.cell? ⟨d, 0, none⟩ = some p ∧ w'.cell? ⟨d, 1, none⟩ = some q ∧ w'.cell? ⟨d, 2, none⟩ = some r :=
  ⟨hb, (h.kept hb).c3.1, (h.kept hb).c3.2.1, (h.kept hb).c3.2.2, (k.kept hb).c3.1, (k.kept hb).c3.2.1, (k.kept hb).c3.2.2⟩

set_option maxHeartbeats 2000000 in
theorem implStep_of (c : UInt8) (i : Nat) (t : Tm) (B : Nat) (xc : Int) (ya : Option Addr) (yn ym : Nat) (p q r : Int) (w : World) (hi : i < 27) (ht : Ok false false t) (hr : RepT w B t (.int .u8 xc) (.slice ya yn ym))
    (hst : st3 p q r = true)
    (D : ∀ w, Calls Tryd.prog 11 #[.agg #[.int .i64 (ax i), .int .i64 (ay i), .int .i64 (az i)], .string ⟨#[c]⟩, .int .i64 (val (one (ax i) (ay i) (az i)) t)] w fun e w' => e = .returned (.tuple #[.agg #[.int .i64 p, .int .i64 q, .int .i64 r], .bool true]) ∧ Below w.heap.size w w') :
    Calls Tryd.prog 63 #[.agg #[.string ⟨#[c]⟩, .int .u8 xc, .slice ya yn ym], .int .i64 i] w fun e w' => e = .returned (.int .i64 (p + 3 * q + 9 * r)) ∧ Below w.heap.size w w' := by
  have D' := Lib.hid D
  have hat := at_st3 (i := (i : Int)) (by omega) (by omega)
  have hbd := st3_bd hat
  have A := fun w => Lib.hid (implAt_yes i w (by omega) (by omega))
  have V := fun w h => Lib.hid (value_any (ax i) (ay i) (az i) hbd.1 hbd.2.1 hbd.2.2 t B (.int .u8 xc) (.slice ya yn ym) w ht h)
  have I := fun w => Lib.hid (implIx_yes p q r w hst)
  have HR := Lib.hid (hr.below ((Below.refl _ w).alloc (Nat.le_refl _) (.cells #[.string ⟨#[c]⟩, .int .u8 xc, .slice ya yn ym] 73)))
  have HK := Lib.hid (Blk.new w #[.string ⟨#[c]⟩, .int .u8 xc, .slice ya yn ym] 73)
  clear D hat hbd hr hst
  go_enter Tryd.func63, Tryd.ntmps63
  go_wp2_with fail
  refine (A _).out.mono ?_
  rintro e w1 ⟨rfl, hb⟩
  have HB1 := Lib.hid (bbox hb)
  have HK1 := Lib.hid (HK.out.kept hb)
  have HR1 := Lib.hid (HR.out.below hb)
  clear hb HK HR
  obtain ⟨q0, q1, q2, hl1⟩ := blk3 HK1.out
  have HA1 := Lib.hid (Blk.new w1 #[.int .i64 (ax i), .int .i64 (ay i), .int .i64 (az i)] 30)
  have hbx := (Below.refl _ w1).alloc (Nat.le_refl _) (.cells #[.int .i64 (ax i), .int .i64 (ay i), .int .i64 (az i)] 30)
  have HBx := Lib.hid (bnext HB1.out hbx)
  have HRx := Lib.hid (HR1.out.below hbx)
  have HKx := Lib.hid (HK1.out.kept hbx)
  clear hbx
  go_wp2_with fail
  generalize w1.alloc (.cells #[.int .i64 (ax i), .int .i64 (ay i), .int .i64 (az i)] 30) = w0 at *
  clear q0 q1 q2
  obtain ⟨q0, q1, q2⟩ := HKx.out.c3
  obtain ⟨r0, r1, r2⟩ := HA1.out.c3
  have hbb := (Below.refl w0.heap.size w0).drew
  clear hl1
  go_region_held3 (fun w' => Below w0.heap.size w0 w' ∧ w'.cell? ⟨w.heap.size, 0, none⟩ = some (.string ⟨#[c]⟩) ∧ w'.cell? ⟨w.heap.size, 1, none⟩ = some (.int .u8 xc) ∧ w'.cell? ⟨w.heap.size, 2, none⟩ = some (.slice ya yn ym) ∧
      w'.cell? ⟨w1.heap.size, 0, none⟩ = some (.int .i64 (ax i)) ∧ w'.cell? ⟨w1.heap.size, 1, none⟩ = some (.int .i64 (ay i)) ∧ w'.cell? ⟨w1.heap.size, 2, none⟩ = some (.int .i64 (az i)))
    ((first
      | exact keep33 HKx.out HA1.out (by assumption)
      | (go_split_ands; exact keep33 HKx.out HA1.out (bnext (by assumption) hq))
      | (go_split_ands; exact keep33 HKx.out HA1.out (bput (by assumption) _))
      | (go_split_ands; exact keep33 HKx.out HA1.out (bswap (by assumption) hz))
      | (go_split_ands; exact keep33 HKx.out HA1.out (Below.setCell (Below.setCell (Below.setCell (by assumption) (by simp; omega) _) (by simp; omega) _) (by simp; omega) _))
      | (go_split_ands; exact keep33 HKx.out HA1.out (Below.setCell (Below.setCell (Below.setCell (by assumption) (by simp) _) (by simp) _) (by simp) _))))
    (first
      | (go_at_call 71; (with_reducible refine (V _ (HRx.out.below (by go_split_ands; assumption))).out.mono ?_); rintro e w2 ⟨rfl, hq⟩; have hz : w0.heap.size ≤ w2.heap.size := (bnext (by go_split_ands; assumption) hq).size; obtain ⟨hcq, hfq⟩ := bcell hq; have hs := hq.size; try simp at hs; try replace hs := Nat.lt_of_succ_le hs)
      | (go_at_call 11; (with_reducible refine (D'.out _).mono ?_); rintro e w2 ⟨rfl, hq⟩; have hz : w0.heap.size ≤ w2.heap.size := (bnext (by go_split_ands; assumption) hq).size; obtain ⟨hcq, hfq⟩ := bcell hq; have hs := hq.size; try simp at hs; try replace hs := Nat.lt_of_succ_le hs))
  all_goals
    go_split_ands
    have HF := Lib.hid (bnext HBx.out (by assumption))
    go_wp2_with fail
    refine (I _).out.mono ?_
    rintro e w9 ⟨rfl, hb⟩
    have HF2 := Lib.hid (bnext HF.out hb)
    clear hb
    go_wp2_with fail
    go_ret
    exact ⟨rfl, HF2.out⟩
end Go.Proofs.YtknjoadicdijdaaDoor

namespace Go.Proofs.YtknjoadicdijdaaDoor
open Go.RowKit Tm

theorem at_has (n : Nat) (w : World) : (method 248 65 (.int .u32 n) "loop.example/productprograms/impl.has").run Tryd.prog w = .ok (60, .int .u32 n) w := by kernel_rfl
theorem at_with (n : Nat) (w : World) : (method 248 65 (.int .u32 n) "loop.example/productprograms/impl.with").run Tryd.prog w = .ok (79, .int .u32 n) w := by kernel_rfl

set_option maxHeartbeats 2000000 in
theorem implPre (F : Nat → Bool) (recv : Value) (st : Nat → Nat) (w : World) (hst : ∀ i, i < 27 → st i < 27)
    (S : ∀ w', Below w.heap.size w w' → ∀ i, i < 27 → Calls Tryd.prog 63 #[recv, .int .i64 (i : Nat)] w' fun e w2 => e = .returned (.int .i64 (st i : Nat)) ∧ Below w'.heap.size w' w2) :
    Calls Tryd.prog 62 #[.int .u32 (nb 27 F), .int .i64 27, .func (.func 63) #[recv] #[]] w fun e w' => e = .returned (.int .u32 (nb 27 (fun i => F (st i)))) ∧ Below w.heap.size w w' := by
  have HS := Lib.hid S
  have HT := Lib.hid hst
  clear S hst
  go_enter Tryd.func62, Tryd.ntmps62
  go_wp2_with fail
  go_loopw [7, 10] (fun v i wr => ∃ k : Nat, k ≤ 27 ∧ i = .int .i64 k ∧ v = .int .u32 (nb 27 (lowF (fun i => F (st i)) k)) ∧ Below w.heap.size w wr) (fun _ i _ => 27 - (intOf i).toNat)
  case atStart => exact ⟨0, by omega, rfl, by rw [lowF_zero]; rfl, Below.refl _ _⟩
  case round =>
    obtain ⟨k, hk, rfl, rfl, hb⟩ := hrel
    have HB := Lib.hid hb
    clear hb
    by_cases hlt : k < 27
    · have C := Lib.hid (HS.out wr HB.out k hlt)
      go_wp2_with fail
      refine C.out.mono ?_
      rintro e w1 ⟨rfl, hb⟩
      have HB1 := Lib.hid (bnext HB.out hb)
      clear hb
      have h1 := at_has (nb 27 F)
      have h2 := at_with (nb 27 (lowF (fun i => F (st i)) k))
      have D := fun w => Lib.hid (implHasB F (st k) w (HT.out k hlt))
      have E := fun w => Lib.hid (implWithB (lowF (fun i => F (st i)) k) k w hlt)
      cases hF : F (st k)
      · rw [hF] at D
        have L := Lib.hid (lowF_nil (F := fun i => F (st i)) (k := k) hF)
        clear hF
        go_wp2_with fail
        refine (D _).out.mono ?_
        rintro e w' ⟨rfl, rfl⟩
        go_wp2_with fail
        exact ⟨⟨k + 1, by omega, by go_num, by rw [L.out], HB1.out⟩, by simp [intOf]; omega⟩
      · rw [hF] at D
        have L := Lib.hid (lowF_one (F := fun i => F (st i)) (k := k) hF)
        clear hF
        go_wp2_with fail
        refine (D _).out.mono ?_
        rintro e w' ⟨rfl, rfl⟩
        go_wp2_with fail
        refine (E _).out.mono ?_
        rintro e w' ⟨rfl, rfl⟩
        go_wp2_with fail
        exact ⟨⟨k + 1, by omega, by go_num, by rw [L.out], HB1.out⟩, by simp [intOf]; omega⟩
    · have hk2 : k = 27 := by omega
      subst hk2
      go_wp2_with fail
      go_ret
      exact ⟨by rw [← lowF_all]; rfl, HB.out⟩

end Go.Proofs.YtknjoadicdijdaaDoor

namespace Go.Proofs.YtknjoadicdijdaaDoor
open Go.RowKit Tm

def ixx (x y z : Int) : Nat := (x + 3 * y + 9 * z).toNat
/-- The number of a state in which a variable has another value. -/
def setN (c : UInt8) (n : Int) (i : Nat) : Nat := if c = 120 then ixx n (ay i) (az i) else if c = 121 then ixx (ax i) n (az i) else ixx (ax i) (ay i) n
/-- One assignment as a step from number to number. -/
def asg (c : UInt8) (t : Tm) (i : Nat) : Nat := setN c (val (env i) t) i

theorem ixx_lt {x y z : Int} (h : st3 x y z = true) : ixx x y z < 27 ∧ ((ixx x y z : Nat) : Int) = x + 3 * y + 9 * z := by
  have h := st3_lt h
  unfold ixx; omega
theorem st3_parts {x y z : Int} (h : st3 x y z = true) : val3 x = true ∧ val3 y = true ∧ val3 z = true := by
  unfold st3 at h
  simp only [Bool.and_eq_true] at h
  exact ⟨h.1.1, h.1.2, h.2⟩
theorem st3_of {x y z : Int} (hx : val3 x = true) (hy : val3 y = true) (hz : val3 z = true) : st3 x y z = true := by unfold st3; rw [hx, hy, hz]; rfl
theorem val_env {t : Tm} (ht : Ok false false t) {i : Nat} (hi : i < 27) : val3 (val (env i) t) = true := by
  have h := val_bd (one_bd (at_st3 (i := (i : Int)) (by omega) (by omega))) ht
  exact val3_t h.1 (by have := h.2; unfold env; omega)
theorem setN_lt {c : UInt8} {n : Int} {i : Nat} (hn : val3 n = true) (hi : i < 27) : setN c n i < 27 := by
  obtain ⟨hx, hy, hz⟩ := st3_parts (at_st3 (i := (i : Int)) (by omega) (by omega))
  unfold setN
  split
  · exact (ixx_lt (st3_of hn hy hz)).1
  · split
    · exact (ixx_lt (st3_of hx hn hz)).1
    · exact (ixx_lt (st3_of hx hy hn)).1

theorem implStep (c : UInt8) (hc : c = 120 ∨ c = 121 ∨ c = 122) (i : Nat) (t : Tm) (B : Nat) (xc : Int) (ya : Option Addr) (yn ym : Nat) (w : World) (hi : i < 27) (ht : Ok false false t) (hr : RepT w B t (.int .u8 xc) (.slice ya yn ym)) :
    Calls Tryd.prog 63 #[.agg #[.string ⟨#[c]⟩, .int .u8 xc, .slice ya yn ym], .int .i64 i] w fun e w' => e = .returned (.int .i64 (asg c t i : Nat)) ∧ Below w.heap.size w w' := by
  have hat := at_st3 (i := (i : Int)) (by omega) (by omega)
  obtain ⟨hx, hy, hz⟩ := st3_parts hat
  have hv := val_env ht hi
  rcases hc with rfl | rfl | rfl
  · have h3 := st3_of hv hy hz
    have h := implStep_of 120 i t B xc ya yn ym _ _ _ w hi ht hr h3 (fun w => implSet_x (ax i) (ay i) (az i) (val (env i) t) w hat hv)
    rw [← (ixx_lt h3).2] at h
    exact h
  · have h3 := st3_of hx hv hz
    have h := implStep_of 121 i t B xc ya yn ym _ _ _ w hi ht hr h3 (fun w => implSet_y (ax i) (ay i) (az i) (val (env i) t) w hat hv)
    rw [← (ixx_lt h3).2] at h
    exact h
  · have h3 := st3_of hx hy hv
    have h := implStep_of 122 i t B xc ya yn ym _ _ _ w hi ht hr h3 (fun w => implSet_z (ax i) (ay i) (az i) (val (env i) t) w hat hv)
    rw [← (ixx_lt h3).2] at h
    exact h
theorem asg_lt {c : UInt8} {t : Tm} (ht : Ok false false t) {i : Nat} (hi : i < 27) : asg c t i < 27 := setN_lt (val_env ht hi) hi

theorem isVar_at {v : ByteArray} (h : IsVar v) : ∃ c : UInt8, v = ⟨#[c]⟩ ∧ (c = 120 ∨ c = 121 ∨ c = 122) := by
  rcases h with rfl | rfl | rfl
  · exact ⟨120, rfl, .inl rfl⟩
  · exact ⟨121, rfl, .inr (.inl rfl)⟩
  · exact ⟨122, rfl, .inr (.inr rfl)⟩

set_option maxHeartbeats 2000000 in
theorem implReadA_bad (p v e : ByteArray) (w : World) (n1 : Nat) (b1 b2 : Bool) (hb : (b1 && b2) = false)
    (C1 : ∀ w, Calls Tryd.prog 52 #[.string p] w fun e w' => e = .returned (.tuple #[.int .u32 n1, .bool b1]) ∧ w = w')
    (C2 : ∀ w, Calls Tryd.prog 46 #[.string e, .int .u8 101] w fun e w' => ∃ xc ya yn ym, e = .returned (.tuple #[.agg #[.int .u8 xc, .slice ya yn ym], .bool b2]) ∧ Below w.heap.size w w') :
    Calls Tryd.prog 61 #[.string p, .string v, .string e] w fun e w' => e = .returned (.tuple #[.int .u32 0, .agg #[.string ⟨#[]⟩, .int .u8 0, .slice none 0 0], .bool false]) ∧ Below w.heap.size w w' := by
  have C1' := Lib.hid C1
  have C2' := Lib.hid C2
  clear C1 C2
  go_enter Tryd.func61, Tryd.ntmps61
  go_wp2_with fail
  have HK := Lib.hid (Blk.new w #[.string ⟨#[]⟩, .int .u8 0, .slice none 0 0] 73)
  have HB0 := Lib.hid ((Below.refl _ w).alloc (Nat.le_refl _) (.cells #[.string ⟨#[]⟩, .int .u8 0, .slice none 0 0] 73))
  generalize w.alloc (.cells #[.string ⟨#[]⟩, .int .u8 0, .slice none 0 0] 73) = w0 at *
  refine (C1'.out _).mono ?_
  rintro e w' ⟨rfl, rfl⟩
  go_wp2_with fail
  refine (C2'.out _).mono ?_
  rintro e w1 ⟨xc, ya, yn, ym, rfl, hb1⟩
  have HB1 := Lib.hid (bput (bnext HB0.out hb1) (.cells #[.int .u8 xc, .slice ya yn ym] 58))
  have HK1 := Lib.hid ((HK.out.kept hb1).alloc (.cells #[.int .u8 xc, .slice ya yn ym] 58))
  clear hb1
  obtain ⟨q0, q1, q2, f0, f1, f2⟩ := HK1.out.a3
  cases b1
  · clear hb
    go_wp2_with fail
    exact bodyPost_ret (v := .tuple #[.int .u32 0, .agg #[.string ⟨#[]⟩, .int .u8 0, .slice none 0 0], .bool false]) (by simp [results, Tryd.results61, go_sem, q0, q1, q2]) rfl ⟨rfl, by (repeat refine Below.setCell ?_ (by simp) _); exact HB1.out⟩
  · obtain rfl : b2 = false := by simpa using hb
    clear hb
    go_wp2_with fail
    exact bodyPost_ret (v := .tuple #[.int .u32 0, .agg #[.string ⟨#[]⟩, .int .u8 0, .slice none 0 0], .bool false]) (by simp [results, Tryd.results61, go_sem, q0, q1, q2]) rfl ⟨rfl, by (repeat refine Below.setCell ?_ (by simp) _); exact HB1.out⟩

set_option maxHeartbeats 2000000 in
theorem implReadA_var (p v e : ByteArray) (w : World) (n1 : Nat) (hv : ¬ IsVar v) (hm : v.size ≤ maxLen)
    (C1 : ∀ w, Calls Tryd.prog 52 #[.string p] w fun e w' => e = .returned (.tuple #[.int .u32 n1, .bool true]) ∧ w = w')
    (C2 : ∀ w, Calls Tryd.prog 46 #[.string e, .int .u8 101] w fun e w' => ∃ xc ya yn ym, e = .returned (.tuple #[.agg #[.int .u8 xc, .slice ya yn ym], .bool true]) ∧ Below w.heap.size w w') :
    Calls Tryd.prog 61 #[.string p, .string v, .string e] w fun e w' => e = .returned (.tuple #[.int .u32 0, .agg #[.string ⟨#[]⟩, .int .u8 0, .slice none 0 0], .bool false]) ∧ Below w.heap.size w w' := by
  have C1' := Lib.hid C1
  have C2' := Lib.hid C2
  have V := fun w => Lib.hid (implIsVar_no v w hm hv)
  clear C1 C2 hv
  go_enter Tryd.func61, Tryd.ntmps61
  go_wp2_with fail
  have HK := Lib.hid (Blk.new w #[.string ⟨#[]⟩, .int .u8 0, .slice none 0 0] 73)
  have HB0 := Lib.hid ((Below.refl _ w).alloc (Nat.le_refl _) (.cells #[.string ⟨#[]⟩, .int .u8 0, .slice none 0 0] 73))
  generalize w.alloc (.cells #[.string ⟨#[]⟩, .int .u8 0, .slice none 0 0] 73) = w0 at *
  refine (C1'.out _).mono ?_
  rintro e w' ⟨rfl, rfl⟩
  go_wp2_with fail
  refine (C2'.out _).mono ?_
  rintro e w1 ⟨xc, ya, yn, ym, rfl, hb1⟩
  have HB1 := Lib.hid (bput (bnext HB0.out hb1) (.cells #[.int .u8 xc, .slice ya yn ym] 58))
  have HK1 := Lib.hid ((HK.out.kept hb1).alloc (.cells #[.int .u8 xc, .slice ya yn ym] 58))
  clear hb1
  obtain ⟨q0, q1, q2, f0, f1, f2⟩ := HK1.out.a3
  go_wp2_with fail
  refine (V _).out.mono ?_
  rintro e w' ⟨rfl, rfl⟩
  go_wp2_with fail
  exact bodyPost_ret (v := .tuple #[.int .u32 0, .agg #[.string ⟨#[]⟩, .int .u8 0, .slice none 0 0], .bool false]) (by simp [results, Tryd.results61, go_sem, q0, q1, q2]) rfl ⟨rfl, by (repeat refine Below.setCell ?_ (by simp) _); exact HB1.out⟩

set_option maxHeartbeats 2000000 in
theorem implReadA_yes (p v e : ByteArray) (w : World) (hp : Set27 p) (hv : IsVar v) {t : Tm} (ht : Ok false false t) (he : e.data.toList = t.ser) (hl : e.size ≤ 200) :
    Calls Tryd.prog 61 #[.string p, .string v, .string e] w fun e w' => ∃ xc ya yn ym, e = .returned (.tuple #[.int .u32 (nb 27 (hs p.data.toList)), .agg #[.string v, .int .u8 xc, .slice ya yn ym], .bool true]) ∧ RepT w' w.heap.size t (.int .u8 xc) (.slice ya yn ym) ∧ Below w.heap.size w w' := by
  have C1 := fun w => Lib.hid (implRead_yes p w hp)
  have C2 := fun w => Lib.hid (read_yes false e w ht he hl)
  have V := fun w => Lib.hid (implIsVar_yes v w hv)
  clear hv he
  go_enter Tryd.func61, Tryd.ntmps61
  go_wp2_with fail
  have HK := Lib.hid (Blk.new w #[.string ⟨#[]⟩, .int .u8 0, .slice none 0 0] 73)
  have HB0 := Lib.hid ((Below.refl _ w).alloc (Nat.le_refl _) (.cells #[.string ⟨#[]⟩, .int .u8 0, .slice none 0 0] 73))
  have hsz : w.heap.size < (w.alloc (.cells #[.string ⟨#[]⟩, .int .u8 0, .slice none 0 0] 73)).heap.size := by simp
  generalize w.alloc (.cells #[.string ⟨#[]⟩, .int .u8 0, .slice none 0 0] 73) = w0 at *
  refine (C1 _).out.mono ?_
  rintro e w' ⟨rfl, rfl⟩
  go_wp2_with fail
  refine (C2 _).out.mono ?_
  rintro e w1 ⟨xc, ya, yn, ym, rfl, hr, hb1⟩
  have HB1 := Lib.hid (bput (bnext HB0.out hb1) (.cells #[.int .u8 xc, .slice ya yn ym] 58))
  have HK1 := Lib.hid ((HK.out.kept hb1).alloc (.cells #[.int .u8 xc, .slice ya yn ym] 58))
  have HR1 := Lib.hid (hr.below ((Below.refl _ w1).alloc (Nat.le_refl _) (.cells #[.int .u8 xc, .slice ya yn ym] 58)))
  have hne := (HK.out.kept hb1).lt
  have HT1 := Lib.hid (Blk.new w1 #[.int .u8 xc, .slice ya yn ym] 58)
  clear hb1 hr
  go_wp2_with fail
  refine (V _).out.mono ?_
  rintro e w' ⟨rfl, rfl⟩
  go_wp2_with fail
  generalize w1.alloc (.cells #[.int .u8 xc, .slice ya yn ym] 58) = w2 at *
  obtain ⟨q0, q1, q2, f0, f1, f2⟩ := HK1.out.a3
  have r0 := HT1.out.cell 0
  have r1 := HT1.out.cell 1
  simp at r0 r1
  go_region
  all_goals
    go_wp2_with fail
    refine bodyPost_ret (v := .tuple #[.int .u32 (nb 27 (hs p.data.toList)), .agg #[.string v, .int .u8 xc, .slice ya yn ym], .bool true]) (by simp [results, Tryd.results61, go_sem, q0, q1, q2]) rfl ⟨xc, ya, yn, ym, rfl, ?_, ?_⟩
    · refine (HR1.out.keep (B' := w.heap.size) (fun b o v hB h => ?_) (Nat.le_of_lt hsz)).below (Below.refl _ _).drew
      have hne2 : b ≠ w.heap.size := by omega
      rw [World.cell?_setCell_other _ _ _ _ (by intro e; injection e; omega), World.cell?_setCell_other _ _ _ _ (by intro e; injection e; omega), World.cell?_setCell_other _ _ _ _ (by intro e; injection e; omega)]
      exact h
    · refine Below.drew ?_
      (repeat refine Below.setCell ?_ (by simp) _)
      exact HB1.out

set_option maxHeartbeats 2000000 in
theorem implApre_yes (p v e : ByteArray) (w : World) (c : UInt8) (hp : Set27 p) (hv : v = ⟨#[c]⟩) (hc : c = 120 ∨ c = 121 ∨ c = 122) {t : Tm} (ht : Ok false false t) (he : e.data.toList = t.ser) (hl : e.size ≤ 200) :
    Calls Tryd.prog 30 #[.string p, .string v, .string e] w fun e w' => e = .returned (.tuple #[.string (bs (tb (fun i => hs p.data.toList (asg c t i)))), .bool true]) ∧ Below w.heap.size w w' := by
  have hiv : IsVar v := by rcases hc with rfl | rfl | rfl <;> simp [IsVar, hv]
  subst hv
  have C := fun w => Lib.hid (implReadA_yes p _ e w hp hiv ht he hl)
  have X := fun w => Lib.hid (implText (fun i => hs p.data.toList (asg c t i)) w)
  have hmf : ∀ (fn : Fn) (first cap : Array Value) (w : World), (Instr.makeFunc fn first cap).run Tryd.prog w = .ok (.func fn first cap) w := fun _ _ _ _ => rfl
  have hc' := Lib.hid hc
  clear hc he hiv
  go_enter Tryd.func30, Tryd.ntmps30
  go_wp2_with fail
  refine (C _).out.mono ?_
  rintro e w1 ⟨xc, ya, yn, ym, rfl, hr, hb1⟩
  have HB1 := Lib.hid (bput hb1 (.cells #[.string ⟨#[c]⟩, .int .u8 xc, .slice ya yn ym] 73))
  have HK1 := Lib.hid (Blk.new w1 #[.string ⟨#[c]⟩, .int .u8 xc, .slice ya yn ym] 73)
  have HR1 := Lib.hid (hr.below ((Below.refl _ w1).alloc (Nat.le_refl _) (.cells #[.string ⟨#[c]⟩, .int .u8 xc, .slice ya yn ym] 73)))
  clear hb1 hr
  go_wp2_with fail
  refine (implPre (hs p.data.toList) _ (asg c t) _ (fun i hi => asg_lt ht hi) (fun w' hb i hi => implStep c hc'.out i t w.heap.size xc ya yn ym w' hi ht (HR1.out.below hb))).mono ?_
  rintro e w2 ⟨rfl, hb⟩
  have HB2 := Lib.hid (bnext HB1.out hb)
  clear hb
  go_wp2_with fail
  refine (X _).out.mono ?_
  rintro e w3 ⟨rfl, hb⟩
  have HB3 := Lib.hid (bnext HB2.out hb)
  clear hb
  go_wp2_with fail
  go_ret2
  exact ⟨rfl, HB3.out⟩

set_option maxHeartbeats 2000000 in
theorem implApre_of (p v e : ByteArray) (w : World)
    (C : ∀ w, Calls Tryd.prog 61 #[.string p, .string v, .string e] w fun e w' => e = .returned (.tuple #[.int .u32 0, .agg #[.string ⟨#[]⟩, .int .u8 0, .slice none 0 0], .bool false]) ∧ Below w.heap.size w w') :
    Calls Tryd.prog 30 #[.string p, .string v, .string e] w fun e w' => e = .returned (.tuple #[.string (bs []), .bool false]) ∧ Below w.heap.size w w' := by
  have C' := Lib.hid C
  clear C
  go_enter Tryd.func30, Tryd.ntmps30
  go_wp2_with fail
  refine (C'.out _).mono ?_
  rintro e w1 ⟨rfl, hb1⟩
  have HB1 := Lib.hid (bput hb1 (.cells #[.string ⟨#[]⟩, .int .u8 0, .slice none 0 0] 73))
  clear hb1
  go_wp2_with fail
  go_ret2
  exact ⟨rfl, HB1.out⟩

theorem implReadA_no (p v e : ByteArray) (w : World) (hm : v.size ≤ maxLen) (h : ¬ (Set27 p ∧ IsVar v ∧ Valid false false e.data.toList ∧ e.size ≤ 200)) :
    Calls Tryd.prog 61 #[.string p, .string v, .string e] w fun e w' => e = .returned (.tuple #[.int .u32 0, .agg #[.string ⟨#[]⟩, .int .u8 0, .slice none 0 0], .bool false]) ∧ Below w.heap.size w w' := by
  have ry : ∀ w, (Valid false false e.data.toList ∧ e.size ≤ 200) → Calls Tryd.prog 46 #[.string e, .int .u8 101] w fun e w' => ∃ xc ya yn ym, e = .returned (.tuple #[.agg #[.int .u8 xc, .slice ya yn ym], .bool true]) ∧ Below w.heap.size w w' := by
    rintro w ⟨⟨t, ht, he⟩, hl⟩
    exact (read_yes false e w ht he hl).mono fun _ _ ⟨xc, ya, yn, ym, h1, _, h3⟩ => ⟨xc, ya, yn, ym, h1, h3⟩
  have rn : ∀ w, ¬ (Valid false false e.data.toList ∧ e.size ≤ 200) → Calls Tryd.prog 46 #[.string e, .int .u8 101] w fun e w' => ∃ xc ya yn ym, e = .returned (.tuple #[.agg #[.int .u8 xc, .slice ya yn ym], .bool false]) ∧ Below w.heap.size w w' := by
    intro w h
    exact (read_no false e w h).mono fun _ _ ⟨h1, h3⟩ => ⟨0, none, 0, 0, h1, h3⟩
  by_cases he : Valid false false e.data.toList ∧ e.size ≤ 200
  · by_cases hp : Set27 p
    · exact implReadA_var p v e w _ (fun hv => h ⟨hp, hv, he⟩) hm (fun w => implRead_yes p w hp) (fun w => ry w he)
    · exact implReadA_bad p v e w 0 false true rfl (fun w => implRead_no p w hp) (fun w => ry w he)
  · by_cases hp : Set27 p
    · exact implReadA_bad p v e w _ true false rfl (fun w => implRead_yes p w hp) (fun w => rn w he)
    · exact implReadA_bad p v e w 0 false false rfl (fun w => implRead_no p w hp) (fun w => rn w he)
end Go.Proofs.YtknjoadicdijdaaDoor

namespace Go.Proofs.YtknjoadicdijdaaDoor
open Go.RowKit Tm

set_option maxHeartbeats 1000000 in
theorem implPredOf_yes (s : ByteArray) (w : World) {t : Tm} (ht : Ok false true t) (he : s.data.toList = t.ser) (hl : s.size ≤ 200) :
    Calls Tryd.prog 65 #[.string s] w fun e w' => e = .returned (.tuple #[.string (bs (tb (tst t))), .bool true]) ∧ Below w.heap.size w w' := by
  have HC := fun w => Lib.hid (read_yes true s w ht he hl)
  have HX := fun w => Lib.hid (implText (tst t) w)
  clear he
  go_enter Tryd.func65, Tryd.ntmps65
  go_wp2_with fail
  refine (HC _).out.mono ?_
  rintro e w1 ⟨xc, ya, yn, ym, rfl, hr, hb⟩
  have HB := Lib.hid (bput hb (.cells #[.int .u8 xc, .slice ya yn ym] 58))
  have HR := Lib.hid (hr.below ((Below.refl _ w1).alloc (Nat.le_refl _) (.cells #[.int .u8 xc, .slice ya yn ym] 58)))
  clear hb hr
  go_wp2_with fail
  refine (implStates t w.heap.size xc ya yn ym _ ht HR.out).mono ?_
  rintro e w2 ⟨rfl, hb⟩
  have HB2 := Lib.hid (bnext HB.out hb)
  clear hb
  go_wp2_with fail
  refine (HX _).out.mono ?_
  rintro e w3 ⟨rfl, hb⟩
  have HB3 := Lib.hid (bnext HB2.out hb)
  clear hb
  go_wp2_with fail
  go_ret2
  exact ⟨rfl, HB3.out⟩

set_option maxHeartbeats 1000000 in
theorem implPredOf_no (s : ByteArray) (w : World) (h : ¬ (Valid false true s.data.toList ∧ s.size ≤ 200)) :
    Calls Tryd.prog 65 #[.string s] w fun e w' => e = .returned (.tuple #[.string (bs []), .bool false]) ∧ Below w.heap.size w w' := by
  have HC := fun w => Lib.hid (read_no true s w h)
  clear h
  go_enter Tryd.func65, Tryd.ntmps65
  go_wp2_with fail
  refine (HC _).out.mono ?_
  rintro e w1 ⟨rfl, hb⟩
  have HB := Lib.hid (bput hb (.cells #[.int .u8 0, .slice none 0 0] 58))
  clear hb
  go_wp2_with fail
  go_ret2
  exact ⟨rfl, HB.out⟩

end Go.Proofs.YtknjoadicdijdaaDoor

namespace Go.Proofs.YtknjoadicdijdaaDoor
open Go.RowKit

set_option maxHeartbeats 1000000 in
theorem ppSet_of (p q : ByteArray) (b : Bool) (C : ∀ w, Hid (Calls Tryd.prog 65 #[.string p] w fun e w' => e = .returned (.tuple #[.string q, .bool b]) ∧ Below w.heap.size w w')) (w : World) :
    Calls Tryd.prog 31 #[.string p] w fun e w' => e = .returned (.string q) ∧ Below w.heap.size w w' := by
  go_enter Tryd.func31, Tryd.ntmps31
  go_wp2_with fail
  refine (C _).out.mono ?_
  rintro e w1 ⟨rfl, hb⟩
  have HB := Lib.hid hb
  clear hb
  go_wp2_with fail
  go_ret
  exact ⟨rfl, HB.out⟩
end Go.Proofs.YtknjoadicdijdaaDoor
