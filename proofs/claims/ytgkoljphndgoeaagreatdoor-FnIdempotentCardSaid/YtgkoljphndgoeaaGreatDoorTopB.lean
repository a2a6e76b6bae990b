import Derived.Test.YtgkoljphndgoeaaGreatDoorBase
import Derived.Laws.Rows
import Derived.Laws.MakeOwn
import Derived.Laws.Cells
import Derived.Laws.BytesString
import Derived.Laws.BitsAllLaws
import Derived.Test.YtgkoljphndgoeaaGreatDoorProg
import Derived.WalkKit
import Derived.WalkSpells
import Derived.WalkLawsBesides
import Derived.Lib.Hide
namespace Go.Proofs.YtgkoljphndgoeaaGreatDoor
open Go.RowKit
def bs (l : List UInt8) : ByteArray := ⟨l.toArray⟩
theorem bs_append (a b : List UInt8) : bs a ++ bs b = bs (a ++ b) := by
 apply ByteArray.ext; simp [bs]
theorem bs_size (l : List UInt8) : (bs l).size = l.length := by simp [bs, ByteArray.size]
theorem extract_one (s : ByteArray) (a : Nat) (h : a < s.size) : s.extract a (a + 1) = bs [s[a]] := by
 apply ByteArray.ext
 have h2 : a < s.data.size := h
 apply Array.ext'
 simp only [ByteArray.data_extract, bs, Array.toList_extract]
 rw [List.extract_eq_take_drop]
 have : s.data.toList.drop a = s[a] :: s.data.toList.drop (a + 1) := by rw [List.drop_eq_getElem_cons (by simpa using h2)]; rfl
 simp [this]
theorem bytes_eq (a b : ByteArray) : (a.toList == b.toList) = decide (a = b) := by
 rw [Bool.eq_iff_iff, beq_iff_eq, decide_eq_true_eq, ByteArray.toList_eq, ByteArray.toList_eq]
 exact ⟨fun h => ByteArray.ext (Array.toList_inj.1 h), fun h => by rw [h]⟩
theorem bytes_t {a b : ByteArray} (h : (a.toList == b.toList) = true) : a = b := by rw [bytes_eq] at h; simpa using h
theorem bytes_f {a b : ByteArray} (h : (a.toList == b.toList) = false) : a ≠ b := by rw [bytes_eq] at h; simpa using h
def Blk (w : World) (b : Nat) (cs : Array Value) (t : TypeId) : Prop := w.heap[b]? = some (.cells cs t (0, 0))
theorem Blk.lt {w : World} {b : Nat} {cs : Array Value} {t : TypeId} (h : Blk w b cs t) : b < w.heap.size := (Array.getElem?_eq_some_iff.1 h).1
theorem Blk.new (w : World) (cs : Array Value) (t : TypeId) : Blk (w.alloc (.cells cs t)) w.heap.size cs t := by
 show (w.heap.push _)[w.heap.size]? = _
 simp
theorem Blk.keep {w w' : World} {b B : Nat} {cs : Array Value} {t : TypeId} (h : Blk w b cs t) (hb : Below B w w') (hB : b < B) : Blk w' b cs t := (hb.block b hB).trans h
theorem Blk.kept {w w' : World} {b : Nat} {cs : Array Value} {t : TypeId} (h : Blk w b cs t) (hb : Below w.heap.size w w') : Blk w' b cs t := h.keep hb h.lt
theorem Blk.alloc {w : World} {b : Nat} {cs : Array Value} {t : TypeId} (h : Blk w b cs t) (o : Obj) : Blk (w.alloc o) b cs t := h.kept ((Below.refl _ _).alloc (Nat.le_refl _) o)
theorem Blk.drew {w : World} {b : Nat} {cs : Array Value} {t : TypeId} (h : Blk w b cs t) : Blk w.drew b cs t := h.kept (Below.refl _ _).drew
theorem Blk.cell {w : World} {b : Nat} {cs : Array Value} {t : TypeId} (h : Blk w b cs t) (i : Nat) : w.cell? ⟨b, i, none⟩ = cs[i]? := cell_of_row w b i cs _ (0, 0) h
theorem Blk.free {w : World} {b : Nat} {cs : Array Value} {t : TypeId} (h : Blk w b cs t) (i : Nat) : w.frozen? ⟨b, i, none⟩ = false := by unfold Blk at h; simp [World.frozen?, h]
theorem Blk.c1 {w : World} {b : Nat} {x : Value} {t : TypeId} (h : Blk w b #[x] t) : w.cell? ⟨b, 0, none⟩ = some x := h.cell 0
theorem Blk.c3 {w : World} {b : Nat} {x y z : Value} {t : TypeId} (h : Blk w b #[x, y, z] t) : w.cell? ⟨b, 0, none⟩ = some x ∧ w.cell? ⟨b, 1, none⟩ = some y ∧ w.cell? ⟨b, 2, none⟩ = some z := ⟨h.cell 0, h.cell 1, h.cell 2⟩
theorem Blk.f3 {w : World} {b : Nat} {x y z : Value} {t : TypeId} (h : Blk w b #[x, y, z] t) : w.frozen? ⟨b, 0, none⟩ = false ∧ w.frozen? ⟨b, 1, none⟩ = false ∧ w.frozen? ⟨b, 2, none⟩ = false := ⟨h.free 0, h.free 1, h.free 2⟩
theorem Blk.a3 {w : World} {b : Nat} {x y z : Value} {t : TypeId} (h : Blk w b #[x, y, z] t) : w.cell? ⟨b, 0, none⟩ = some x ∧ w.cell? ⟨b, 1, none⟩ = some y ∧ w.cell? ⟨b, 2, none⟩ = some z ∧ w.frozen? ⟨b, 0, none⟩ = false ∧ w.frozen? ⟨b, 1, none⟩ = false ∧ w.frozen? ⟨b, 2, none⟩ = false := ⟨h.cell 0, h.cell 1, h.cell 2, h.free 0, h.free 1, h.free 2⟩
theorem Blk.set {w : World} {b : Nat} {cs : Array Value} {t : TypeId} (h : Blk w b cs t) (i : Nat) (v : Value) : Blk (w.setCell ⟨b, i, none⟩ v) b (cs.setIfInBounds i v) t := by
 unfold Blk at h ⊢
 have hlt := (Array.getElem?_eq_some_iff.1 h).1
 have h' := (Array.getElem?_eq_some_iff.1 h).2
 show (w.heap.modify b _)[b]? = _
 rw [Array.getElem?_eq_getElem (by simpa using hlt), Array.getElem_modify_self, h']
 rfl
theorem Blk.setOther {w : World} {b : Nat} {cs : Array Value} {t : TypeId} (h : Blk w b cs t) {p : Addr} (hp : b ≠ p.block) (v : Value) : Blk (w.setCell p v) b cs t := by
 unfold Blk at h ⊢
 rw [Below.heap_setCell _ _ _ _ hp]; exact h
theorem bdrewN {B : Nat} {a w : World} (h : Below B a w) (n : Nat) : Below B a (w.drewN n) := h.trans ⟨rfl, rfl, rfl, Nat.le_refl _, fun _ _ => rfl⟩
theorem ckeep {w w' : World} {b o : Nat} {v : Value} (hb : Below w.heap.size w w') (h : w.cell? ⟨b, o, none⟩ = some v) : w'.cell? ⟨b, o, none⟩ = some v := (hb.cell (p := ⟨b, o, none⟩) (World.block_lt_of_cell? w ⟨b, o, none⟩ h)).trans h
theorem bbox {w w1 : World} {o : Obj} (hb : Below (w.alloc o).heap.size (w.alloc o) w1) : Below w.heap.size w w1 := ((Below.refl _ _).alloc (Nat.le_refl _) o).trans (hb.mono (by simp))
theorem bmore {B : Nat} {w w1 w2 : World} (h : Below B w w1) (hB : B ≤ w1.heap.size) (hb : Below w1.heap.size w1 w2) : Below B w w2 := h.trans (hb.mono hB)
theorem bnext {w w1 w2 : World} (h : Below w.heap.size w w1) (hb : Below w1.heap.size w1 w2) : Below w.heap.size w w2 := h.trans (hb.mono h.size)
theorem bput {w w1 : World} (h : Below w.heap.size w w1) (o : Obj) : Below w.heap.size w (w1.alloc o) := h.alloc h.size o
end Go.Proofs.YtgkoljphndgoeaaGreatDoor
namespace Go.Proofs.YtgkoljphndgoeaaGreatDoor
def hs (l : List UInt8) (i : Nat) : Bool := l[i]? == some 49
def bitc (b : Bool) : UInt8 := if b then 49 else 48
def tbn (n : Nat) (F : Nat → Bool) : List UInt8 := (List.range n).map fun i => bitc (F i)
def tb (F : Nat → Bool) : List UInt8 := tbn 27 F
def nb : Nat → (Nat → Bool) → Nat
 | 0, _ => 0
 | k + 1, F => nb k F + (if F k then 2 ^ k else 0)
def Bits (n : Nat) (l : List UInt8) : Prop := l.length = n ∧ ∀ i (h : i < l.length), l[i] = 48 ∨ l[i] = 49
theorem nb_lt (k : Nat) (F : Nat → Bool) : nb k F < 2 ^ k := by
 induction k with
 | zero => simp [nb]
 | succ k ih =>
  unfold nb
  rw [Nat.pow_succ]
  split <;> omega
theorem nb_lt27 (F : Nat → Bool) : nb 27 F < 134217728 := nb_lt 27 F
theorem nb_bit (k : Nat) (F : Nat → Bool) (i : Nat) : (nb k F).testBit i = (decide (i < k) && F i) := by
 induction k with
 | zero => simp [nb]
 | succ k ih =>
  unfold nb
  have hk := nb_lt k F
  have e : nb k F + (if F k then 2 ^ k else 0) = nb k F ||| (if F k then 2 ^ k else 0) := by
   cases F k
   ·simp
   ·simp only [if_true]
    have h := Nat.two_pow_add_eq_or_of_lt hk 1
    rw [Nat.mul_one] at h
    rw [Nat.add_comm, h, Nat.or_comm]
  rw [e, Nat.testBit_or, ih]
  by_cases h1 : i < k
  ·cases F k
   ·have h3 : i < k + 1 := by omega
    simp [h1, h3]
   ·have h3 : i < k + 1 := by omega
    have h4 : ¬ k = i := by omega
    simp [h1, h3, h4]
  ·by_cases h2 : i = k
   ·subst h2
    cases F i <;> simp
   ·have h3 : ¬ i < k + 1 := by omega
    have h4 : ¬ k = i := by omega
    cases F k
    ·simp [h1, h3]
    ·simp [h1, h3, h4]
theorem nb_congr {k : Nat} {F G : Nat → Bool} (h : ∀ i, i < k → F i = G i) : nb k F = nb k G := by
 induction k with
 | zero => rfl
 | succ k ih => unfold nb; rw [ih (fun i hi => h i (by omega)), h k (by omega)]
theorem nb_inj {k : Nat} {F G : Nat → Bool} (h : nb k F = nb k G) (i : Nat) (hi : i < k) : F i = G i := by
 have h1 := nb_bit k F i
 have h2 := nb_bit k G i
 rw [h] at h1
 rw [h1] at h2
 simpa [hi] using h2
theorem nb_of_bits {k n : Nat} {F : Nat → Bool} (hn : n < 2 ^ k) (h : ∀ i, i < k → n.testBit i = F i) : n = nb k F := by
 apply Nat.eq_of_testBit_eq
 intro i
 rw [nb_bit]
 by_cases hi : i < k
 ·simp [hi, h i hi]
 ·simp [hi]
  exact Nat.testBit_lt_two_pow (Nat.lt_of_lt_of_le hn (Nat.pow_le_pow_right (by omega) (by omega)))
theorem nb_or (k : Nat) (F : Nat → Bool) (j : Nat) (hj : j < k) : nb k F ||| 2 ^ j = nb k (fun i => F i || i == j) := by
 apply nb_of_bits
 ·exact Nat.or_lt_two_pow (nb_lt k F) (Nat.pow_lt_pow_right (by omega) hj)
 ·intro i hi
  rw [Nat.testBit_or, nb_bit, Nat.testBit_two_pow]
  simp [hi]
  rw [show decide (j = i) = (i == j) by rw [Bool.eq_iff_iff, beq_iff_eq, decide_eq_true_eq]; exact eq_comm]
theorem nb_and (k : Nat) (F G : Nat → Bool) : nb k F &&& nb k G = nb k (fun i => F i && G i) := by
 apply nb_of_bits
 ·exact Nat.and_lt_two_pow _ (nb_lt k G)
 ·intro i hi; rw [Nat.testBit_and, nb_bit, nb_bit]; simp [hi]
theorem nb_or2 (k : Nat) (F G : Nat → Bool) : nb k F ||| nb k G = nb k (fun i => F i || G i) := by
 apply nb_of_bits
 ·exact Nat.or_lt_two_pow (nb_lt k F) (nb_lt k G)
 ·intro i hi; rw [Nat.testBit_or, nb_bit, nb_bit]; simp [hi]
theorem nb_zero (k : Nat) {F : Nat → Bool} (h : ∀ i, i < k → F i = false) : nb k F = 0 := by
 rw [nb_congr (G := fun _ => false) h]
 induction k with
 | zero => rfl
 | succ k ih => simp [nb]; exact ih (fun i hi => h i (by omega))
theorem tbn_length (n : Nat) (F : Nat → Bool) : (tbn n F).length = n := by simp [tbn]
theorem tbn_get (n : Nat) (F : Nat → Bool) (i : Nat) (h : i < n) : (tbn n F)[i]? = some (bitc (F i)) := by simp [tbn, h]
theorem tbn_congr {n : Nat} {F G : Nat → Bool} (h : ∀ i, i < n → F i = G i) : tbn n F = tbn n G := by
 unfold tbn
 apply List.map_congr_left
 intro i hi
 rw [h i (by simpa using hi)]
theorem tb_congr {F G : Nat → Bool} (h : ∀ i, i < 27 → F i = G i) : tb F = tb G := tbn_congr h
theorem tbn_inj {n : Nat} {F G : Nat → Bool} (h : tbn n F = tbn n G) (i : Nat) (hi : i < n) : F i = G i := by
 have h1 := tbn_get n F i hi
 rw [h, tbn_get n G i hi] at h1
 cases hF : F i <;> cases hG : G i <;> simp [hF, hG, bitc] at h1 ⊢
theorem hs_tbn (n : Nat) (F : Nat → Bool) (i : Nat) : hs (tbn n F) i = (decide (i < n) && F i) := by
 unfold hs
 by_cases h : i < n
 ·rw [tbn_get n F i h]; cases F i <;> simp [bitc, h]
 ·rw [List.getElem?_eq_none (by rw [tbn_length]; omega)]; simp [h]
theorem bits_tbn (n : Nat) (F : Nat → Bool) : Bits n (tbn n F) := by
 refine ⟨tbn_length n F, fun i h => ?_⟩
 have h1 := tbn_get n F i (by rwa [tbn_length] at h)
 rw [List.getElem?_eq_getElem h] at h1
 injection h1 with h1
 rw [h1]; unfold bitc; split <;> simp
theorem tbn_hs {n : Nat} {l : List UInt8} (h : Bits n l) : tbn n (hs l) = l := by
 apply List.ext_getElem?
 intro i
 by_cases hi : i < n
 ·rw [tbn_get n _ i hi]
  have hl : i < l.length := by rw [h.1]; exact hi
  rw [List.getElem?_eq_getElem hl]
  unfold hs bitc
  rw [List.getElem?_eq_getElem hl]
  rcases h.2 i hl with e | e <;> rw [e] <;> rfl
 ·rw [List.getElem?_eq_none (by rw [tbn_length]; omega), List.getElem?_eq_none (by rw [h.1]; omega)]
theorem hs_cases {n : Nat} {l : List UInt8} (h : Bits n l) {i : Nat} (hi : i < l.length) : l[i] = bitc (hs l i) := by
 unfold hs bitc
 rw [List.getElem?_eq_getElem hi]
 rcases h.2 i hi with e | e <;> rw [e] <;> rfl
theorem tbn_succ (n : Nat) (F : Nat → Bool) : tbn (n + 1) F = tbn n F ++ [bitc (F n)] := by
 simp [tbn, List.range_succ]
def zs (n : Nat) : List UInt8 := List.replicate n 0
def part (n k : Nat) (F : Nat → Bool) : List UInt8 := tbn k F ++ List.replicate (n - k) 0
theorem part_all (n : Nat) (F : Nat → Bool) : part n n F = tbn n F := by simp [part]
theorem part_step (n k : Nat) (F : Nat → Bool) (h : k < n) : (part n k F).set k (bitc (F k)) = part n (k + 1) F := by
 unfold part
 rw [List.set_append_right _ _ (by rw [tbn_length]; omega), tbn_length, Nat.sub_self, tbn_succ]
 obtain ⟨m, hm⟩ : ∃ m, n - k = m + 1 := ⟨n - k - 1, by omega⟩
 rw [hm, show n - (k + 1) = m by omega, List.replicate_succ]
 simp
theorem part_len (n k : Nat) (F : Nat → Bool) (h : k ≤ n) : (part n k F).length = n := by simp [part, tbn_length]; omega
end Go.Proofs.YtgkoljphndgoeaaGreatDoor
namespace Go.Proofs.YtgkoljphndgoeaaGreatDoor
open Go.RowKit
def bv (c : UInt8) : Value := .int .u8 c.toNat
def u8s (l : List UInt8) : Array Value := (l.map bv).toArray
def BBlk (w : World) (b : Nat) (l : List UInt8) : Prop := Blk w b (u8s l) 5
theorem BBlk.get {w : World} {b : Nat} {l : List UInt8} (h : BBlk w b l) (i : Nat) (hi : i < l.length) : w.cell? ⟨b, i, none⟩ = some (.int .u8 (l[i].toNat : Int)) := by
 rw [Blk.cell h i]; simp [u8s, bv, hi]
theorem BBlk.free {w : World} {b : Nat} {l : List UInt8} (h : BBlk w b l) (i : Nat) : w.frozen? ⟨b, i, none⟩ = false := Blk.free h i
theorem BBlk.set {w : World} {b : Nat} {l : List UInt8} (h : BBlk w b l) (i : Nat) (c : UInt8) : BBlk (w.setCell ⟨b, i, none⟩ (.int .u8 c.toNat)) b (l.set i c) := by
 have := Blk.set h i (.int .u8 c.toNat)
 unfold BBlk
 rw [show u8s (l.set i c) = (u8s l).setIfInBounds i (.int .u8 c.toNat) by unfold u8s; simp [bv, List.map_set]]
 exact this
theorem BBlk.some {w : World} {b : Nat} {l : List UInt8} (h : BBlk w b l) (i : Nat) (hi : i < l.length) : ∃ v, w.cell? ⟨b, i, none⟩ = Option.some (.int .u8 v) := ⟨_, h.get i hi⟩
theorem BBlk.set2 {w : World} {b : Nat} {l : List UInt8} (h : BBlk w b l) (i : Nat) (c d : UInt8) : BBlk ((w.setCell ⟨b, i, none⟩ (.int .u8 c.toNat)).setCell ⟨b, i, none⟩ (.int .u8 d.toNat)) b (l.set i d) := by
 have := (h.set i c).set i d
 rwa [List.set_set] at this
theorem u8info : (Tryz.prog.info? 5).map (fun i => (i.zero, i.size, i.bytes)) = some (some (.int .u8 0), 1, 1) := by kernel_rfl
theorem mkBytes (n : Nat) (hn : n ≤ 1000000) (w : World) : (Instr.makeSlice 22 (.int .i64 n) (.int .i64 n)).run Tryz.prog w = .ok (.slice (some ⟨w.heap.size, 0, none⟩) n n) (w.alloc (.cells (u8s (zs n)) 5)) := by
 obtain ⟨i0, hi, hz0, hz1, hz2⟩ := info_parts u8info
 have h := run_make (P := Tryz.prog) w 22 5 i0 (.int .u8 0) Tryz.underlying22 hi hz0 .i64 .i64 n n (by omega) (by omega) (by rw [hz2]; omega) (by omega)
 rw [h, hz1]
 have e : madeCells (Value.int .u8 0).cells ((n : Int).toNat * 1) = u8s (zs n) := by
  rw [Int.toNat_natCast, Nat.mul_one]
  apply Array.ext
  ·simp [madeCells, u8s, zs]
  ·intro i h1 h2
   simp [madeCells, u8s, zs, bv, Value.cells, Nat.mod_one]
 rw [e, Int.toNat_natCast]
theorem BBlk.made (n : Nat) (w : World) : BBlk (w.alloc (.cells (u8s (zs n)) 5)) w.heap.size (zs n) := Blk.new w _ _
theorem fold_push (ns : List UInt8) (s : ByteArray) : (ns.map (fun c : UInt8 => (c.toNat : Int))).foldl (fun r n => r.push (UInt8.ofNat n.toNat)) s = s ++ bs ns := by
 induction ns generalizing s with
 | nil => simp [bs]; apply ByteArray.ext; simp
 | cons c ns ih =>
  rw [List.map_cons, List.foldl_cons, ih]
  apply ByteArray.ext
  simp [bs]
theorem toStr {w : World} {b : Nat} {l : List UInt8} (h : BBlk w b l) (n c : Nat) (hn : n = l.length) : (convert 22 9 (.slice (some ⟨b, 0, none⟩) n c)).run Tryz.prog w = .ok (.string (bs l)) w := by
 subst hn
 rw [run_convert_bytes_string _ _ _ 5 _ _ _ Tryz.underlying22 Tryz.underlying5 Tryz.underlying9]
 rw [run_bytesToString _ _ l.length c (l.map (fun c : UInt8 => (c.toNat : Int)))]
 ·rw [fold_push]
  congr 2
 ·have h2 := run_loadCells_list (w := w) (P := Tryz.prog) ⟨b, 0, none⟩ (l.map bv) (fun j v hj => by
   rw [List.getElem?_map] at hj
   have hlt : j < l.length := by
    rcases Nat.lt_or_ge j l.length with h | h
    ·exact h
    ·rw [List.getElem?_eq_none h] at hj; cases hj
   rw [List.getElem?_eq_getElem hlt] at hj
   simp at hj
   subst hj
   have e : (⟨b, 0, none⟩ : Addr).add j = ⟨b, j, none⟩ := by
    by_cases h0 : j = 0 <;> simp [Addr.add, h0]
   rw [e]
   exact h.get j hlt)
  simp at h2
  rw [h2]
  simp [bv, List.map_map, Function.comp_def]
theorem byte_int' {c d : UInt8} (h : c ≠ d) : ((c.toNat : Int) == (d.toNat : Int)) = false := by
 rw [beq_eq_false_iff_ne]; intro e
 exact h (UInt8.toNat_inj.1 (by omega))
theorem byte_nb {c d : UInt8} (h : c ≠ d) : ((c.toNat : Int) != (d.toNat : Int)) = true := by rw [bne, byte_int' h]; rfl
theorem hs_int (s : ByteArray) (k : Nat) (hk : k < s.size) : hs s.data.toList k = ((s[k].toNat : Int) == 49) := by
 unfold hs
 rw [List.getElem?_eq_getElem (by simpa using hk)]
 show (some s[k] == some 49) = _
 rw [Bool.eq_iff_iff, beq_iff_eq, beq_iff_eq]
 constructor
 ·intro h; injection h with h; rw [h]; rfl
 ·intro h
  have e : (49 : UInt8).toNat = 49 := rfl
  rw [show s[k] = 49 from UInt8.toNat_inj.1 (by omega)]
set_option maxHeartbeats 2000000 in
theorem specBits_yes (s : ByteArray) (n : Nat) (w : World) (hv : Bits n s.data.toList) (hn : n ≤ 1000000) : Calls Tryz.prog 206 #[.string s, .int .i64 n] w fun e w' => e = .returned (.bool true) ∧ w = w' := by
 have hs : s.size = n := by have := hv.1; simpa using this
 have HV := Lib.hid hv
 clear hv
 go_enter Tryz.func206, Tryz.ntmps206
 go_wp2_with fail
 go_loop [5] (fun i => ∃ k : Nat, k ≤ n ∧ i = .int .i64 k) (fun i => n - (intOf i).toNat)
 case atStart => exact ⟨0, by omega, rfl⟩
 case round =>
  obtain ⟨k, hk, rfl⟩ := hrel
  by_cases hlt : k < n
  ·have hk2 : k < s.size := by omega
   have hd : s[k] = 48 ∨ s[k] = 49 := HV.out.2 k (by simpa using hk2)
   rcases hd with hc | hc
   ·have b0 : (s[k].toNat : Int) = 48 := by rw [hc]; rfl
    clear hc
    go_wp2_with fail
    exact ⟨⟨k + 1, by omega, by go_num⟩, by simp [intOf]; omega⟩
   ·have b0 : (s[k].toNat : Int) = 49 := by rw [hc]; rfl
    clear hc
    go_wp2_with fail
    exact ⟨⟨k + 1, by omega, by go_num⟩, by simp [intOf]; omega⟩
  ·have hk2 : k = n := by omega
   subst hk2
   go_wp2_with fail
   go_ret
   exact ⟨rfl, rfl⟩
set_option maxHeartbeats 2000000 in
theorem specBit (b : Bool) (w : World) : Calls Tryz.prog 216 #[.bool b] w fun e w' => e = .returned (.int .u8 (bitc b).toNat) ∧ w = w' := by
 cases b
 all_goals
  go_enter Tryz.func216, Tryz.ntmps216
  go_wp2_with fail
  go_ret
  exact ⟨rfl, rfl⟩
set_option maxHeartbeats 2000000 in
theorem specBits_no (s : ByteArray) (n : Nat) (w : World) (hv : ¬ Bits n s.data.toList) (hm : s.size ≤ maxLen) (_hn : n ≤ 1000000) : Calls Tryz.prog 206 #[.string s, .int .i64 n] w fun e w' => e = .returned (.bool false) ∧ w = w' := by
 unfold maxLen at hm
 have HV := Lib.hid hv
 clear hv
 go_enter Tryz.func206, Tryz.ntmps206
 go_wp2_with fail
 go_loop [5] (fun i => ∃ k : Nat, k ≤ s.size ∧ i = .int .i64 k ∧ ∀ j (hj : j < s.size), j < k → s[j] = 48 ∨ s[j] = 49) (fun i => s.size - (intOf i).toNat)
 case atStart => exact ⟨0, by omega, rfl, fun j _ hj => by omega⟩
 case round =>
  obtain ⟨k, hk, rfl, hok⟩ := hrel
  have HO := Lib.hid hok
  clear hok
  by_cases hk2 : k < s.size
  ·by_cases hd : s[k] = 48 ∨ s[k] = 49
   ·have N : Hid (∀ j (hj : j < s.size), j < k + 1 → s[j] = 48 ∨ s[j] = 49) := fun j hj h => by
     rcases Nat.lt_succ_iff_lt_or_eq.1 h with h | h
     ·exact HO.out j hj h
     ·subst h; exact hd
    rcases hd with hc | hc
    ·have b0 : (s[k].toNat : Int) = 48 := by rw [hc]; rfl
     clear hc
     go_wp2_with fail
     exact ⟨⟨k + 1, by omega, by go_num, N.out⟩, by simp [intOf]; omega⟩
    ·have b0 : (s[k].toNat : Int) = 49 := by rw [hc]; rfl
     clear hc
     go_wp2_with fail
     exact ⟨⟨k + 1, by omega, by go_num, N.out⟩, by simp [intOf]; omega⟩
   ·have n0 : ((s[k].toNat : Int) != 48) = true := byte_nb (d := 48) fun h => hd (.inl h)
    have n1 : ((s[k].toNat : Int) != 49) = true := byte_nb (d := 49) fun h => hd (.inr h)
    clear hd
    go_wp2_with fail
    go_ret
    exact ⟨rfl, rfl⟩
  ·have hk3 : k = s.size := by omega
   have hne : ((s.size : Int) == (n : Int)) = false := by
    rw [beq_eq_false_iff_ne]; intro e
    refine HV.out ⟨by simpa using (by omega : s.size = n), fun j hj => ?_⟩
    have hj2 : j < s.size := by simpa using hj
    exact HO.out j hj2 (by omega)
   subst hk3
   go_wp2_with fail
   go_ret
   exact ⟨rfl, rfl⟩
set_option maxHeartbeats 2000000 in
theorem specAnd0 (p q : ByteArray) (n : Nat) (w : World) (hp : p.size = n) (hq : q.size = n) (hn : n ≤ 1000000) : Calls Tryz.prog 195 #[.string p, .string q] w fun e w' => e = .returned (.string (bs (tbn n (fun i => hs p.data.toList i && hs q.data.toList i)))) ∧ Below w.heap.size w w' := by
 have hmk := mkBytes n hn
 go_enter Tryz.func195, Tryz.ntmps195
 go_wp2_with fail
 have t0 := BBlk.made n w
 have hB := (Below.refl _ w).alloc (Nat.le_refl _) (.cells (u8s (zs n)) 5)
 have HT0 := Lib.hid t0
 have HB0 := Lib.hid hB
 clear t0 hB
 generalize w.alloc (.cells (u8s (zs n)) 5) = w0 at *
 go_loopw [6] (fun i wr => ∃ k : Nat, k ≤ n ∧ i = .int .i64 k ∧ BBlk wr w.heap.size (part n k (fun i => hs p.data.toList i && hs q.data.toList i)) ∧ Below w.heap.size w wr) (fun i _ => n - (intOf i).toNat)
 case atStart => exact ⟨0, by omega, rfl, HT0.out, HB0.out⟩
 case round =>
  clear HT0 HB0
  obtain ⟨k, hk, rfl, ht, hb⟩ := hrel
  by_cases hlt : k < n
  ·have hl := part_len n k (fun i => hs p.data.toList i && hs q.data.toList i) (by omega)
   obtain ⟨old, hc⟩ := ht.some k (by omega)
   have hf := ht.free k
   have HT := Lib.hid ht
   have HB := Lib.hid hb
   have HS := Lib.hid (part_step n k (fun i => hs p.data.toList i && hs q.data.toList i) hlt)
   clear ht hb hl
   have hkp : k < p.size := by omega
   have hkq : k < q.size := by omega
   have hgp := Lib.hid (hs_int p k hkp)
   have hgq := Lib.hid (hs_int q k hkq)
   cases hp1 : ((p[k].toNat : Int) == 49) <;> cases hq1 : ((q[k].toNat : Int) == 49)
   all_goals
    have HS2 := HS.out
    rw [hgp.out, hgq.out, hp1, hq1] at HS2
    replace HS2 := Lib.hid HS2
    go_wp2_with fail
    refine (specBit _ _).mono ?_
    rintro e w' ⟨rfl, rfl⟩
    go_wp2_with fail
    refine ⟨⟨k + 1, by omega, by go_num, ?_, HB.out.setCell (p := ⟨w.heap.size, k, none⟩) (Nat.le_refl _) _⟩, by simp [intOf]; omega⟩
    rw [← HS2.out]
    exact HT.out.set k _
  ·have hk2 : k = n := by omega
   subst hk2
   have HB := Lib.hid hb
   have hv := toStr ht k k (part_len k k _ (by omega)).symm
   rw [part_all] at hv
   clear ht hb hlt
   go_wp2_with fail
   go_ret
   exact ⟨rfl, HB.out⟩
def Set27 (s : ByteArray) : Prop := Bits 27 s.data.toList
theorem bit_has (n i : Nat) (hn : n < 134217728) : (bits .and .u32 ((n : Int) / 2 ^ i) 1 == 1) = n.testBit i := by
 have e : ((n : Int) / 2 ^ i) = ((n / 2 ^ i : Nat) : Int) := by simp
 have h1 : n / 2 ^ i ≤ n := Nat.div_le_self _ _
 rw [e, show (1 : Int) = ((1 : Nat) : Int) from rfl, u32_and_nat _ 1 (by omega) (by omega), nat_mask1, Nat.testBit_eq_decide_div_mod_eq, Bool.eq_iff_iff, beq_iff_eq, decide_eq_true_eq]
 omega
theorem bit_with (n i : Nat) (hn : n < 134217728) (hi : i < 27) : bits .or .u32 (n : Int) (2 ^ i % 4294967296) = ((n ||| 2 ^ i : Nat) : Int) := by
 have h1 : 2 ^ i < 2 ^ 27 := Nat.pow_lt_pow_right (by omega) hi
 have e : (2 : Int) ^ i % 4294967296 = ((2 ^ i : Nat) : Int) := by
  rw [Int.emod_eq_of_lt]
  ·simp
  ·exact Int.pow_nonneg (by omega)
  ·have : ((2 ^ i : Nat) : Int) < 4294967296 := by omega
   simpa using this
 rw [e, u32_or_nat _ _ (by omega) (by omega)]
set_option maxHeartbeats 1000000 in
theorem implHas (n i : Nat) (w : World) (hn : n < 134217728) (_hi : i < 27) : Calls Tryz.prog 171 #[.int .u32 n, .int .i64 i] w fun e w' => e = .returned (.bool (n.testBit i)) ∧ w = w' := by
 have H := Lib.hid (bit_has n i hn)
 go_enter Tryz.func171, Tryz.ntmps171
 go_wp2_with fail
 go_ret
 exact ⟨by rw [← H.out]; rfl, rfl⟩
set_option maxHeartbeats 1000000 in
theorem implWith (n i : Nat) (w : World) (hn : n < 134217728) (hi : i < 27) : Calls Tryz.prog 141 #[.int .u32 n, .int .i64 i] w fun e w' => e = .returned (.int .u32 ((n ||| 2 ^ i : Nat) : Int)) ∧ w = w' := by
 have H := Lib.hid (bit_with n i hn hi)
 go_enter Tryz.func141, Tryz.ntmps141
 go_wp2_with fail
 go_ret
 exact ⟨by rw [← H.out]; rfl, rfl⟩
theorem implWithB (F : Nat → Bool) (i : Nat) (w : World) (hi : i < 27) : Calls Tryz.prog 141 #[.int .u32 (nb 27 F), .int .i64 i] w fun e w' => e = .returned (.int .u32 (nb 27 (fun j => F j || j == i) : Nat)) ∧ w = w' := by
 have h := implWith (nb 27 F) i w (nb_lt27 F) hi
 rw [nb_or 27 F i hi] at h
 exact h
theorem implHasB (F : Nat → Bool) (i : Nat) (w : World) (hi : i < 27) : Calls Tryz.prog 171 #[.int .u32 (nb 27 F), .int .i64 i] w fun e w' => e = .returned (.bool (F i)) ∧ w = w' := by
 have h := implHas (nb 27 F) i w (nb_lt27 F) hi
 rw [nb_bit, decide_eq_true hi, Bool.true_and] at h
 exact h
def low (l : List UInt8) (k : Nat) : Nat → Bool := fun i => decide (i < k) && hs l i
theorem low_zero (l : List UInt8) : nb 27 (low l 0) = 0 := nb_zero 27 (fun i _ => by simp [low])
theorem low_one {l : List UInt8} {k : Nat} (h : hs l k = true) : nb 27 (fun j => low l k j || j == k) = nb 27 (low l (k + 1)) := nb_congr fun i _ => by
 unfold low
 by_cases e : i = k
 ·subst e; simp [h]
 ·by_cases h2 : i < k
  ·have h3 : i < k + 1 := by omega
   simp [h2, h3, e]
  ·have h3 : ¬ i < k + 1 := by omega
   simp [h2, h3, e]
theorem low_nil {l : List UInt8} {k : Nat} (h : hs l k = false) : nb 27 (low l k) = nb 27 (low l (k + 1)) := nb_congr fun i _ => by
 unfold low
 by_cases e : i = k
 ·subst e; simp [h]
 ·by_cases h2 : i < k
  ·have h3 : i < k + 1 := by omega
   simp [h2, h3]
  ·have h3 : ¬ i < k + 1 := by omega
   simp [h2, h3]
theorem low_all (l : List UInt8) : nb 27 (low l 27) = nb 27 (hs l) := nb_congr fun i hi => by simp [low, hi]
theorem hs_get (s : ByteArray) (k : Nat) (hk : k < s.size) : hs s.data.toList k = (s[k] == 49) := by
 unfold hs
 rw [List.getElem?_eq_getElem (by simpa using hk)]
 show (some s[k] == some 49) = _
 rfl
set_option maxHeartbeats 2000000 in
theorem implRead_yes (s : ByteArray) (w : World) (hv : Set27 s) : Calls Tryz.prog 122 #[.string s] w fun e w' => e = .returned (.tuple #[.int .u32 (nb 27 (hs s.data.toList)), .bool true]) ∧ w = w' := by
 have hs27 : s.size = 27 := by have := hv.1; simpa using this
 have HV := Lib.hid hv
 clear hv
 go_enter Tryz.func122, Tryz.ntmps122
 go_wp2_with fail
 go_loop [4, 9] (fun v i => ∃ k : Nat, k ≤ 27 ∧ i = .int .i64 k ∧ v = .int .u32 (nb 27 (low s.data.toList k))) (fun _ i => 27 - (intOf i).toNat)
 case atStart => exact ⟨0, by omega, rfl, by rw [low_zero]; rfl⟩
 case round =>
  obtain ⟨k, hk, rfl, rfl⟩ := hrel
  by_cases hlt : k < 27
  ·have hk2 : k < s.size := by omega
   have hg := hs_get s k hk2
   have hd := HV.out.2 k (by simpa using hk2)
   have hc : s[k] = 48 ∨ s[k] = 49 := hd
   have C := fun w => Lib.hid (implWithB (low s.data.toList k) k w hlt)
   rcases hc with hc | hc
   ·have L := Lib.hid (low_nil (l := s.data.toList) (k := k) (by rw [hg, hc]; rfl))
    have hb : (s[k].toNat : Int) = 48 := by rw [hc]; rfl
    clear hg hd hc
    go_wp2_with fail
    exact ⟨⟨k + 1, by omega, by go_num, by rw [L.out]⟩, by simp [intOf]; omega⟩
   ·have L := Lib.hid (low_one (l := s.data.toList) (k := k) (by rw [hg, hc]; rfl))
    have hb : (s[k].toNat : Int) = 49 := by rw [hc]; rfl
    clear hg hd hc
    go_wp2_with fail
    refine (C _).out.mono ?_
    rintro e w' ⟨rfl, rfl⟩
    go_wp2_with fail
    exact ⟨⟨k + 1, by omega, by go_num, by rw [L.out]⟩, by simp [intOf]; omega⟩
  ·have hk2 : k = 27 := by omega
   subst hk2
   go_wp2_with fail
   go_ret2
   exact ⟨by rw [← low_all]; rfl, rfl⟩
theorem byte_int {c d : UInt8} (h : c ≠ d) : ((c.toNat : Int) == (d.toNat : Int)) = false := by
 rw [beq_eq_false_iff_ne]; intro e
 exact h (UInt8.toNat_inj.1 (by omega))
set_option maxHeartbeats 2000000 in
theorem implRead_no (s : ByteArray) (w : World) (hv : ¬ Set27 s) : Calls Tryz.prog 122 #[.string s] w fun e w' => e = .returned (.tuple #[.int .u32 0, .bool false]) ∧ w = w' := by
 by_cases h27 : s.size = 27
 ·have HV := Lib.hid hv
  clear hv
  go_enter Tryz.func122, Tryz.ntmps122
  go_wp2_with fail
  go_loop [4, 9] (fun v i => ∃ k : Nat, k ≤ 27 ∧ i = .int .i64 k ∧ v = .int .u32 (nb 27 (low s.data.toList k)) ∧ ∀ j (hj : j < s.size), j < k → s[j] = 48 ∨ s[j] = 49) (fun _ i => 27 - (intOf i).toNat)
  case atStart => exact ⟨0, by omega, rfl, by rw [low_zero]; rfl, fun j _ hj => by omega⟩
  case round =>
   obtain ⟨k, hk, rfl, rfl, hok⟩ := hrel
   have HO := Lib.hid hok
   clear hok
   by_cases hlt : k < 27
   ·have hk2 : k < s.size := by omega
    have hg := hs_get s k hk2
    have C := fun w => Lib.hid (implWithB (low s.data.toList k) k w hlt)
    by_cases hc : s[k] = 48
    ·have L := Lib.hid (low_nil (l := s.data.toList) (k := k) (by rw [hg, hc]; rfl))
     have hb : (s[k].toNat : Int) = 48 := by rw [hc]; rfl
     have N : Hid (∀ j (hj : j < s.size), j < k + 1 → s[j] = 48 ∨ s[j] = 49) := fun j hj h => by
      rcases Nat.lt_succ_iff_lt_or_eq.1 h with h | h
      ·exact HO.out j hj h
      ·subst h; exact .inl hc
     clear hg hc
     go_wp2_with fail
     exact ⟨⟨k + 1, by omega, by go_num, by rw [L.out], N.out⟩, by simp [intOf]; omega⟩
    ·by_cases hc1 : s[k] = 49
     ·have L := Lib.hid (low_one (l := s.data.toList) (k := k) (by rw [hg, hc1]; rfl))
      have hb : (s[k].toNat : Int) = 49 := by rw [hc1]; rfl
      have N : Hid (∀ j (hj : j < s.size), j < k + 1 → s[j] = 48 ∨ s[j] = 49) := fun j hj h => by
       rcases Nat.lt_succ_iff_lt_or_eq.1 h with h | h
       ·exact HO.out j hj h
       ·subst h; exact .inr hc1
      clear hg hc hc1
      go_wp2_with fail
      refine (C _).out.mono ?_
      rintro e w' ⟨rfl, rfl⟩
      go_wp2_with fail
      exact ⟨⟨k + 1, by omega, by go_num, by rw [L.out], N.out⟩, by simp [intOf]; omega⟩
     ·have b0 : ((s[k].toNat : Int) == 48) = false := byte_int hc
      have b1 : ((s[k].toNat : Int) == 49) = false := byte_int hc1
      clear hg hc hc1
      go_wp2_with fail
      go_ret2
      exact ⟨rfl, rfl⟩
   ·refine absurd ⟨by simpa using h27, fun j hj => ?_⟩ HV.out
    have hj2 : j < s.size := by simpa using hj
    exact HO.out j hj2 (by omega)
 ·have hs : ((s.size : Int) == 27) = false := by rw [beq_eq_false_iff_ne]; omega
  have hs2 : ((s.size : Int) != 27) = true := by rw [bne_iff_ne]; omega
  clear hv h27
  go_enter Tryz.func122, Tryz.ntmps122
  go_wp2_with fail
  go_ret2
  exact ⟨rfl, rfl⟩
set_option maxHeartbeats 2000000 in
theorem implText (F : Nat → Bool) (w : World) : Calls Tryz.prog 117 #[.int .u32 (nb 27 F)] w fun e w' => e = .returned (.string (bs (tb F))) ∧ Below w.heap.size w w' := by
 have hmk : ∀ w, (Instr.makeSlice 22 (.int .i64 27) (.int .i64 27)).run Tryz.prog w = .ok (.slice (some ⟨w.heap.size, 0, none⟩) 27 27) (w.alloc (.cells (u8s (zs 27)) 5)) := fun w => mkBytes 27 (by omega) w
 have hcv : Hid (∀ (w : World) (b : Nat) (l : List UInt8), BBlk w b l → l.length = 27 → (convert 22 9 (.slice (some ⟨b, 0, none⟩) 27 27)).run Tryz.prog w = .ok (.string (bs l)) w) := fun w b l h hl => toStr h 27 27 hl.symm
 have t0 := BBlk.made 27 w
 have hB := (Below.refl _ w).alloc (Nat.le_refl _) (.cells (u8s (zs 27)) 5)
 have HT0 := Lib.hid t0
 have HB0 := Lib.hid hB
 clear t0 hB
 go_enter Tryz.func117, Tryz.ntmps117
 go_wp2_with fail
 generalize w.alloc (.cells (u8s (zs 27)) 5) = w0 at *
 go_loopw [6] (fun i wr => ∃ k : Nat, k ≤ 27 ∧ i = .int .i64 k ∧ BBlk wr w.heap.size (part 27 k F) ∧ Below w.heap.size w wr) (fun i _ => 27 - (intOf i).toNat)
 case atStart => exact ⟨0, by omega, rfl, HT0.out, HB0.out⟩
 case round =>
  clear HT0 HB0
  obtain ⟨k, hk, rfl, ht, hb⟩ := hrel
  by_cases hlt : k < 27
  ·have C := fun w => Lib.hid (implHasB F k w hlt)
   have hl := part_len 27 k F (by omega)
   obtain ⟨old, hc⟩ := ht.some k (by omega)
   have hf := ht.free k
   have HT := Lib.hid ht
   have HB := Lib.hid hb
   have HS := Lib.hid (part_step 27 k F hlt)
   clear ht hb hl
   cases hF : F k
   ·rw [hF] at C
    have HF := Lib.hid hF
    clear hF
    go_wp2_with fail
    refine (C _).out.mono ?_
    rintro e w' ⟨rfl, rfl⟩
    go_wp2_with fail
    refine ⟨⟨k + 1, by omega, by go_num, ?_, HB.out.setCell (p := ⟨w.heap.size, k, none⟩) (Nat.le_refl _) _⟩, by simp [intOf]; omega⟩
    have h := HT.out.set k 48
    have h2 := HS.out
    rw [HF.out] at h2
    rw [← h2]; exact h
   ·rw [hF] at C
    have HF := Lib.hid hF
    clear hF
    go_wp2_with fail
    refine (C _).out.mono ?_
    rintro e w' ⟨rfl, rfl⟩
    go_wp2_with fail
    refine ⟨⟨k + 1, by omega, by go_num, ?_, (HB.out.setCell (p := ⟨w.heap.size, k, none⟩) (Nat.le_refl _) _).setCell (p := ⟨w.heap.size, k, none⟩) (Nat.le_refl _) _⟩, by simp [intOf]; omega⟩
    have h := HT.out.set2 k 48 49
    have h2 := HS.out
    rw [HF.out] at h2
    rw [← h2]; exact h
  ·have hk2 : k = 27 := by omega
   subst hk2
   have HB := Lib.hid hb
   have hv := hcv.out wr w.heap.size _ ht (part_len 27 27 F (by omega))
   rw [part_all] at hv
   clear ht hb hlt
   go_wp2_with fail
   go_ret
   exact ⟨rfl, HB.out⟩
theorem not_bits (F : Nat → Bool) : bits .andNot .u32 134217727 (nb 27 F : Nat) = (nb 27 (fun i => !F i) : Nat) := by
 have h := nb_lt27 F
 have h1 := u32_andNot_nat 134217727 (nb 27 F) (by omega) (by omega)
 rw [show ((134217727 : Nat) : Int) = 134217727 from rfl] at h1
 rw [h1]
 congr 1
 apply nb_of_bits
 ·exact Nat.lt_of_le_of_lt Nat.and_le_left (by decide)
 ·intro i hi
  rw [Nat.testBit_and, show 4294967295 - nb 27 F = 2 ^ 32 - (nb 27 F + 1) by omega, Nat.testBit_two_pow_sub_succ (by omega), nb_bit]
  rw [show (134217727 : Nat) = 2 ^ 27 - 1 from rfl, Nat.testBit_two_pow_sub_one]
  have h32 : i < 32 := by omega
  simp [hi, h32]
set_option maxHeartbeats 1000000 in
theorem implNot (F : Nat → Bool) (w : World) : Calls Tryz.prog 181 #[.int .u32 (nb 27 F)] w fun e w' => e = .returned (.int .u32 (nb 27 (fun i => !F i) : Nat)) ∧ w = w' := by
 have H := Lib.hid (not_bits F)
 go_enter Tryz.func181, Tryz.ntmps181
 go_wp2_with fail
 go_ret
 exact ⟨by rw [← H.out]; rfl, rfl⟩
end Go.Proofs.YtgkoljphndgoeaaGreatDoor
namespace Go.Proofs.YtgkoljphndgoeaaGreatDoor
def lowF (F : Nat → Bool) (k : Nat) : Nat → Bool := fun i => decide (i < k) && F i
theorem lowF_zero (F : Nat → Bool) : nb 27 (lowF F 0) = 0 := nb_zero 27 (fun i _ => by simp [lowF])
theorem lowF_one {F : Nat → Bool} {k : Nat} (h : F k = true) : nb 27 (fun j => lowF F k j || j == k) = nb 27 (lowF F (k + 1)) := nb_congr fun i _ => by
 unfold lowF
 by_cases e : i = k
 ·subst e; simp [h]
 ·by_cases h2 : i < k
  ·have h3 : i < k + 1 := by omega
   simp [h2, h3, e]
  ·have h3 : ¬ i < k + 1 := by omega
   simp [h2, h3, e]
theorem lowF_nil {F : Nat → Bool} {k : Nat} (h : F k = false) : nb 27 (lowF F k) = nb 27 (lowF F (k + 1)) := nb_congr fun i _ => by
 unfold lowF
 by_cases e : i = k
 ·subst e; simp [h]
 ·by_cases h2 : i < k
  ·have h3 : i < k + 1 := by omega
   simp [h2, h3]
  ·have h3 : ¬ i < k + 1 := by omega
   simp [h2, h3]
theorem lowF_all (F : Nat → Bool) : nb 27 (lowF F 27) = nb 27 F := nb_congr fun i hi => by simp [lowF, hi]
end Go.Proofs.YtgkoljphndgoeaaGreatDoor
namespace Go.Proofs.YtgkoljphndgoeaaGreatDoor
open Go.RowKit
def val3 (x : Int) : Bool := decide (0 ≤ x ∧ x ≤ 2)
def st3 (x y z : Int) : Bool := val3 x && val3 y && val3 z
theorem val3_t {n : Int} (h0 : 0 ≤ n) (h1 : n < 3) : val3 n = true := by unfold val3; simp; omega
theorem val3_hi {n : Int} (h1 : ¬ n < 3) : val3 n = false := by unfold val3; simp; omega
theorem val3_lo {n : Int} (h1 : ¬ 0 ≤ n) : val3 n = false := by unfold val3; simp; omega
theorem val3_bd {n : Int} (h : val3 n = true) : 0 ≤ n ∧ n < 3 := by unfold val3 at h; simp at h; omega
set_option maxHeartbeats 800000 in
theorem implIsValue (n : Int) (w : World) : Calls Tryz.prog 228 #[.int .i64 n] w fun e w' => e = .returned (.bool (val3 n)) ∧ w = w' := by
 by_cases h0 : 0 ≤ n <;> by_cases h1 : n < 3
 ·have H : Hid (val3 n = _) := val3_t h0 (by omega)
  go_enter Tryz.func228, Tryz.ntmps228
  go_wp2
  go_ret
  exact ⟨by rw [H.out]; rfl, rfl⟩
 ·have H : Hid (val3 n = _) := val3_hi (by omega)
  go_enter Tryz.func228, Tryz.ntmps228
  go_wp2
  go_ret
  exact ⟨by rw [H.out]; rfl, rfl⟩
 ·have H : Hid (val3 n = _) := val3_lo h0
  go_enter Tryz.func228, Tryz.ntmps228
  go_wp2
  go_ret
  exact ⟨by rw [H.out]; rfl, rfl⟩
 ·have H : Hid (val3 n = _) := val3_lo h0
  go_enter Tryz.func228, Tryz.ntmps228
  go_wp2
  go_ret
  exact ⟨by rw [H.out]; rfl, rfl⟩
set_option maxHeartbeats 800000 in
theorem implStateValidA (x y z : Int) (w : World) (hx : val3 x = true) (hy : val3 y = true) (hz : val3 z = true) : Calls Tryz.prog 178 #[.agg #[.int .i64 x, .int .i64 y, .int .i64 z]] w fun e w' => e = .returned (.bool true) ∧ Below w.heap.size w w' := by
 go_enter Tryz.func178, Tryz.ntmps178
 go_wp2_with (go_at_call 228; refine (implIsValue _ _).mono ?_; rintro e w' ⟨rfl, rfl⟩)
 go_ret
 exact ⟨rfl, (Below.refl _ _).alloc (Nat.le_refl _) _⟩
set_option maxHeartbeats 800000 in
theorem implStateValidB (x y z : Int) (w : World) (hx : val3 x = true) (hy : val3 y = true) (hz : val3 z = false) : Calls Tryz.prog 178 #[.agg #[.int .i64 x, .int .i64 y, .int .i64 z]] w fun e w' => e = .returned (.bool false) ∧ Below w.heap.size w w' := by
 go_enter Tryz.func178, Tryz.ntmps178
 go_wp2_with (go_at_call 228; refine (implIsValue _ _).mono ?_; rintro e w' ⟨rfl, rfl⟩)
 go_ret
 exact ⟨rfl, (Below.refl _ _).alloc (Nat.le_refl _) _⟩
set_option maxHeartbeats 800000 in
theorem implStateValidC (x y z : Int) (w : World) (hx : val3 x = true) (hy : val3 y = false) : Calls Tryz.prog 178 #[.agg #[.int .i64 x, .int .i64 y, .int .i64 z]] w fun e w' => e = .returned (.bool false) ∧ Below w.heap.size w w' := by
 go_enter Tryz.func178, Tryz.ntmps178
 go_wp2_with (go_at_call 228; refine (implIsValue _ _).mono ?_; rintro e w' ⟨rfl, rfl⟩)
 go_ret
 exact ⟨rfl, (Below.refl _ _).alloc (Nat.le_refl _) _⟩
set_option maxHeartbeats 800000 in
theorem implStateValidD (x y z : Int) (w : World) (hx : val3 x = false) : Calls Tryz.prog 178 #[.agg #[.int .i64 x, .int .i64 y, .int .i64 z]] w fun e w' => e = .returned (.bool false) ∧ Below w.heap.size w w' := by
 go_enter Tryz.func178, Tryz.ntmps178
 go_wp2_with (go_at_call 228; refine (implIsValue _ _).mono ?_; rintro e w' ⟨rfl, rfl⟩)
 go_ret
 exact ⟨rfl, (Below.refl _ _).alloc (Nat.le_refl _) _⟩
theorem implStateValid (x y z : Int) (w : World) : Calls Tryz.prog 178 #[.agg #[.int .i64 x, .int .i64 y, .int .i64 z]] w fun e w' => e = .returned (.bool (st3 x y z)) ∧ Below w.heap.size w w' := by
 unfold st3
 cases hx : val3 x
 ·exact implStateValidD x y z w hx
 ·cases hy : val3 y
  ·exact implStateValidC x y z w hx hy
  ·cases hz : val3 z
   ·exact implStateValidB x y z w hx hy hz
   ·exact implStateValidA x y z w hx hy hz
theorem st3_lt {x y z : Int} (h : st3 x y z = true) : 0 ≤ x ∧ x < 3 ∧ 0 ≤ y ∧ y < 3 ∧ 0 ≤ z ∧ z < 3 := by
 unfold st3 at h
 simp only [Bool.and_eq_true] at h
 have a := val3_bd h.1.1; have b := val3_bd h.1.2; have c := val3_bd h.2
 exact ⟨a.1, a.2, b.1, b.2, c.1, c.2⟩
set_option maxHeartbeats 1000000 in
theorem implIx_yes (x y z : Int) (w : World) (h : st3 x y z = true) : Calls Tryz.prog 126 #[.agg #[.int .i64 x, .int .i64 y, .int .i64 z]] w fun e w' => e = .returned (.int .i64 (x + 3 * y + 9 * z)) ∧ Below w.heap.size w w' := by
 have hd := st3_lt h
 obtain ⟨hx0, hx1, hy0, hy1, hz0, hz1⟩ := hd
 have C := fun w => Lib.hid (implStateValid x y z w)
 rw [h] at C
 go_enter Tryz.func126, Tryz.ntmps126
 go_wp2_with fail
 refine (C _).out.mono ?_
 rintro e w1 ⟨rfl, hb⟩
 have t1 := (Blk.new _ _ _).kept hb
 obtain ⟨q0, q1, q2⟩ := t1.c3
 have HB := Lib.hid (bbox hb)
 clear hb t1
 go_wp2_with fail
 go_ret
 exact ⟨rfl, HB.out⟩
set_option maxHeartbeats 1000000 in
theorem specIx0 (x y z : Int) (w : World) (h : st3 x y z = true) : Calls Tryz.prog 208 #[.agg #[.int .i64 x, .int .i64 y, .int .i64 z]] w fun e w' => e = .returned (.int .i64 (x + 3 * y + 9 * z)) ∧ Below w.heap.size w w' := by
 obtain ⟨hx0, hx1, hy0, hy1, hz0, hz1⟩ := st3_lt h
 clear h
 go_enter Tryz.func208, Tryz.ntmps208
 go_wp2_with fail
 go_ret
 exact ⟨rfl, (Below.refl _ _).alloc (Nat.le_refl _) _⟩
def ax (i : Int) : Int := i % 3
def ay (i : Int) : Int := i / 3 % 3
def az (i : Int) : Int := i / 9
theorem at_st3 {i : Int} (h0 : 0 ≤ i) (h1 : i < 27) : st3 (ax i) (ay i) (az i) = true := by
 unfold st3 ax ay az
 rw [val3_t (by omega) (by omega), val3_t (by omega) (by omega), val3_t (by omega) (by omega)]; rfl
theorem at_ix (i : Int) : ax i + 3 * ay i + 9 * az i = i := by unfold ax ay az; omega
set_option maxHeartbeats 1000000 in
theorem implAt_yes (i : Int) (w : World) (h0 : 0 ≤ i) (h1 : i < 27) : Calls Tryz.prog 112 #[.int .i64 i] w fun e w' => e = .returned (.tuple #[.agg #[.int .i64 (ax i), .int .i64 (ay i), .int .i64 (az i)], .bool true]) ∧ Below w.heap.size w w' := by
 go_enter Tryz.func112, Tryz.ntmps112
 go_wp2_with fail
 exact bodyPost_ret (v := .tuple #[.agg #[.int .i64 (ax i), .int .i64 (ay i), .int .i64 (az i)], .bool true]) (by simp [results, Tryz.results112, go_sem, ax, ay, az]) rfl ⟨rfl, (Below.refl _ _).alloc (Nat.le_refl _) _⟩
set_option maxHeartbeats 1000000 in
theorem specAt0 (i : Int) (w : World) (h0 : 0 ≤ i) (h1 : i < 27) : Calls Tryz.prog 114 #[.int .i64 i] w fun e w' => e = .returned (.agg #[.int .i64 (ax i), .int .i64 (ay i), .int .i64 (az i)]) ∧ Below w.heap.size w w' := by
 go_enter Tryz.func114, Tryz.ntmps114
 go_wp2_with fail
 exact bodyPost_ret (v := .agg #[.int .i64 (ax i), .int .i64 (ay i), .int .i64 (az i)]) (by simp [results, Tryz.results114, go_sem, ax, ay, az]) rfl ⟨rfl, (Below.refl _ _).alloc (Nat.le_refl _) _⟩
end Go.Proofs.YtgkoljphndgoeaaGreatDoor
