import Derived.Test.YtgkoljphndgoeaaGreatDoorTopH
import Derived.Laws.Rows
import Derived.Laws.Tables
import Derived.Great.Walk
import Derived.Great.BuildSlice
import Derived.Test.YtgkoljphndgoeaaGreatDoorTopY
import Derived.Test.YtgkoljphndgoeaaGreatDoorTopV
import Derived.Test.YtgkoljphndgoeaaGreatDoorTopE1
import Derived.Test.YtgkoljphndgoeaaGreatDoorShelf
namespace Go.Proofs.YtgkoljphndgoeaaGreatDoor
open Go.RowKit Tm Go.Great
def allC (T : Nat → Nat → Bool) (L K : Nat → Bool) : Array Value := ((List.range 27).map (fun i => Value.int .i64 (nb 27 (T i))) ++ [Value.int .i64 (nb 27 L), Value.int .i64 (nb 27 K)]).toArray
theorem allC_size (T : Nat → Nat → Bool) (L K : Nat → Bool) : (allC T L K).size = 29 := by simp [allC]
theorem allC_get (T : Nat → Nat → Bool) (L K : Nat → Bool) {i : Nat} (h : i < 27) : (allC T L K)[i]? = some (.int .i64 (nb 27 (T i))) := by
 unfold allC
 rw [List.getElem?_toArray, List.getElem?_append_left (by simpa using h)]
 simp [h]
theorem allC_L (T : Nat → Nat → Bool) (L K : Nat → Bool) : (allC T L K)[27]? = some (.int .i64 (nb 27 L)) := by
 unfold allC
 rw [List.getElem?_toArray, List.getElem?_append_right (by simp)]
 simp
theorem allC_K (T : Nat → Nat → Bool) (L K : Nat → Bool) : (allC T L K)[28]? = some (.int .i64 (nb 27 K)) := by
 unfold allC
 rw [List.getElem?_toArray, List.getElem?_append_right (by simp)]
 simp
theorem allC_congr {T T' : Nat → Nat → Bool} {L L' K K' : Nat → Bool} (h1 : ∀ i, i < 27 → ∀ j, j < 27 → T i j = T' i j) (h2 : ∀ i, i < 27 → L i = L' i) (h3 : ∀ i, i < 27 → K i = K' i) : allC T L K = allC T' L' K' := by
 unfold allC
 rw [nb_congr h2, nb_congr h3]
 congr 2
 apply List.map_congr_left
 intro i hi
 rw [nb_congr (h1 i (by simpa using hi))]
theorem allC_one (T : Nat → Nat → Bool) (L K : Nat → Bool) : (allC T L K).all (·.oneCell') = true := by
 rw [Array.all_eq_true_iff_forall_mem]
 intro v hv
 simp [allC] at hv
 rcases hv with ⟨i, _, rfl⟩ | rfl | rfl <;> rfl
def setT (T : Nat → Nat → Bool) (k : Nat) (F : Nat → Bool) : Nat → Nat → Bool := fun i => if i = k then F else T i
theorem allC_setT {T : Nat → Nat → Bool} {L K : Nat → Bool} {k : Nat} {F : Nat → Bool} (hk : k < 27) : (allC T L K).setIfInBounds k (.int .i64 (nb 27 F)) = allC (setT T k F) L K := by
 apply Array.ext_getElem?
 intro i
 rw [Array.getElem?_setIfInBounds]
 by_cases e : k = i
 ·subst e
  rw [if_pos rfl, allC_get _ _ _ hk, if_pos (by rw [allC_size]; omega)]
  simp [setT]
 ·rw [if_neg e]
  by_cases h : i < 27
  ·rw [allC_get _ _ _ h, allC_get _ _ _ h]
   have : ¬ i = k := fun h => e h.symm
   simp [setT, this]
  ·by_cases h27 : i = 27
   ·subst h27; rw [allC_L, allC_L]
   ·by_cases h28 : i = 28
    ·subst h28; rw [allC_K, allC_K]
    ·rw [Array.getElem?_eq_none (by rw [allC_size]; omega), Array.getElem?_eq_none (by rw [allC_size]; omega)]
theorem allC_setL {T : Nat → Nat → Bool} {L K : Nat → Bool} {F : Nat → Bool} : (allC T L K).setIfInBounds 27 (.int .i64 (nb 27 F)) = allC T F K := by
 apply Array.ext_getElem?
 intro i
 rw [Array.getElem?_setIfInBounds]
 by_cases e : 27 = i
 ·subst e
  rw [if_pos rfl, allC_L, if_pos (by rw [allC_size]; omega)]
 ·rw [if_neg e]
  by_cases h : i < 27
  ·rw [allC_get _ _ _ h, allC_get _ _ _ h]
  ·by_cases h28 : i = 28
   ·subst h28; rw [allC_K, allC_K]
   ·rw [Array.getElem?_eq_none (by rw [allC_size]; omega), Array.getElem?_eq_none (by rw [allC_size]; omega)]
theorem allC_setK {T : Nat → Nat → Bool} {L K : Nat → Bool} {F : Nat → Bool} : (allC T L K).setIfInBounds 28 (.int .i64 (nb 27 F)) = allC T L F := by
 apply Array.ext_getElem?
 intro i
 rw [Array.getElem?_setIfInBounds]
 by_cases e : 28 = i
 ·subst e
  rw [if_pos rfl, allC_K, if_pos (by rw [allC_size]; omega)]
 ·rw [if_neg e]
  by_cases h : i < 27
  ·rw [allC_get _ _ _ h, allC_get _ _ _ h]
  ·by_cases h27 : i = 27
   ·subst h27; rw [allC_L, allC_L]
   ·rw [Array.getElem?_eq_none (by rw [allC_size]; omega), Array.getElem?_eq_none (by rw [allC_size]; omega)]
def noT : Nat → Nat → Bool := fun _ _ => false
def noS : Nat → Bool := fun _ => false
theorem infoAll : (Tryz.prog.info? 85).map (·.size) = some 29 := by kernel_rfl
theorem undAll : Tryz.prog.underlying 85 = some (.struct (Tryz.prog.fieldsOf 85)) := by kernel_rfl
theorem ar_alloc {ops : Array Oper} {rest : List Oper} {o : Oper} {a : Act} {w : World} {Q : Exit → Act → World → Prop} (hg : o.guard = none) (ho : o.op = .alloc 85) (dst : Option Tmp) (hdst : o.dst = dst) (N : Nat) (hN : w.heap.size = N)
  (h : wpList Tryz.prog ops Q rest (a.put dst (.pointer (some ⟨N, 0, none⟩))) (w.alloc (.cells (allC noT noS noS) 85))) : wpList Tryz.prog ops Q (o :: rest) a w := by
 subst hN
 refine wpList_runTo hg dst hdst _ _ ?_ h
 simp [execOp, ho, Instr.alloc, Result.andThen, go_sem]
 kernel_rfl
def AllPost (T : Nat → Nat → Bool) (L K : Nat → Bool) (w : World) (e : Ending) (w' : World) : Prop := e = .returned (.agg (allC T L K)) ∧ Below w.heap.size w w'
theorem infoAll' (T : Nat → Nat → Bool) (L K : Nat → Bool) : (Tryz.prog.info? 85).map (·.size) = some (allC T L K).size := by rw [allC_size]; exact infoAll
theorem Blk.row {w : World} {g : Nat} {cs : Array Value} {t : TypeId} (h : Blk w g cs t) (cs' : Array Value) : Blk (w.setRow g cs') g cs' t := setRow_heap w g cs cs' t (0, 0) h
theorem Blk.rowOther {w : World} {b g : Nat} {cs : Array Value} {t : TypeId} (h : Blk w b cs t) (hne : b ≠ g) (cs' : Array Value) : Blk (w.setRow g cs') b cs t := by
 unfold Blk at *
 rw [setRow_other _ _ _ _ hne]; exact h
theorem Below.setRow {B : Nat} {a w : World} (h : Below B a w) {g : Nat} (hg : B ≤ g) (cs : Array Value) : Below B a (w.setRow g cs) :=
 h.trans ⟨rfl, rfl, rfl, by simp, fun k hk => setRow_other _ _ _ _ (by omega)⟩
def lowT (k : Nat) (T : Nat → Nat → Bool) : Nat → Nat → Bool := fun i j => decide (i < k) && T i j
theorem lowT_zero (T : Nat → Nat → Bool) : allC (lowT 0 T) noS noS = allC noT noS noS := allC_congr (fun i _ j _ => by simp [lowT, noT]) (fun _ _ => rfl) (fun _ _ => rfl)
theorem lowT_step {T : Nat → Nat → Bool} {L K : Nat → Bool} {k : Nat} (hk : k < 27) : (allC (lowT k T) L K).setIfInBounds k (.int .i64 (nb 27 (T k))) = allC (lowT (k + 1) T) L K := by
 rw [allC_setT hk]
 refine allC_congr (fun i _ j _ => ?_) (fun _ _ => rfl) (fun _ _ => rfl)
 unfold setT lowT
 by_cases e : i = k
 ·subst e; simp
 ·rw [if_neg e]
  by_cases h : i < k
  ·have h2 : i < k + 1 := by omega
   simp [h, h2]
  ·have h2 : ¬ i < k + 1 := by omega
   simp [h, h2]
theorem lowT_all {T : Nat → Nat → Bool} {L K : Nat → Bool} : allC (lowT 27 T) L K = allC T L K := allC_congr (fun i hi j _ => by simp [lowT, hi]) (fun _ _ => rfl) (fun _ _ => rfl)
theorem nb_single (k : Nat) (hk : k < 27) : (nb 27 (fun j => j == k) : Nat) = 2 ^ k := by
 have := nb_or 27 (fun _ => false) k hk
 rw [nb_zero 27 (fun _ _ => rfl)] at this
 simp at this
 exact this.symm
theorem wrap_bit {k : Nat} (hk : k < 27) : wrap64 ((2 : Int) ^ k) = ((nb 27 (fun j => j == k) : Nat) : Int) := by
 rw [nb_single k hk]
 have h : (2 : Nat) ^ k ≤ 67108864 := Nat.pow_le_pow_right (n := 2) (j := 26) (by omega) (by omega)
 have e : ((2 ^ k : Nat) : Int) = (2 : Int) ^ k := by simp
 rw [← e]
 generalize (2 : Nat) ^ k = n at *
 unfold wrap64
 omega
set_option maxRecDepth 100000 in
set_option maxHeartbeats 4000000 in
theorem specSkip (w : World) : Calls Tryz.prog 119 #[] w (AllPost (fun i j => j == i) noS noS w) := by
 have k0 := Blk.new w (allC noT noS noS) 85
 have b0 := (Below.refl w.heap.size w).alloc (Nat.le_refl _) (.cells (allC noT noS noS) 85)
 have z0 : (w.alloc (.cells (allC noT noS noS) 85)).heap.size = w.heap.size + 1 := by simp
 have k1 := Blk.new (w.alloc (.cells (allC noT noS noS) 85)) (allC noT noS noS) 85
 rw [z0] at k1
 have k0' := k0.alloc (.cells (allC noT noS noS) 85)
 have b1 := b0.alloc (by omega) (.cells (allC noT noS noS) 85)
 have K0 := Lib.hid (k0'.rowOther (g := w.heap.size + 1) (by omega) (allC noT noS noS))
 have K1 := Lib.hid (k1.row (allC noT noS noS))
 have B1 := Lib.hid (Below.setRow b1 (g := w.heap.size + 1) (by omega) (allC noT noS noS))
 have HK := Lib.hid k1
 have HZ := Lib.hid z0
 clear k0 b0 z0 k1 k0' b1
 go_enter Tryz.func119, Tryz.ntmps119
 go_wp2_with (first
  | (refine ar_alloc rfl rfl (some 0) rfl w.heap.size rfl ?_)
  | (refine ar_alloc rfl rfl (some 1) rfl (w.heap.size + 1) HZ.out ?_)
  | (refine wpList_buildTo rfl 85 _ rfl _ rfl (allC noT noS noS) (by kernel_rfl) ?_)
  | (refine wpList_store_row rfl 85 _ _ rfl (w.heap.size + 1) (allC noT noS noS) (by rfl) (by rfl) 85 (allC noT noS noS) HK.out (infoAll' _ _ _) (by rfl) (allC_one _ _ _) ?_))
 generalize ((w.alloc (.cells (allC noT noS noS) 85)).alloc (.cells (allC noT noS noS) 85)).setRow (w.heap.size + 1) (allC noT noS noS) = w1 at *
 clear HK
 go_loopw [2] (fun i wr => ∃ k : Nat, k ≤ 27 ∧ i = .int .i64 k ∧ Hid (Blk wr (w.heap.size + 1) (allC (lowT k (fun i j => j == i)) noS noS) 85) ∧ Hid (Blk wr w.heap.size (allC noT noS noS) 85) ∧ Hid (Below w.heap.size w wr)) (fun i _ => 27 - (intOf i).toNat)
 case atStart => exact ⟨0, by omega, rfl, by rw [lowT_zero]; exact K1, K0, B1⟩
 case round =>
  clear K0 K1 B1
  obtain ⟨k, hk, rfl, R1, R0, RB⟩ := hrel
  by_cases hlt : k < 27
  ·have HS := Lib.hid (lowT_step (T := fun i j => j == i) (L := noS) (K := noS) hlt)
   have c0 : wr.cell? ⟨w.heap.size + 1, k, none⟩ = some (.int .i64 (nb 27 (lowT k (fun i j => j == i) k))) := (R1.out.cell k).trans (allC_get _ _ _ hlt)
   have c1 := R1.out.free k
   go_wp2_with fail
   refine ⟨⟨k + 1, by omega, by go_num, ?_, R0.out.setOther (p := ⟨w.heap.size + 1, k, none⟩) (by show w.heap.size ≠ w.heap.size + 1; omega) _, RB.out.setCell (p := ⟨w.heap.size + 1, k, none⟩) (by show w.heap.size ≤ w.heap.size + 1; omega) _⟩, by simp [intOf]; omega⟩
   rw [wrap_bit hlt, ← HS.out]
   exact R1.out.set k _
  ·have hk2 : k = 27 := by omega
   subst hk2
   have R1' := Lib.hid (show Blk wr (w.heap.size + 1) (allC (fun i j => j == i) noS noS) 85 from by have := R1.out; rwa [lowT_all] at this)
   clear R1
   go_wp2_with (first
    | (refine wpList_load_row rfl 85 _ rfl (w.heap.size + 1) (by rfl) 85 (allC (fun i j => j == i) noS noS) (0, 0) _ R1'.out undAll rfl (infoAll' _ _ _) ?_)
    | (refine wpList_store_row rfl 85 _ _ rfl w.heap.size (allC (fun i j => j == i) noS noS) (by rfl) (by rfl) 85 (allC noT noS noS) R0.out (infoAll' _ _ _) (by rw [allC_size, allC_size]) (allC_one _ _ _) ?_))
   refine bodyPost_ret (v := .agg (allC (fun i j => j == i) noS noS)) (results_cell_row rfl _ _ w.heap.size 85 _ (0, 0) _ (by rfl) (R0.out.row _) undAll rfl (infoAll' _ _ _)) rfl ⟨rfl, Below.setRow RB.out (Nat.le_refl _) _⟩
theorem i64_and_nat (a b : Nat) (ha : a < 134217728) (hb : b < 134217728) : bits .and .i64 (a : Int) (b : Int) = ((a &&& b : Nat) : Int) := by
 have hx : a &&& b < 134217728 := Nat.lt_of_le_of_lt Nat.and_le_left ha
 show IntKind.i64.wrap ((BitVec.ofInt 64 (a : Int) &&& BitVec.ofInt 64 (b : Int)).toNat : Int) = _
 rw [BitVec.toNat_and, ofInt_u64 a (by omega), ofInt_u64 b (by omega)]
 exact IntWalk.i64_in _ (by omega)
theorem i64_or_nat (a b : Nat) (ha : a < 134217728) (hb : b < 134217728) : bits .or .i64 (a : Int) (b : Int) = ((a ||| b : Nat) : Int) := by
 have hx : a ||| b < 134217728 := Nat.or_lt_two_pow (n := 27) ha hb
 show IntKind.i64.wrap ((BitVec.ofInt 64 (a : Int) ||| BitVec.ofInt 64 (b : Int)).toNat : Int) = _
 rw [BitVec.toNat_or, ofInt_u64 a (by omega), ofInt_u64 b (by omega)]
 exact IntWalk.i64_in _ (by omega)
theorem i64_andNot_nat (a b : Nat) (ha : a < 134217728) (hb : b < 134217728) : bits .andNot .i64 (a : Int) (b : Int) = ((a &&& (18446744073709551615 - b) : Nat) : Int) := by
 have hx : a &&& (18446744073709551615 - b) < 134217728 := Nat.lt_of_le_of_lt Nat.and_le_left ha
 show IntKind.i64.wrap ((BitVec.ofInt 64 (a : Int) &&& ~~~BitVec.ofInt 64 (b : Int)).toNat : Int) = _
 rw [BitVec.toNat_and, BitVec.toNat_not, ofInt_u64 a (by omega), ofInt_u64 b (by omega)]
 have e : 2 ^ 64 - 1 - b = 18446744073709551615 - b := by omega
 rw [e]
 exact IntWalk.i64_in _ (by omega)
theorem s_and (F G : Nat → Bool) : bits .and .i64 (nb 27 F : Nat) (nb 27 G : Nat) = (nb 27 (fun i => F i && G i) : Nat) := by
 rw [i64_and_nat _ _ (nb_lt27 F) (nb_lt27 G), nb_and]
theorem s_or (F G : Nat → Bool) : bits .or .i64 (nb 27 F : Nat) (nb 27 G : Nat) = (nb 27 (fun i => F i || G i) : Nat) := by
 rw [i64_or_nat _ _ (nb_lt27 F) (nb_lt27 G), nb_or2]
theorem s_andNot (F G : Nat → Bool) : bits .andNot .i64 (nb 27 F : Nat) (nb 27 G : Nat) = (nb 27 (fun i => F i && !G i) : Nat) := by
 have h := nb_lt27 F
 have h' := nb_lt27 G
 rw [i64_andNot_nat _ _ h h']
 congr 1
 apply nb_of_bits
 ·exact Nat.lt_of_le_of_lt Nat.and_le_left h
 ·intro i hi
  rw [Nat.testBit_and, show 18446744073709551615 - nb 27 G = 2 ^ 64 - (nb 27 G + 1) by omega, Nat.testBit_two_pow_sub_succ (by omega), nb_bit, nb_bit]
  have h64 : i < 64 := by omega
  simp [hi, h64]
theorem nb_all : (nb 27 (fun _ => true) : Nat) = 134217727 := by decide
theorem s_in (F : Nat → Bool) (i : Nat) (hi : i < 27) : (bits .and .i64 (((nb 27 F : Nat) : Int) / 2 ^ i) 1 == 1) = F i := by
 have hn := nb_lt27 F
 have e : (((nb 27 F : Nat) : Int) / 2 ^ i) = ((nb 27 F / 2 ^ i : Nat) : Int) := by simp
 have h1 : nb 27 F / 2 ^ i ≤ nb 27 F := Nat.div_le_self _ _
 have h2 : F i = (nb 27 F).testBit i := by rw [nb_bit]; simp [hi]
 rw [e, show (1 : Int) = ((1 : Nat) : Int) from rfl, i64_and_nat _ 1 (by omega) (by omega), nat_mask1, h2, Nat.testBit_eq_decide_div_mod_eq, Bool.eq_iff_iff, beq_iff_eq, decide_eq_true_eq]
 omega
set_option maxHeartbeats 1000000 in
theorem specInS (F : Nat → Bool) (i : Nat) (hi : i < 27) (w : World) : Calls Tryz.prog 86 #[.int .i64 (nb 27 F), .int .i64 i] w fun e w' => e = .returned (.bool (F i)) ∧ w = w' := by
 have H := Lib.hid (s_in F i hi)
 go_enter Tryz.func86, Tryz.ntmps86
 go_wp2_with fail
 go_ret
 exact ⟨by rw [← H.out]; rfl, rfl⟩
theorem al1 {w : World} {N : Nat} (z : w.heap.size = N) (c : Array Value) (t : TypeId) : (w.alloc (.cells c t)).heap.size = N + 1 ∧ Blk (w.alloc (.cells c t)) N c t := by
 subst z; exact ⟨by simp, Blk.new w c t⟩
theorem al2 {w : World} {N M : Nat} (z : w.heap.size = N) (h : M = N + 1) (c : Array Value) (t : TypeId) : (w.alloc (.cells c t)).heap.size = M ∧ Blk (w.alloc (.cells c t)) N c t := by
 subst h; exact al1 z c t
theorem setSt {c : UInt8} {t : Tm} {k : Nat} (ht : Ok false false t) (hk : k < 27) : st3 (setX c (val (env k) t) k) (setY c (val (env k) t) k) (setZ c (val (env k) t) k) = true := set_st3 (val_env ht hk) hk
theorem setIx {c : UInt8} {t : Tm} {k : Nat} (ht : Ok false false t) (hk : k < 27) : setX c (val (env k) t) k + 3 * setY c (val (env k) t) k + 9 * setZ c (val (env k) t) k = ((asg c t k : Nat) : Int) := by
 rw [← (ixx_lt (setSt (c := c) ht hk)).2, ← setN_eq]; rfl
theorem shl_bit {m : Nat} (h : m < 27) : wrap64 ((2 : Int) ^ min (IntKind.u64.wrap (m : Int)).toNat 64) = ((nb 27 (fun j => j == m) : Nat) : Int) := by
 rw [IntWalk.u64_in _ (by omega), show min ((m : Int)).toNat 64 = m by omega]; exact wrap_bit h
set_option maxRecDepth 100000 in
set_option maxHeartbeats 4000000 in
theorem specSet (c : UInt8) (jv : Nat) (h : VarAt c jv) (e : ByteArray) {t : Tm} (ht : Ok false false t) (he : e.data.toList = t.ser) (hl : e.size ≤ 200) (w : World) : Calls Tryz.prog 158 #[.int .i64 jv, .string e] w (AllPost (fun i j => j == asg c t i) noS noS w) := by
 have HA := fun i hi w => Lib.hid (specAsg c jv h e ht he hl i hi w)
 have HH := Lib.hid h
 have HT := Lib.hid ht
 clear h he ht hl
 have z0 : w.heap.size = w.heap.size := rfl
 have hb0 := Below.refl w.heap.size w
 obtain ⟨z1, k0⟩ := al1 z0 (allC noT noS noS) 85
 replace hb0 := Below.alloc hb0 (by omega) (.cells (allC noT noS noS) 85)
 obtain ⟨z2, k1⟩ := al2 z1 (show w.heap.size + 2 = w.heap.size + 1 + 1 from rfl) (allC noT noS noS) 85
 replace k0 := Blk.alloc k0 (.cells (allC noT noS noS) 85)
 replace hb0 := Below.alloc hb0 (by omega) (.cells (allC noT noS noS) 85)
 have KR := Lib.hid k1
 replace k0 := Blk.rowOther k0 (g := w.heap.size + 1) (by omega) (allC noT noS noS)
 replace k1 := Blk.row k1 (allC noT noS noS)
 replace hb0 := Below.setRow hb0 (g := w.heap.size + 1) (by omega) (allC noT noS noS)
 have K0 := Lib.hid k0
 have K1 := Lib.hid k1
 have HZ1 := Lib.hid z1
 have HZ2 := Lib.hid z2
 have HB := Lib.hid hb0
 clear hb0 z0 k0 k1 z1 z2
 go_enter Tryz.func158, Tryz.ntmps158
 go_wp2_with (first
  | (refine ar_alloc rfl rfl (some 4) rfl w.heap.size rfl ?_)
  | (refine ar_alloc rfl rfl (some 5) rfl (w.heap.size + 1) HZ1.out ?_)
  | (refine wpList_buildTo rfl 85 _ rfl _ rfl (allC noT noS noS) (by kernel_rfl) ?_)
  | (refine wpList_store_row rfl 85 _ _ rfl (w.heap.size + 1) (allC noT noS noS) (by rfl) (by rfl) 85 (allC noT noS noS) KR.out (infoAll' _ _ _) (by rfl) (allC_one _ _ _) ?_))
 generalize (((w).alloc (.cells (allC noT noS noS) 85)).alloc (.cells (allC noT noS noS) 85)).setRow (w.heap.size + 1) (allC noT noS noS) = w1 at *
 clear KR HZ1 HZ2
 go_loopw [6] (fun i wr => ∃ k : Nat, k ≤ 27 ∧ i = .int .i64 k ∧ Hid (Blk wr (w.heap.size + 1) (allC (lowT k (fun i j => j == asg c t i)) noS noS) 85) ∧ Hid (Blk wr w.heap.size (allC noT noS noS) 85) ∧ Hid (Below w.heap.size w wr)) (fun i _ => 27 - (intOf i).toNat)
 case atStart => exact ⟨0, by omega, rfl, by rw [lowT_zero]; exact K1, K0, HB⟩
 case round =>
  clear K0 K1 HB
  obtain ⟨k, hk, rfl, R1, R0, RB⟩ := hrel
  by_cases hlt : k < 27
  ·have HS := Lib.hid (lowT_step (T := fun i j => j == asg c t i) (L := noS) (K := noS) hlt)
   have A := fun w => Lib.hid (specAt0 k w (by omega) (by omega))
   have G := fun w => Lib.hid (HA k hlt w).out
   have hst := setSt (c := c) HT.out hlt
   have I := fun w => Lib.hid (specIx0 _ _ _ w hst)
   have hix := setIx (c := c) HT.out hlt
   have HIX := Lib.hid hix
   have HLT := Lib.hid (asg_lt (c := c) HT.out hlt)
   clear hst hix
   go_wp2_with fail
   refine (A _).out.mono ?_
   rintro e w2 ⟨rfl, hb⟩
   have B2 := Lib.hid (bnext RB.out hb)
   have P1 := Lib.hid (R1.out.kept hb)
   have P0 := Lib.hid (R0.out.kept hb)
   clear hb
   go_wp2_with fail
   refine (G _).out.mono ?_
   rintro e w3 ⟨rfl, hb⟩
   have B3 := Lib.hid (bnext B2.out hb)
   have P1 := Lib.hid (P1.out.kept hb)
   have P0 := Lib.hid (P0.out.kept hb)
   clear hb
   go_wp2_with fail
   refine (I _).out.mono ?_
   rintro e w4 ⟨rfl, hb⟩
   have B4 := Lib.hid (bnext B3.out hb)
   have P1 := Lib.hid (P1.out.kept hb)
   have P0 := Lib.hid (P0.out.kept hb)
   clear hb
   rw [HIX.out]
   have c0 : w4.cell? ⟨w.heap.size + 1, k, none⟩ = some (.int .i64 (nb 27 (lowT k (fun i j => j == asg c t i) k))) := (P1.out.cell k).trans (allC_get _ _ _ hlt)
   have c1 := P1.out.free k
   generalize hm : asg c t k = m at *
   have HM := Lib.hid hm
   clear hm
   go_wp2_with fail
   refine ⟨⟨k + 1, by omega, by go_num, ?_, P0.out.setOther (p := ⟨w.heap.size + 1, k, none⟩) (by show w.heap.size ≠ w.heap.size + 1; omega) _, B4.out.setCell (p := ⟨w.heap.size + 1, k, none⟩) (by show w.heap.size ≤ w.heap.size + 1; omega) _⟩, by simp [intOf]; omega⟩
   rw [shl_bit HLT.out, ← HS.out]
   exact P1.out.set k _
  ·have hk2 : k = 27 := by omega
   subst hk2
   have R1' := Lib.hid (show Blk wr (w.heap.size + 1) (allC (fun i j => j == asg c t i) noS noS) 85 from by have := R1.out; rwa [lowT_all] at this)
   clear R1
   go_wp2_with (first
    | (refine wpList_load_row rfl 85 _ rfl (w.heap.size + 1) (by rfl) 85 (allC (fun i j => j == asg c t i) noS noS) (0, 0) _ R1'.out undAll rfl (infoAll' _ _ _) ?_)
    | (refine wpList_store_row rfl 85 _ _ rfl (w.heap.size) (allC (fun i j => j == asg c t i) noS noS) (by rfl) (by rfl) 85 (allC noT noS noS) R0.out (infoAll' _ _ _) (by rw [allC_size, allC_size]) (allC_one _ _ _) ?_))
   refine bodyPost_ret (v := .agg (allC (fun i j => j == asg c t i) noS noS)) (results_cell_row rfl _ _ (w.heap.size) 85 _ (0, 0) _ (by rfl) (R0.out.row _) undAll rfl (infoAll' _ _ _)) rfl ⟨rfl, Below.setRow RB.out (by omega) _⟩
theorem built_two {l k : Int} {L K : Nat → Bool} (hl : l = (nb 27 L : Nat)) (hk : k = (nb 27 K : Nat)) : Tryz.prog.built 85 [(1, .int .i64 l), (2, .int .i64 k)] = some (allC noT L K) := by
 subst hl hk
 unfold allC
 generalize nb 27 L = a
 generalize nb 27 K = b
 kernel_rfl
def chT (F S : Nat → Bool) (A B : Nat → Nat → Bool) : Nat → Nat → Bool := fun i j => (A i j && F i) || (B i j && S i)
def chS (F S A B : Nat → Bool) : Nat → Bool := fun i => (A i && F i) || (B i && S i)
theorem s_ch (F S A B : Nat → Bool) : bits .or .i64 (bits .and .i64 (nb 27 A : Nat) (nb 27 F : Nat)) (bits .and .i64 (nb 27 B : Nat) (nb 27 S : Nat)) = (nb 27 (chS F S A B) : Nat) := by
 rw [s_and, s_and, s_or]; rfl
def nowT (k : Nat) (T : Nat → Nat → Bool) (X : Nat → Bool) : Nat → Nat → Bool := setT (lowT k T) k X
theorem allC_now (k : Nat) (T : Nat → Nat → Bool) (X : Nat → Bool) (L K : Nat → Bool) (h : k < 27) : (allC (nowT k T X) L K)[k]? = some (.int .i64 (nb 27 X)) := by
 rw [allC_get _ _ _ h]; simp [nowT, setT]
theorem now_set {k : Nat} {T : Nat → Nat → Bool} {X Y : Nat → Bool} {L K : Nat → Bool} (h : k < 27) : (allC (nowT k T X) L K).setIfInBounds k (.int .i64 (nb 27 Y)) = allC (nowT k T Y) L K := by
 rw [allC_setT h]
 congr 1
 funext i
 simp only [nowT, setT]
 split <;> rfl
theorem now_low {k : Nat} {T : Nat → Nat → Bool} {L K : Nat → Bool} : allC (lowT k T) L K = allC (nowT k T noS) L K := by
 refine allC_congr (fun i _ j _ => ?_) (fun _ _ => rfl) (fun _ _ => rfl)
 simp only [nowT, setT]
 split
 ·rename_i e; subst e; simp [lowT, noS]
 ·rfl
theorem now_done {k : Nat} {T : Nat → Nat → Bool} {X : Nat → Bool} {L K : Nat → Bool} (hX : ∀ j, j < 27 → X j = T k j) : allC (nowT k T X) L K = allC (lowT (k + 1) T) L K := by
 refine allC_congr (fun i _ j hj => ?_) (fun _ _ => rfl) (fun _ _ => rfl)
 simp only [nowT, setT]
 split
 ·rename_i e; subst e; simp [lowT, hX j hj]
 ·rename_i e
  unfold lowT
  by_cases h : i < k
  ·have h2 : i < k + 1 := by omega
   simp [h, h2]
  ·have h2 : ¬ i < k + 1 := by omega
   simp [h, h2]
theorem low0 {T : Nat → Nat → Bool} {L K : Nat → Bool} : allC (lowT 0 T) L K = allC noT L K := allC_congr (fun i _ j _ => by simp [lowT, noT]) (fun _ _ => rfl) (fun _ _ => rfl)
theorem Blk.as {w : World} {b : Nat} {c c' : Array Value} {t : TypeId} (h : Blk w b c t) (e : c = c') : Blk w b c' t := e ▸ h
set_option maxRecDepth 100000 in
set_option maxHeartbeats 4000000 in
theorem specChoose (A B : Nat → Nat → Bool) (La Ka Lb Kb F S : Nat → Bool) (w : World) : Calls Tryz.prog 160 #[.agg (allC A La Ka), .agg (allC B Lb Kb), .int .i64 (nb 27 F), .int .i64 (nb 27 S)] w (AllPost (chT F S A B) (chS F S La Lb) (chS F S Ka Kb) w) := by
 have CF := fun i hi w => Lib.hid (specInS F i hi w)
 have CS := fun i hi w => Lib.hid (specInS S i hi w)
 have z0 : w.heap.size = w.heap.size := rfl
 have hb0 := Below.refl w.heap.size w
 obtain ⟨z1, k0⟩ := al1 z0 (allC A La Ka) 85
 replace hb0 := Below.alloc hb0 (by omega) (.cells (allC A La Ka) 85)
 obtain ⟨z2, k1⟩ := al2 z1 (show w.heap.size + 2 = w.heap.size + 1 + 1 from rfl) (allC B Lb Kb) 85
 replace k0 := Blk.alloc k0 (.cells (allC B Lb Kb) 85)
 replace hb0 := Below.alloc hb0 (by omega) (.cells (allC B Lb Kb) 85)
 obtain ⟨z3, k2⟩ := al2 z2 (show w.heap.size + 3 = w.heap.size + 2 + 1 from rfl) (allC noT noS noS) 85
 replace k0 := Blk.alloc k0 (.cells (allC noT noS noS) 85)
 replace k1 := Blk.alloc k1 (.cells (allC noT noS noS) 85)
 replace hb0 := Below.alloc hb0 (by omega) (.cells (allC noT noS noS) 85)
 obtain ⟨z4, k3⟩ := al2 z3 (show w.heap.size + 4 = w.heap.size + 3 + 1 from rfl) (allC noT noS noS) 85
 replace k0 := Blk.alloc k0 (.cells (allC noT noS noS) 85)
 replace k1 := Blk.alloc k1 (.cells (allC noT noS noS) 85)
 replace k2 := Blk.alloc k2 (.cells (allC noT noS noS) 85)
 replace hb0 := Below.alloc hb0 (by omega) (.cells (allC noT noS noS) 85)
 have KR := Lib.hid k3
 replace k0 := Blk.rowOther k0 (g := w.heap.size + 3) (by omega) (allC noT (chS F S La Lb) (chS F S Ka Kb))
 replace k1 := Blk.rowOther k1 (g := w.heap.size + 3) (by omega) (allC noT (chS F S La Lb) (chS F S Ka Kb))
 replace k2 := Blk.rowOther k2 (g := w.heap.size + 3) (by omega) (allC noT (chS F S La Lb) (chS F S Ka Kb))
 replace k3 := Blk.row k3 (allC noT (chS F S La Lb) (chS F S Ka Kb))
 replace hb0 := Below.setRow hb0 (g := w.heap.size + 3) (by omega) (allC noT (chS F S La Lb) (chS F S Ka Kb))
 have K0 := Lib.hid k0
 have K1 := Lib.hid k1
 have K2 := Lib.hid k2
 have K3 := Lib.hid k3
 have HZ1 := Lib.hid z1
 have HZ2 := Lib.hid z2
 have HZ3 := Lib.hid z3
 have HZ4 := Lib.hid z4
 have HB := Lib.hid hb0
 clear hb0 z0 k0 k1 k2 k3 z1 z2 z3 z4
 have q0 : (((w.alloc (.cells (allC A La Ka) 85)).alloc (.cells (allC B Lb Kb) 85)).alloc (.cells (allC noT noS noS) 85)).cell? ⟨w.heap.size, 27, none⟩ = some (.int .i64 (nb 27 La)) := ((((Blk.new w _ 85).alloc _).alloc _).cell 27).trans (allC_L _ _ _)
 have q1 : (((w.alloc (.cells (allC A La Ka) 85)).alloc (.cells (allC B Lb Kb) 85)).alloc (.cells (allC noT noS noS) 85)).cell? ⟨w.heap.size, 28, none⟩ = some (.int .i64 (nb 27 Ka)) := ((((Blk.new w _ 85).alloc _).alloc _).cell 28).trans (allC_K _ _ _)
 have kb := (al1 HZ1.out (allC B Lb Kb) 85).2
 have q2 : (((w.alloc (.cells (allC A La Ka) 85)).alloc (.cells (allC B Lb Kb) 85)).alloc (.cells (allC noT noS noS) 85)).cell? ⟨w.heap.size + 1, 27, none⟩ = some (.int .i64 (nb 27 Lb)) := ((kb.alloc _).cell 27).trans (allC_L _ _ _)
 have q3 : (((w.alloc (.cells (allC A La Ka) 85)).alloc (.cells (allC B Lb Kb) 85)).alloc (.cells (allC noT noS noS) 85)).cell? ⟨w.heap.size + 1, 28, none⟩ = some (.int .i64 (nb 27 Kb)) := ((kb.alloc _).cell 28).trans (allC_K _ _ _)
 clear kb
 have hbt := built_two (s_ch F S La Lb) (s_ch F S Ka Kb)
 go_enter Tryz.func160, Tryz.ntmps160
 go_wp2_with (first
  | (refine wpList_boxTo rfl 85 _ rfl (some 4) rfl w.heap.size rfl (allC A La Ka) (by rfl) ?_)
  | (refine wpList_boxTo rfl 85 _ rfl (some 5) rfl (w.heap.size + 1) HZ1.out (allC B Lb Kb) (by rfl) ?_)
  | (refine ar_alloc rfl rfl (some 8) rfl (w.heap.size + 2) HZ2.out ?_)
  | (refine ar_alloc rfl rfl (some 9) rfl (w.heap.size + 3) HZ3.out ?_)
  | (refine wpList_buildTo rfl 85 _ rfl _ rfl (allC noT (chS F S La Lb) (chS F S Ka Kb)) (Eq.trans (by kernel_rfl) hbt) ?_)
  | (refine wpList_store_row rfl 85 _ _ rfl (w.heap.size + 3) (allC noT (chS F S La Lb) (chS F S Ka Kb)) (by rfl) (by rfl) 85 (allC noT noS noS) KR.out (infoAll' _ _ _) (by rw [allC_size, allC_size]) (allC_one _ _ _) ?_))
 clear q0 q1 q2 q3 hbt
 generalize (((((w).alloc (.cells (allC A La Ka) 85)).alloc (.cells (allC B Lb Kb) 85)).alloc (.cells (allC noT noS noS) 85)).alloc (.cells (allC noT noS noS) 85)).setRow (w.heap.size + 3) (allC noT (chS F S La Lb) (chS F S Ka Kb)) = w1 at *
 clear KR HZ1 HZ2 HZ3
 go_loopw [10] (fun i wr => ∃ k : Nat, k ≤ 27 ∧ i = .int .i64 k ∧ Hid (Blk wr (w.heap.size + 3) (allC (lowT k (chT F S A B)) (chS F S La Lb) (chS F S Ka Kb)) 85) ∧ Hid (Blk wr w.heap.size (allC A La Ka) 85) ∧ Hid (Blk wr (w.heap.size + 1) (allC B Lb Kb) 85) ∧ Hid (Blk wr (w.heap.size + 2) (allC noT noS noS) 85) ∧ Hid (Below w.heap.size w wr)) (fun i _ => 27 - (intOf i).toNat)
 case atStart => exact ⟨0, by omega, rfl, by rw [low0]; exact K3, K0, K1, K2, HB⟩
 case round =>
  clear K0 K1 K2 K3 HB
  obtain ⟨k, hk, rfl, RO, RA, RB, RZ, RW⟩ := hrel
  by_cases hlt : k < 27
  ·replace RO := Lib.hid (RO.out.as now_low)
   have DN := fun X h => now_done (k := k) (T := chT F S A B) (X := X) (L := chS F S La Lb) (K := chS F S Ka Kb) h
   have C1 := CF k hlt
   have C2 := CS k hlt
   cases hF : F k <;> cases hS : S k <;> rw [hF] at C1 <;> rw [hS] at C2
   ·go_wp2_with fail
    refine (C1 _).out.mono ?_
    rintro e w2 ⟨rfl, rfl⟩
    go_wp2_with fail
    refine (C2 _).out.mono ?_
    rintro e w2 ⟨rfl, rfl⟩
    go_wp2_with fail
    exact ⟨⟨k + 1, by omega, by go_num, Lib.hid (RO.out.as (DN _ (by simp [chT, hF, hS, noS]))), RA, RB, RZ, RW⟩, by simp [intOf]; omega⟩
   ·go_wp2_with fail
    refine (C1 _).out.mono ?_
    rintro e w2 ⟨rfl, rfl⟩
    go_wp2_with fail
    refine (C2 _).out.mono ?_
    rintro e w2 ⟨rfl, rfl⟩
    go_wp2_with fail
    have c0 : wr.cell? ⟨w.heap.size + 3, k, none⟩ = some (.int .i64 (nb 27 (noS))) := (RO.out.cell k).trans (allC_now _ _ _ _ _ hlt)
    have c1 := RO.out.free k
    have c2 : wr.cell? ⟨w.heap.size + 1, k, none⟩ = some (.int .i64 (nb 27 (B k))) := (RB.out.cell k).trans (allC_get _ _ _ hlt)
    go_region
    rw [s_or]
    clear c0 c1 c2
    replace RO := Lib.hid (((RO.out.set k (.int .i64 (nb 27 (fun i => (noS) i || B k i)))).as (now_set hlt)).drew)
    replace RA := Lib.hid ((RA.out.setOther (p := ⟨w.heap.size + 3, k, none⟩) (by show w.heap.size ≠ w.heap.size + 3; omega) (.int .i64 (nb 27 (fun i => (noS) i || B k i)))).drew)
    replace RB := Lib.hid ((RB.out.setOther (p := ⟨w.heap.size + 3, k, none⟩) (by show w.heap.size + 1 ≠ w.heap.size + 3; omega) (.int .i64 (nb 27 (fun i => (noS) i || B k i)))).drew)
    replace RZ := Lib.hid ((RZ.out.setOther (p := ⟨w.heap.size + 3, k, none⟩) (by show w.heap.size + 2 ≠ w.heap.size + 3; omega) (.int .i64 (nb 27 (fun i => (noS) i || B k i)))).drew)
    replace RW := Lib.hid ((RW.out.setCell (p := ⟨w.heap.size + 3, k, none⟩) (by show w.heap.size ≤ w.heap.size + 3; omega) (.int .i64 (nb 27 (fun i => (noS) i || B k i)))).drew)
    generalize World.drew _ = wr1 at *
    go_wp2_with fail
    exact ⟨⟨k + 1, by omega, by go_num, Lib.hid (RO.out.as (DN _ (by simp [chT, hF, hS, noS]))), RA, RB, RZ, RW⟩, by simp [intOf]; omega⟩
   ·go_wp2_with fail
    refine (C1 _).out.mono ?_
    rintro e w2 ⟨rfl, rfl⟩
    go_wp2_with fail
    have c0 : wr.cell? ⟨w.heap.size + 3, k, none⟩ = some (.int .i64 (nb 27 (noS))) := (RO.out.cell k).trans (allC_now _ _ _ _ _ hlt)
    have c1 := RO.out.free k
    have c2 : wr.cell? ⟨w.heap.size, k, none⟩ = some (.int .i64 (nb 27 (A k))) := (RA.out.cell k).trans (allC_get _ _ _ hlt)
    go_region
    rw [s_or]
    clear c0 c1 c2
    replace RO := Lib.hid (((RO.out.set k (.int .i64 (nb 27 (fun i => (noS) i || A k i)))).as (now_set hlt)).drew)
    replace RA := Lib.hid ((RA.out.setOther (p := ⟨w.heap.size + 3, k, none⟩) (by show w.heap.size ≠ w.heap.size + 3; omega) (.int .i64 (nb 27 (fun i => (noS) i || A k i)))).drew)
    replace RB := Lib.hid ((RB.out.setOther (p := ⟨w.heap.size + 3, k, none⟩) (by show w.heap.size + 1 ≠ w.heap.size + 3; omega) (.int .i64 (nb 27 (fun i => (noS) i || A k i)))).drew)
    replace RZ := Lib.hid ((RZ.out.setOther (p := ⟨w.heap.size + 3, k, none⟩) (by show w.heap.size + 2 ≠ w.heap.size + 3; omega) (.int .i64 (nb 27 (fun i => (noS) i || A k i)))).drew)
    replace RW := Lib.hid ((RW.out.setCell (p := ⟨w.heap.size + 3, k, none⟩) (by show w.heap.size ≤ w.heap.size + 3; omega) (.int .i64 (nb 27 (fun i => (noS) i || A k i)))).drew)
    generalize World.drew _ = wr1 at *
    go_wp2_with fail
    refine (C2 _).out.mono ?_
    rintro e w2 ⟨rfl, rfl⟩
    go_wp2_with fail
    exact ⟨⟨k + 1, by omega, by go_num, Lib.hid (RO.out.as (DN _ (by simp [chT, hF, hS, noS]))), RA, RB, RZ, RW⟩, by simp [intOf]; omega⟩
   ·go_wp2_with fail
    refine (C1 _).out.mono ?_
    rintro e w2 ⟨rfl, rfl⟩
    go_wp2_with fail
    have c0 : wr.cell? ⟨w.heap.size + 3, k, none⟩ = some (.int .i64 (nb 27 (noS))) := (RO.out.cell k).trans (allC_now _ _ _ _ _ hlt)
    have c1 := RO.out.free k
    have c2 : wr.cell? ⟨w.heap.size, k, none⟩ = some (.int .i64 (nb 27 (A k))) := (RA.out.cell k).trans (allC_get _ _ _ hlt)
    go_region
    rw [s_or]
    clear c0 c1 c2
    replace RO := Lib.hid (((RO.out.set k (.int .i64 (nb 27 (fun i => (noS) i || A k i)))).as (now_set hlt)).drew)
    replace RA := Lib.hid ((RA.out.setOther (p := ⟨w.heap.size + 3, k, none⟩) (by show w.heap.size ≠ w.heap.size + 3; omega) (.int .i64 (nb 27 (fun i => (noS) i || A k i)))).drew)
    replace RB := Lib.hid ((RB.out.setOther (p := ⟨w.heap.size + 3, k, none⟩) (by show w.heap.size + 1 ≠ w.heap.size + 3; omega) (.int .i64 (nb 27 (fun i => (noS) i || A k i)))).drew)
    replace RZ := Lib.hid ((RZ.out.setOther (p := ⟨w.heap.size + 3, k, none⟩) (by show w.heap.size + 2 ≠ w.heap.size + 3; omega) (.int .i64 (nb 27 (fun i => (noS) i || A k i)))).drew)
    replace RW := Lib.hid ((RW.out.setCell (p := ⟨w.heap.size + 3, k, none⟩) (by show w.heap.size ≤ w.heap.size + 3; omega) (.int .i64 (nb 27 (fun i => (noS) i || A k i)))).drew)
    generalize World.drew _ = wr1 at *
    go_wp2_with fail
    refine (C2 _).out.mono ?_
    rintro e w2 ⟨rfl, rfl⟩
    go_wp2_with fail
    have c0 : wr1.cell? ⟨w.heap.size + 3, k, none⟩ = some (.int .i64 (nb 27 (fun i => (noS) i || A k i))) := (RO.out.cell k).trans (allC_now _ _ _ _ _ hlt)
    have c1 := RO.out.free k
    have c2 : wr1.cell? ⟨w.heap.size + 1, k, none⟩ = some (.int .i64 (nb 27 (B k))) := (RB.out.cell k).trans (allC_get _ _ _ hlt)
    go_region
    rw [s_or]
    clear c0 c1 c2
    replace RO := Lib.hid (((RO.out.set k (.int .i64 (nb 27 (fun i => (fun i => (noS) i || A k i) i || B k i)))).as (now_set hlt)).drew)
    replace RA := Lib.hid ((RA.out.setOther (p := ⟨w.heap.size + 3, k, none⟩) (by show w.heap.size ≠ w.heap.size + 3; omega) (.int .i64 (nb 27 (fun i => (fun i => (noS) i || A k i) i || B k i)))).drew)
    replace RB := Lib.hid ((RB.out.setOther (p := ⟨w.heap.size + 3, k, none⟩) (by show w.heap.size + 1 ≠ w.heap.size + 3; omega) (.int .i64 (nb 27 (fun i => (fun i => (noS) i || A k i) i || B k i)))).drew)
    replace RZ := Lib.hid ((RZ.out.setOther (p := ⟨w.heap.size + 3, k, none⟩) (by show w.heap.size + 2 ≠ w.heap.size + 3; omega) (.int .i64 (nb 27 (fun i => (fun i => (noS) i || A k i) i || B k i)))).drew)
    replace RW := Lib.hid ((RW.out.setCell (p := ⟨w.heap.size + 3, k, none⟩) (by show w.heap.size ≤ w.heap.size + 3; omega) (.int .i64 (nb 27 (fun i => (fun i => (noS) i || A k i) i || B k i)))).drew)
    generalize World.drew _ = wr2 at *
    go_wp2_with fail
    exact ⟨⟨k + 1, by omega, by go_num, Lib.hid (RO.out.as (DN _ (by simp [chT, hF, hS, noS]))), RA, RB, RZ, RW⟩, by simp [intOf]; omega⟩
  ·have hk2 : k = 27 := by omega
   subst hk2
   replace RO := Lib.hid (RO.out.as lowT_all)
   go_wp2_with (first
    | (refine wpList_load_row rfl 85 _ rfl (w.heap.size + 3) (by rfl) 85 (allC (chT F S A B) (chS F S La Lb) (chS F S Ka Kb)) (0, 0) _ RO.out undAll rfl (infoAll' _ _ _) ?_)
    | (refine wpList_store_row rfl 85 _ _ rfl (w.heap.size + 2) (allC (chT F S A B) (chS F S La Lb) (chS F S Ka Kb)) (by rfl) (by rfl) 85 (allC noT noS noS) RZ.out (infoAll' _ _ _) (by rw [allC_size, allC_size]) (allC_one _ _ _) ?_))
   refine bodyPost_ret (v := .agg (allC (chT F S A B) (chS F S La Lb) (chS F S Ka Kb))) (results_cell_row rfl _ _ (w.heap.size + 2) 85 _ (0, 0) _ (by rfl) (RZ.out.row _) undAll rfl (infoAll' _ _ _)) rfl ⟨rfl, Below.setRow RW.out (by omega) _⟩
def upto (m : Nat) (p : Nat → Bool) : Bool := (List.range m).any p
theorem upto_zero (p : Nat → Bool) : upto 0 p = false := rfl
theorem upto_succ (m : Nat) (p : Nat → Bool) : upto (m + 1) p = (upto m p || p m) := by
 unfold upto; rw [List.range_succ, List.any_append]; simp
theorem upto_iff {m : Nat} {p : Nat → Bool} : upto m p = true ↔ ∃ q, q < m ∧ p q = true := by
 unfold upto; simp
def sqT (A B : Nat → Nat → Bool) : Nat → Nat → Bool := fun i j => upto 27 (fun q => A i q && B q j)
def sqS (A : Nat → Nat → Bool) (L La : Nat → Bool) : Nat → Bool := fun i => La i || upto 27 (fun q => A i q && L q)
def lowS (k : Nat) (L La : Nat → Bool) : Nat → Bool := fun i => if i < k then L i else La i
def nowS (k : Nat) (L La : Nat → Bool) (x : Bool) : Nat → Bool := fun i => if i < k then L i else if i = k then x else La i
theorem nowS_set (k : Nat) (L La : Nat → Bool) (x : Bool) : (fun i => nowS k L La x i || i == k) = nowS k L La true := by
 funext i
 unfold nowS
 by_cases h : i = k
 ·subst h; simp
 ·rw [if_neg h, if_neg h]; simp [h]
theorem or_bit {k : Nat} (hk : k < 27) (L La : Nat → Bool) (x : Bool) : bits .or .i64 (nb 27 (nowS k L La x) : Nat) (wrap64 ((2 : Int) ^ k)) = (nb 27 (nowS k L La true) : Nat) := by
 rw [wrap_bit hk, s_or, ← nowS_set k L La x]
theorem nowS_start (k : Nat) (L La : Nat → Bool) : lowS k L La = nowS k L La (La k) := by
 funext i
 unfold nowS lowS
 split
 ·rfl
 ·split
  ·rename_i e; rw [e]
  ·rfl
theorem nowS_end (k : Nat) (L La : Nat → Bool) (x : Bool) (h : x = L k) : nowS k L La x = lowS (k + 1) L La := by
 funext i
 unfold nowS lowS
 by_cases h1 : i < k
 ·rw [if_pos h1, if_pos (by omega)]
 ·by_cases h2 : i = k
  ·subst h2; rw [if_neg h1, if_pos rfl, if_pos (by omega), h]
  ·rw [if_neg h1, if_neg h2, if_neg (by omega)]
theorem lowS_zero (L La : Nat → Bool) : lowS 0 L La = La := by funext i; unfold lowS; simp
theorem lowS_all {T : Nat → Nat → Bool} {L La K Ka : Nat → Bool} : allC (lowT 27 T) (lowS 27 L La) (lowS 27 K Ka) = allC T L K :=
 allC_congr (fun i hi j _ => by simp [lowT, hi]) (fun i hi => by simp [lowS, hi]) (fun i hi => by simp [lowS, hi])
theorem seq_start (k : Nat) (A B : Nat → Nat → Bool) (La Ka Lb Kb : Nat → Bool) : allC (lowT k (sqT A B)) (lowS k (sqS A Lb La) La) (lowS k (sqS A Kb Ka) Ka) = allC (nowT k (sqT A B) (fun j => upto 0 (fun q => A k q && B q j))) (nowS k (sqS A Lb La) La (La k || upto 0 (fun q => A k q && Lb q))) (nowS k (sqS A Kb Ka) Ka (Ka k || upto 0 (fun q => A k q && Kb q))) := by
 rw [now_low, nowS_start, nowS_start]
 simp only [upto_zero, Bool.or_false]
 rfl
theorem seq_end (k : Nat) (A B : Nat → Nat → Bool) (La Ka Lb Kb : Nat → Bool) : allC (nowT k (sqT A B) (fun j => upto 27 (fun q => A k q && B q j))) (nowS k (sqS A Lb La) La (La k || upto 27 (fun q => A k q && Lb q))) (nowS k (sqS A Kb Ka) Ka (Ka k || upto 27 (fun q => A k q && Kb q))) = allC (lowT (k + 1) (sqT A B)) (lowS (k + 1) (sqS A Lb La) La) (lowS (k + 1) (sqS A Kb Ka) Ka) := by
 rw [nowS_end k (sqS A Lb La) La (La k || upto 27 (fun q => A k q && Lb q)) rfl, nowS_end k (sqS A Kb Ka) Ka (Ka k || upto 27 (fun q => A k q && Kb q)) rfl]
 exact now_done (fun _ _ => rfl)
set_option maxRecDepth 100000 in
set_option maxHeartbeats 4000000 in
theorem specSeq (A B : Nat → Nat → Bool) (La Ka Lb Kb : Nat → Bool) (w : World) : Calls Tryz.prog 98 #[.agg (allC A La Ka), .agg (allC B Lb Kb)] w (AllPost (sqT A B) (sqS A Lb La) (sqS A Kb Ka) w) := by
 have CA := fun k i hi w => Lib.hid (specInS (A k) i hi w)
 have CL := fun i hi w => Lib.hid (specInS Lb i hi w)
 have CK := fun i hi w => Lib.hid (specInS Kb i hi w)
 have z0 : w.heap.size = w.heap.size := rfl
 have hb0 := Below.refl w.heap.size w
 obtain ⟨z1, k0⟩ := al1 z0 (allC A La Ka) 85
 replace hb0 := Below.alloc hb0 (by omega) (.cells (allC A La Ka) 85)
 obtain ⟨z2, k1⟩ := al2 z1 (show w.heap.size + 2 = w.heap.size + 1 + 1 from rfl) (allC B Lb Kb) 85
 replace k0 := Blk.alloc k0 (.cells (allC B Lb Kb) 85)
 replace hb0 := Below.alloc hb0 (by omega) (.cells (allC B Lb Kb) 85)
 obtain ⟨z3, k2⟩ := al2 z2 (show w.heap.size + 3 = w.heap.size + 2 + 1 from rfl) (allC noT noS noS) 85
 replace k0 := Blk.alloc k0 (.cells (allC noT noS noS) 85)
 replace k1 := Blk.alloc k1 (.cells (allC noT noS noS) 85)
 replace hb0 := Below.alloc hb0 (by omega) (.cells (allC noT noS noS) 85)
 obtain ⟨z4, k3⟩ := al2 z3 (show w.heap.size + 4 = w.heap.size + 3 + 1 from rfl) (allC noT noS noS) 85
 replace k0 := Blk.alloc k0 (.cells (allC noT noS noS) 85)
 replace k1 := Blk.alloc k1 (.cells (allC noT noS noS) 85)
 replace k2 := Blk.alloc k2 (.cells (allC noT noS noS) 85)
 replace hb0 := Below.alloc hb0 (by omega) (.cells (allC noT noS noS) 85)
 have KR := Lib.hid k3
 replace k0 := Blk.rowOther k0 (g := w.heap.size + 3) (by omega) (allC noT La Ka)
 replace k1 := Blk.rowOther k1 (g := w.heap.size + 3) (by omega) (allC noT La Ka)
 replace k2 := Blk.rowOther k2 (g := w.heap.size + 3) (by omega) (allC noT La Ka)
 replace k3 := Blk.row k3 (allC noT La Ka)
 replace hb0 := Below.setRow hb0 (g := w.heap.size + 3) (by omega) (allC noT La Ka)
 have K0 := Lib.hid k0
 have K1 := Lib.hid k1
 have K2 := Lib.hid k2
 have K3 := Lib.hid k3
 have HZ1 := Lib.hid z1
 have HZ2 := Lib.hid z2
 have HZ3 := Lib.hid z3
 have HZ4 := Lib.hid z4
 have HB := Lib.hid hb0
 clear hb0 z0 k0 k1 k2 k3 z1 z2 z3 z4
 have q0 : (((w.alloc (.cells (allC A La Ka) 85)).alloc (.cells (allC B Lb Kb) 85)).alloc (.cells (allC noT noS noS) 85)).cell? ⟨w.heap.size, 27, none⟩ = some (.int .i64 (nb 27 La)) := ((((Blk.new w _ 85).alloc _).alloc _).cell 27).trans (allC_L _ _ _)
 have q1 : (((w.alloc (.cells (allC A La Ka) 85)).alloc (.cells (allC B Lb Kb) 85)).alloc (.cells (allC noT noS noS) 85)).cell? ⟨w.heap.size, 28, none⟩ = some (.int .i64 (nb 27 Ka)) := ((((Blk.new w _ 85).alloc _).alloc _).cell 28).trans (allC_K _ _ _)
 have hbt := built_two (l := (nb 27 La : Nat)) (k := (nb 27 Ka : Nat)) rfl rfl
 go_enter Tryz.func98, Tryz.ntmps98
 go_wp2_with (first
  | (refine wpList_boxTo rfl 85 _ rfl (some 2) rfl w.heap.size rfl (allC A La Ka) (by rfl) ?_)
  | (refine wpList_boxTo rfl 85 _ rfl (some 3) rfl (w.heap.size + 1) HZ1.out (allC B Lb Kb) (by rfl) ?_)
  | (refine ar_alloc rfl rfl (some 4) rfl (w.heap.size + 2) HZ2.out ?_)
  | (refine ar_alloc rfl rfl (some 5) rfl (w.heap.size + 3) HZ3.out ?_)
  | (refine wpList_buildTo rfl 85 _ rfl _ rfl (allC noT La Ka) (Eq.trans (by kernel_rfl) hbt) ?_)
  | (refine wpList_store_row rfl 85 _ _ rfl (w.heap.size + 3) (allC noT La Ka) (by rfl) (by rfl) 85 (allC noT noS noS) KR.out (infoAll' _ _ _) (by rw [allC_size, allC_size]) (allC_one _ _ _) ?_))
 clear q0 q1 hbt
 generalize (((((w).alloc (.cells (allC A La Ka) 85)).alloc (.cells (allC B Lb Kb) 85)).alloc (.cells (allC noT noS noS) 85)).alloc (.cells (allC noT noS noS) 85)).setRow (w.heap.size + 3) (allC noT La Ka) = w1 at *
 clear KR HZ1 HZ2 HZ3 HZ4
 go_loopw [6, 7] (fun i _ wr => ∃ k : Nat, k ≤ 27 ∧ i = .int .i64 k ∧ Hid (Blk wr (w.heap.size + 3) (allC (lowT k (sqT A B)) (lowS k (sqS A Lb La) La) (lowS k (sqS A Kb Ka) Ka)) 85) ∧ Hid (Blk wr w.heap.size (allC A La Ka) 85) ∧ Hid (Blk wr (w.heap.size + 1) (allC B Lb Kb) 85) ∧ Hid (Blk wr (w.heap.size + 2) (allC noT noS noS) 85) ∧ Hid (Below w.heap.size w wr)) (fun i _ _ => 27 - (intOf i).toNat)
 case atStart => exact ⟨0, by omega, rfl, by rw [low0, lowS_zero, lowS_zero]; exact K3, K0, K1, K2, HB⟩
 case round =>
  clear K0 K1 K2 K3 HB
  obtain ⟨k, hk, rfl, RO, RA, RB, RZ, RW⟩ := hrel
  by_cases hlt : k < 27
  ·replace RO := Lib.hid (RO.out.as (seq_start _ _ _ _ _ _ _))
   have HE := Lib.hid (seq_end k A B La Ka Lb Kb)
   have C1 := CA k
   go_wp2_with fail
   simp only [show decide ((k : Int) < 27) = true from decide_eq_true (by omega)]
   go_loopw [7] (fun i wr => ∃ m : Nat, m ≤ 27 ∧ i = .int .i64 m ∧ Hid (Blk wr (w.heap.size + 3) (allC (nowT k (sqT A B) (fun j => upto m (fun q => A k q && B q j))) (nowS k (sqS A Lb La) La (La k || upto m (fun q => A k q && Lb q))) (nowS k (sqS A Kb Ka) Ka (Ka k || upto m (fun q => A k q && Kb q)))) 85) ∧ Hid (Blk wr w.heap.size (allC A La Ka) 85) ∧ Hid (Blk wr (w.heap.size + 1) (allC B Lb Kb) 85) ∧ Hid (Blk wr (w.heap.size + 2) (allC noT noS noS) 85) ∧ Hid (Below w.heap.size w wr)) (fun i _ => 27 - (intOf i).toNat)
   case atStart => exact ⟨0, by omega, rfl, RO, RA, RB, RZ, RW⟩
   case round =>
    clear RO RA RB RZ RW
    obtain ⟨m, hm, rfl, RO, RA, RB, RZ, RW⟩ := hrel
    by_cases hlm : m < 27
    ·have D1 := C1 m hlm
     have D2 := CL m hlm
     have D3 := CK m hlm
     have a0 := (RA.out.cell k).trans (allC_get _ _ _ hlt)
     have uT : ∀ j, upto (m + 1) (fun q => A k q && B q j) = (upto m (fun q => A k q && B q j) || (A k m && B m j)) := fun j => upto_succ _ _
     have uL := upto_succ m (fun q => A k q && Lb q)
     have uK := upto_succ m (fun q => A k q && Kb q)
     have UU := Lib.hid (And.intro uT (And.intro uL uK))
     clear uT uL uK
     go_wp2_with fail
     clear a0
     cases hA : A k m
     ·rw [hA] at D1
      refine (D1 _).out.mono ?_
      rintro e w2 ⟨rfl, rfl⟩
      go_wp2_with fail
      exact ⟨⟨m + 1, by omega, by go_num, Lib.hid (RO.out.as (allC_congr (fun i _ j _ => by simp only [UU.out.1, hA, Bool.false_and, Bool.or_false]) (fun i _ => by simp only [UU.out.2.1, hA, Bool.false_and, Bool.or_false]) (fun i _ => by simp only [UU.out.2.2, hA, Bool.false_and, Bool.or_false]))), RA, RB, RZ, RW⟩, by simp [intOf]; omega⟩
     ·rw [hA] at D1
      refine (D1 _).out.mono ?_
      rintro e w2 ⟨rfl, rfl⟩
      go_wp2_with fail
      have c0 := (RO.out.cell k).trans (allC_now _ _ _ _ _ hlt)
      have c1 := RO.out.free k
      have c2 := (RB.out.cell m).trans (allC_get _ _ _ hlm)
      go_region
      rw [s_or]
      clear c0 c1 c2
      replace RO := Lib.hid ((((RO.out.set k (.int .i64 (nb 27 (fun i => (fun j => upto m (fun q => A k q && B q j)) i || B m i)))).as (now_set hlt))).drew)
      replace RA := Lib.hid (((RA.out.setOther (p := ⟨w.heap.size + 3, k, none⟩) (by show w.heap.size ≠ w.heap.size + 3; omega) (.int .i64 (nb 27 (fun i => (fun j => upto m (fun q => A k q && B q j)) i || B m i))))).drew)
      replace RB := Lib.hid (((RB.out.setOther (p := ⟨w.heap.size + 3, k, none⟩) (by show w.heap.size + 1 ≠ w.heap.size + 3; omega) (.int .i64 (nb 27 (fun i => (fun j => upto m (fun q => A k q && B q j)) i || B m i))))).drew)
      replace RZ := Lib.hid (((RZ.out.setOther (p := ⟨w.heap.size + 3, k, none⟩) (by show w.heap.size + 2 ≠ w.heap.size + 3; omega) (.int .i64 (nb 27 (fun i => (fun j => upto m (fun q => A k q && B q j)) i || B m i))))).drew)
      replace RW := Lib.hid (((RW.out.setCell (p := ⟨w.heap.size + 3, k, none⟩) (by show w.heap.size ≤ w.heap.size + 3; omega) (.int .i64 (nb 27 (fun i => (fun j => upto m (fun q => A k q && B q j)) i || B m i))))).drew)
      generalize World.drew _ = wr1 at *
      have d0 := (RB.out.cell 27).trans (allC_L _ _ _)
      have d1 := (RB.out.cell 28).trans (allC_K _ _ _)
      go_wp2_with fail
      cases hL : Lb m <;> cases hK : Kb m
      ·rw [hL] at D2
       rw [hK] at D3
       refine (D2 _).out.mono ?_
       rintro e w2 ⟨rfl, rfl⟩
       go_wp2_with fail
       clear d0 d1
       refine (D3 _).out.mono ?_
       rintro e w2 ⟨rfl, rfl⟩
       go_wp2_with fail
       refine ⟨⟨m + 1, by omega, by go_num, Lib.hid (RO.out.as (allC_congr (fun i _ j _ => ?_) (fun i _ => ?_) (fun i _ => ?_))), RA, RB, RZ, RW⟩, by simp [intOf]; omega⟩
       ·simp only [UU.out.1, hA, Bool.true_and]
       ·simp only [UU.out.2.1, hA, hL, Bool.and_false, Bool.or_false]
       ·simp only [UU.out.2.2, hA, hK, Bool.and_false, Bool.or_false]
      ·rw [hL] at D2
       rw [hK] at D3
       refine (D2 _).out.mono ?_
       rintro e w2 ⟨rfl, rfl⟩
       go_wp2_with fail
       clear d0 d1
       refine (D3 _).out.mono ?_
       rintro e w2 ⟨rfl, rfl⟩
       have e0 := (RO.out.cell 28).trans (allC_K _ _ _)
       have e1 := RO.out.free 28
       go_wp2_with fail
       clear e0 e1
       rw [or_bit hlt]
       replace RO := Lib.hid ((((RO.out.set 28 (.int .i64 (nb 27 (nowS k (sqS A Kb Ka) Ka true)))).as (allC_setK))))
       replace RA := Lib.hid (((RA.out.setOther (p := ⟨w.heap.size + 3, 28, none⟩) (by show w.heap.size ≠ w.heap.size + 3; omega) (.int .i64 (nb 27 (nowS k (sqS A Kb Ka) Ka true))))))
       replace RB := Lib.hid (((RB.out.setOther (p := ⟨w.heap.size + 3, 28, none⟩) (by show w.heap.size + 1 ≠ w.heap.size + 3; omega) (.int .i64 (nb 27 (nowS k (sqS A Kb Ka) Ka true))))))
       replace RZ := Lib.hid (((RZ.out.setOther (p := ⟨w.heap.size + 3, 28, none⟩) (by show w.heap.size + 2 ≠ w.heap.size + 3; omega) (.int .i64 (nb 27 (nowS k (sqS A Kb Ka) Ka true))))))
       replace RW := Lib.hid (((RW.out.setCell (p := ⟨w.heap.size + 3, 28, none⟩) (by show w.heap.size ≤ w.heap.size + 3; omega) (.int .i64 (nb 27 (nowS k (sqS A Kb Ka) Ka true))))))
       refine ⟨⟨m + 1, by omega, by go_num, Lib.hid (RO.out.as (allC_congr (fun i _ j _ => ?_) (fun i _ => ?_) (fun i _ => ?_))), RA, RB, RZ, RW⟩, by simp [intOf]; omega⟩
       ·simp only [UU.out.1, hA, Bool.true_and]
       ·simp only [UU.out.2.1, hA, hL, Bool.and_false, Bool.or_false]
       ·simp only [UU.out.2.2, hA, hK, Bool.and_self, Bool.or_true]
      ·rw [hL] at D2
       rw [hK] at D3
       refine (D2 _).out.mono ?_
       rintro e w2 ⟨rfl, rfl⟩
       have e0 := (RO.out.cell 27).trans (allC_L _ _ _)
       have e1 := RO.out.free 27
       go_wp2_with fail
       clear e0 e1
       rw [or_bit hlt]
       replace RO := Lib.hid ((((RO.out.set 27 (.int .i64 (nb 27 (nowS k (sqS A Lb La) La true)))).as (allC_setL))))
       replace RA := Lib.hid (((RA.out.setOther (p := ⟨w.heap.size + 3, 27, none⟩) (by show w.heap.size ≠ w.heap.size + 3; omega) (.int .i64 (nb 27 (nowS k (sqS A Lb La) La true))))))
       replace RB := Lib.hid (((RB.out.setOther (p := ⟨w.heap.size + 3, 27, none⟩) (by show w.heap.size + 1 ≠ w.heap.size + 3; omega) (.int .i64 (nb 27 (nowS k (sqS A Lb La) La true))))))
       replace RZ := Lib.hid (((RZ.out.setOther (p := ⟨w.heap.size + 3, 27, none⟩) (by show w.heap.size + 2 ≠ w.heap.size + 3; omega) (.int .i64 (nb 27 (nowS k (sqS A Lb La) La true))))))
       replace RW := Lib.hid (((RW.out.setCell (p := ⟨w.heap.size + 3, 27, none⟩) (by show w.heap.size ≤ w.heap.size + 3; omega) (.int .i64 (nb 27 (nowS k (sqS A Lb La) La true))))))
       clear d0 d1
       generalize World.setCell _ _ _ = wr2 at *
       refine (D3 _).out.mono ?_
       rintro e w2 ⟨rfl, rfl⟩
       go_wp2_with fail
       refine ⟨⟨m + 1, by omega, by go_num, Lib.hid (RO.out.as (allC_congr (fun i _ j _ => ?_) (fun i _ => ?_) (fun i _ => ?_))), RA, RB, RZ, RW⟩, by simp [intOf]; omega⟩
       ·simp only [UU.out.1, hA, Bool.true_and]
       ·simp only [UU.out.2.1, hA, hL, Bool.and_self, Bool.or_true]
       ·simp only [UU.out.2.2, hA, hK, Bool.and_false, Bool.or_false]
      ·rw [hL] at D2
       rw [hK] at D3
       refine (D2 _).out.mono ?_
       rintro e w2 ⟨rfl, rfl⟩
       have e0 := (RO.out.cell 27).trans (allC_L _ _ _)
       have e1 := RO.out.free 27
       go_wp2_with fail
       clear e0 e1
       rw [or_bit hlt]
       replace RO := Lib.hid ((((RO.out.set 27 (.int .i64 (nb 27 (nowS k (sqS A Lb La) La true)))).as (allC_setL))))
       replace RA := Lib.hid (((RA.out.setOther (p := ⟨w.heap.size + 3, 27, none⟩) (by show w.heap.size ≠ w.heap.size + 3; omega) (.int .i64 (nb 27 (nowS k (sqS A Lb La) La true))))))
       replace RB := Lib.hid (((RB.out.setOther (p := ⟨w.heap.size + 3, 27, none⟩) (by show w.heap.size + 1 ≠ w.heap.size + 3; omega) (.int .i64 (nb 27 (nowS k (sqS A Lb La) La true))))))
       replace RZ := Lib.hid (((RZ.out.setOther (p := ⟨w.heap.size + 3, 27, none⟩) (by show w.heap.size + 2 ≠ w.heap.size + 3; omega) (.int .i64 (nb 27 (nowS k (sqS A Lb La) La true))))))
       replace RW := Lib.hid (((RW.out.setCell (p := ⟨w.heap.size + 3, 27, none⟩) (by show w.heap.size ≤ w.heap.size + 3; omega) (.int .i64 (nb 27 (nowS k (sqS A Lb La) La true))))))
       clear d0 d1
       generalize World.setCell _ _ _ = wr2 at *
       refine (D3 _).out.mono ?_
       rintro e w2 ⟨rfl, rfl⟩
       have e0 := (RO.out.cell 28).trans (allC_K _ _ _)
       have e1 := RO.out.free 28
       go_wp2_with fail
       clear e0 e1
       rw [or_bit hlt]
       replace RO := Lib.hid ((((RO.out.set 28 (.int .i64 (nb 27 (nowS k (sqS A Kb Ka) Ka true)))).as (allC_setK))))
       replace RA := Lib.hid (((RA.out.setOther (p := ⟨w.heap.size + 3, 28, none⟩) (by show w.heap.size ≠ w.heap.size + 3; omega) (.int .i64 (nb 27 (nowS k (sqS A Kb Ka) Ka true))))))
       replace RB := Lib.hid (((RB.out.setOther (p := ⟨w.heap.size + 3, 28, none⟩) (by show w.heap.size + 1 ≠ w.heap.size + 3; omega) (.int .i64 (nb 27 (nowS k (sqS A Kb Ka) Ka true))))))
       replace RZ := Lib.hid (((RZ.out.setOther (p := ⟨w.heap.size + 3, 28, none⟩) (by show w.heap.size + 2 ≠ w.heap.size + 3; omega) (.int .i64 (nb 27 (nowS k (sqS A Kb Ka) Ka true))))))
       replace RW := Lib.hid (((RW.out.setCell (p := ⟨w.heap.size + 3, 28, none⟩) (by show w.heap.size ≤ w.heap.size + 3; omega) (.int .i64 (nb 27 (nowS k (sqS A Kb Ka) Ka true))))))
       refine ⟨⟨m + 1, by omega, by go_num, Lib.hid (RO.out.as (allC_congr (fun i _ j _ => ?_) (fun i _ => ?_) (fun i _ => ?_))), RA, RB, RZ, RW⟩, by simp [intOf]; omega⟩
       ·simp only [UU.out.1, hA, Bool.true_and]
       ·simp only [UU.out.2.1, hA, hL, Bool.and_self, Bool.or_true]
       ·simp only [UU.out.2.2, hA, hK, Bool.and_self, Bool.or_true]
    ·have hm2 : m = 27 := by omega
     subst hm2
     replace RO := Lib.hid (RO.out.as HE.out)
     go_wp2_with fail
     exact ⟨⟨k + 1, by omega, by go_num, RO, RA, RB, RZ, RW⟩, by simp [intOf]; omega⟩
  ·have hk2 : k = 27 := by omega
   subst hk2
   replace RO := Lib.hid (RO.out.as lowS_all)
   go_wp2_with (first
    | (refine wpList_load_row rfl 85 _ rfl (w.heap.size + 3) (by rfl) 85 (allC (sqT A B) (sqS A Lb La) (sqS A Kb Ka)) (0, 0) _ RO.out undAll rfl (infoAll' _ _ _) ?_)
    | (refine wpList_store_row rfl 85 _ _ rfl (w.heap.size + 2) (allC (sqT A B) (sqS A Lb La) (sqS A Kb Ka)) (by rfl) (by rfl) 85 (allC noT noS noS) RZ.out (infoAll' _ _ _) (by rw [allC_size, allC_size]) (allC_one _ _ _) ?_))
   refine bodyPost_ret (v := .agg (allC (sqT A B) (sqS A Lb La) (sqS A Kb Ka))) (results_cell_row rfl _ _ (w.heap.size + 2) 85 _ (0, 0) _ (by rfl) (RZ.out.row _) undAll rfl (infoAll' _ _ _)) rfl ⟨rfl, Below.setRow RW.out (by omega) _⟩
end Go.Proofs.YtgkoljphndgoeaaGreatDoor
namespace Go.Proofs.YtgkoljphndgoeaaGreatDoor
open Classical
theorem nb_mono {k : Nat} {F G : Nat → Bool} (h : ∀ i, i < k → F i = true → G i = true) : nb k F ≤ nb k G := by
 have e : nb k F = nb k F &&& nb k G := by
  rw [nb_and]
  refine nb_congr fun i hi => ?_
  cases hF : F i
  ·rfl
  ·rw [h i hi hF]; rfl
 rw [e]
 exact Nat.and_le_right
theorem nb_zero_iff {F : Nat → Bool} : nb 27 F = 0 ↔ upto 27 F = false := by
 constructor
 ·intro h
  cases hu : upto 27 F
  ·rfl
  ·obtain ⟨q, hq, hF⟩ := upto_iff.1 hu
   have := nb_bit 27 F q
   rw [h, hF] at this
   simp [hq] at this
 ·intro h
  refine nb_zero 27 fun i hi => ?_
  cases hF : F i
  ·rfl
  ·have := upto_iff.2 ⟨i, hi, hF⟩
   rw [h] at this
   cases this
def HR (F : Nat → Bool) (B : Nat → Nat → Bool) (u v : Nat) : Prop := u < 27 ∧ v < 27 ∧ F u = true ∧ B u v = true
noncomputable def hdS (F : Nat → Bool) (B : Nat → Nat → Bool) (i : Nat) : Nat → Bool := fun j => decide (Star (HR F B) i j)
structure HdInv (F : Nat → Bool) (B : Nat → Nat → Bool) (i : Nat) (H D : Nat → Bool) : Prop where
 me : H i = true
 re : ∀ j, j < 27 → H j = true → Star (HR F B) i j
 sub : ∀ j, j < 27 → D j = true → H j = true
 cl : ∀ u v, D u = true → HR F B u v → H v = true
def grow (H F : Nat → Bool) (B : Nat → Nat → Bool) (m : Nat) : Nat → Bool := fun j => H j || upto m (fun u => (H u && F u) && B u j)
theorem grow_zero (H F : Nat → Bool) (B : Nat → Nat → Bool) : grow H F B 0 = H := by funext j; simp [grow, upto_zero]
theorem grow_yes {H F : Nat → Bool} {B : Nat → Nat → Bool} {m : Nat} (h : (H m && F m) = true) : (fun j => grow H F B m j || B m j) = grow H F B (m + 1) := by
 funext j
 unfold grow
 rw [upto_succ, h, Bool.true_and, Bool.or_assoc]
theorem grow_no {H F : Nat → Bool} {B : Nat → Nat → Bool} {m : Nat} (h : (H m && F m) = false) : grow H F B m = grow H F B (m + 1) := by
 funext j
 unfold grow
 rw [upto_succ, h, Bool.false_and, Bool.or_false]
theorem HdInv.start (F : Nat → Bool) (B : Nat → Nat → Bool) (i : Nat) : HdInv F B i (fun j => j == i) noS where
 me := by simp
 re := fun j _ h => by simp at h; subst h; exact .refl _
 sub := fun j _ h => by cases h
 cl := fun u v h => by cases h
theorem HdInv.step {F : Nat → Bool} {B : Nat → Nat → Bool} {i : Nat} {H D : Nat → Bool} (h : HdInv F B i H D) : HdInv F B i (grow H F B 27) H where
 me := by simp [grow, h.me]
 re := fun j hj hg => by
  unfold grow at hg
  cases hH : H j
  ·rw [hH, Bool.false_or] at hg
   obtain ⟨u, hu, hg⟩ := upto_iff.1 hg
   simp only [Bool.and_eq_true] at hg
   exact (h.re u hu hg.1.1).tail ⟨hu, hj, hg.1.2, hg.2⟩
  ·exact h.re j hj hH
 sub := fun j _ hj => by simp [grow, hj]
 cl := fun u v hu hr => by
  have : upto 27 (fun u => (H u && F u) && B u v) = true := upto_iff.2 ⟨u, hr.1, by simp [hu, hr.2.2.1, hr.2.2.2]⟩
  simp [grow, this]
theorem HdInv.done {F : Nat → Bool} {B : Nat → Nat → Bool} {i : Nat} {H D : Nat → Bool} (h : HdInv F B i H D) (e : nb 27 D = nb 27 H) : nb 27 H = nb 27 (hdS F B i) := by
 refine nb_congr fun j hj => ?_
 have cl : ∀ a b : Nat, Star (HR F B) a b → H a = true → H b = true := by
  intro a b hs
  induction hs with
  | refl => exact id
  | head h1 _ ih =>
   intro ha
   refine ih (h.cl _ _ ?_ h1)
   rw [nb_inj e _ h1.1]
   exact ha
 unfold hdS
 rw [Bool.eq_iff_iff, decide_eq_true_eq]
 exact ⟨h.re j hj, fun hs => cl _ _ hs h.me⟩
theorem HdInv.grows {F : Nat → Bool} {B : Nat → Nat → Bool} {H : Nat → Bool} : nb 27 H ≤ nb 27 (grow H F B 27) := nb_mono fun i _ h => by simp [grow, h]
def GoodS (F : Nat → Bool) (B : Nat → Nat → Bool) (S : Nat → Prop) : Prop := ∀ u, S u → u < 27 ∧ F u = true ∧ ∃ v, v < 27 ∧ B u v = true ∧ S v
noncomputable def enS (F : Nat → Bool) (B : Nat → Nat → Bool) : Nat → Bool := fun j => decide (∃ S, GoodS F B S ∧ S j)
structure EnInv (F : Nat → Bool) (B : Nat → Nat → Bool) (O D : Nat → Bool) : Prop where
 sub : ∀ j, j < 27 → O j = true → F j = true
 all : ∀ S, GoodS F B S → ∀ j, S j → O j = true
 cl : (∀ j, j < 27 → D j = false) ∨ ∀ u, u < 27 → O u = true → ∃ v, v < 27 ∧ B u v = true ∧ D v = true
def hasT (O : Nat → Bool) (B : Nat → Nat → Bool) (u : Nat) : Bool := upto 27 (fun v => B u v && O v)
def cutS (O : Nat → Bool) (B : Nat → Nat → Bool) (m : Nat) : Nat → Bool := fun j => O j && !(decide (j < m) && !hasT O B j)
theorem cut_zero (O : Nat → Bool) (B : Nat → Nat → Bool) : cutS O B 0 = O := by funext j; simp [cutS]
theorem cut_no {O : Nat → Bool} {B : Nat → Nat → Bool} {m : Nat} (h : hasT O B m = true) : cutS O B m = cutS O B (m + 1) := by
 funext j
 unfold cutS
 by_cases e : j = m
 ·subst e; simp [h]
 ·by_cases h1 : j < m
  ·have h2 : j < m + 1 := by omega
   simp [h1, h2]
  ·have h2 : ¬ j < m + 1 := by omega
   simp [h1, h2]
theorem cut_yes {O : Nat → Bool} {B : Nat → Nat → Bool} {m : Nat} (h : hasT O B m = false) : (fun j => cutS O B m j && !(j == m)) = cutS O B (m + 1) := by
 funext j
 unfold cutS
 by_cases e : j = m
 ·subst e; simp [h]
 ·by_cases h1 : j < m
  ·have h2 : j < m + 1 := by omega
   simp [h1, h2, e]
  ·have h2 : ¬ j < m + 1 := by omega
   simp [h1, h2, e]
theorem EnInv.start (F : Nat → Bool) (B : Nat → Nat → Bool) : EnInv F B F noS where
 sub := fun _ _ h => h
 all := fun _ h j hj => (h j hj).2.1
 cl := .inl fun _ _ => rfl
theorem EnInv.step {F : Nat → Bool} {B : Nat → Nat → Bool} {O D : Nat → Bool} (h : EnInv F B O D) : EnInv F B (cutS O B 27) O where
 sub := fun j hj hc => by
  unfold cutS at hc
  simp only [Bool.and_eq_true] at hc
  exact h.sub j hj hc.1
 all := fun S hS j hj => by
  obtain ⟨_, _, v, hv, hb, hs⟩ := hS j hj
  have h1 := h.all S hS j hj
  have h2 := h.all S hS v hs
  have h3 : hasT O B j = true := upto_iff.2 ⟨v, hv, by simp [hb, h2]⟩
  simp [cutS, h1, h3]
 cl := .inr fun u hu hc => by
  unfold cutS at hc
  simp only [Bool.and_eq_true, hu, decide_true, Bool.true_and, Bool.not_not] at hc
  obtain ⟨v, hv, hb⟩ := upto_iff.1 hc.2
  simp only [Bool.and_eq_true] at hb
  exact ⟨v, hv, hb.1, hb.2⟩
theorem EnInv.done {F : Nat → Bool} {B : Nat → Nat → Bool} {O D : Nat → Bool} (h : EnInv F B O D) (e : nb 27 D = nb 27 O) : nb 27 O = nb 27 (enS F B) := by
 refine nb_congr fun j hj => ?_
 unfold enS
 rw [Bool.eq_iff_iff, decide_eq_true_eq]
 refine ⟨fun ho => ?_, fun ⟨S, hS, hj⟩ => h.all S hS j hj⟩
 refine ⟨fun u => u < 27 ∧ O u = true, ?_, hj, ho⟩
 intro u ⟨hu, hou⟩
 refine ⟨hu, h.sub u hu hou, ?_⟩
 rcases h.cl with hc | hc
 ·rw [← nb_inj e u hu, hc u hu] at hou
  cases hou
 ·obtain ⟨v, hv, hb, hd⟩ := hc u hu hou
  exact ⟨v, hv, hb, hv, by rw [← nb_inj e v hv]; exact hd⟩
theorem EnInv.falls {B : Nat → Nat → Bool} {O : Nat → Bool} : nb 27 (cutS O B 27) ≤ nb 27 O := nb_mono fun i _ h => by
 unfold cutS at h
 simp only [Bool.and_eq_true] at h
 exact h.1
end Go.Proofs.YtgkoljphndgoeaaGreatDoor
namespace Go.Proofs.YtgkoljphndgoeaaGreatDoor
open Go.RowKit Tm Go.Great
theorem meas_up {a b c : Nat} (hb : b < 134217728) (ha : a < 134217728) (hab : a ≤ b) (hca : c ≠ a) : (134217728 - b) * 2 + (if ((a : Nat) : Int) = (b : Nat) then 0 else 1) < (134217728 - a) * 2 + (if ((c : Nat) : Int) = (a : Nat) then 0 else 1) := by
 rw [if_neg (show ¬ ((c : Nat) : Int) = (a : Nat) by omega)]
 split <;> omega
theorem meas_dn {a b c : Nat} (hab : b ≤ a) (hca : c ≠ a) : b * 2 + (if ((a : Nat) : Int) = (b : Nat) then 0 else 1) < a * 2 + (if ((c : Nat) : Int) = (a : Nat) then 0 else 1) := by
 rw [if_neg (show ¬ ((c : Nat) : Int) = (a : Nat) by omega)]
 split <;> omega
set_option maxRecDepth 100000 in
set_option maxHeartbeats 4000000 in
theorem specHeads (F : Nat → Bool) (B : Nat → Nat → Bool) (L K : Nat → Bool) (i : Nat) (hi : i < 27) (w : World) : Calls Tryz.prog 214 #[.int .i64 (nb 27 F), .agg (allC B L K), .int .i64 i] w fun e w' => e = .returned (.int .i64 (nb 27 (hdS F B i))) ∧ Below w.heap.size w w' := by
 have CI := fun G m hm w => Lib.hid (specInS G m hm w)
 have HI := Lib.hid (HdInv.start F B i)
 have z0 : w.heap.size = w.heap.size := rfl
 have hb0 := Below.refl w.heap.size w
 obtain ⟨z1, k0⟩ := al1 z0 (allC B L K) 85
 replace hb0 := Below.alloc hb0 (by omega) (.cells (allC B L K) 85)
 have K0 := Lib.hid k0
 have HZ1 := Lib.hid z1
 have HB := Lib.hid hb0
 clear hb0 z0 k0 z1
 go_enter Tryz.func214, Tryz.ntmps214
 go_wp2_with (first
  | (refine wpList_boxTo rfl 85 _ rfl (some 4) rfl w.heap.size rfl (allC B L K) (by rfl) ?_))
 rw [wrap_bit hi]
 have hz : ((nb 27 noS : Nat) : Int) = 0 := by rw [nb_zero 27 (F := noS) (fun _ _ => rfl)]; rfl
 generalize (w).alloc (.cells (allC B L K) 85) = w1 at *
 clear HZ1
 go_loopw [7, 8, 9] (fun h d _ wr => ∃ H D : Nat → Bool, h = .int .i64 (nb 27 H) ∧ d = .int .i64 (nb 27 D) ∧ Hid (HdInv F B i H D) ∧ Hid (Blk wr w.heap.size (allC B L K) 85) ∧ Hid (Below w.heap.size w wr)) (fun h d _ _ => (134217728 - (intOf h).toNat) * 2 + (if intOf d = intOf h then 0 else 1))
 case atStart => exact ⟨_, noS, rfl, by rw [hz], HI, K0, HB⟩
 case round =>
  clear K0 HB HI hz
  obtain ⟨H, D, rfl, rfl, HI, RA, RW⟩ := hrel
  by_cases hDH : nb 27 D = nb 27 H
  ·have hres := HI.out.done hDH
   have hDI : ((nb 27 D : Nat) : Int) = (nb 27 H : Nat) := by omega
   go_wp2_with fail
   go_ret
   rw [hres]
   exact ⟨rfl, RW.out⟩
  ·have hDI : ¬ ((nb 27 D : Nat) : Int) = (nb 27 H : Nat) := by omega
   have HN := Lib.hid HI.out.step
   go_wp2_with fail
   simp only [show (((nb 27 D : Nat) : Int) != (nb 27 H : Nat)) = true from by simpa using hDI]
   go_loopw [7, 9] (fun h m wr => ∃ k : Nat, k ≤ 27 ∧ m = .int .i64 k ∧ h = .int .i64 (nb 27 (grow H F B k)) ∧ Hid (Blk wr w.heap.size (allC B L K) 85) ∧ Hid (Below w.heap.size w wr)) (fun _ m _ => 27 - (intOf m).toNat)
   case atStart => exact ⟨0, by omega, rfl, by rw [grow_zero], RA, RW⟩
   case round =>
    clear RA RW
    obtain ⟨k, hk, rfl, rfl, RA, RW⟩ := hrel
    by_cases hlt : k < 27
    ·have D1 : ∀ w, Hid (Calls Tryz.prog 86 #[.int .i64 (nb 27 (fun j => H j && F j)), .int .i64 k] w fun e w' => e = .returned (.bool (H k && F k)) ∧ w = w') := CI (fun j => H j && F j) k hlt
     go_wp2_with fail
     rw [s_and]
     cases hc : H k && F k
     ·rw [hc] at D1
      refine (D1 _).out.mono ?_
      rintro e w2 ⟨rfl, rfl⟩
      go_wp2_with fail
      exact ⟨⟨k + 1, by omega, by go_num, by rw [grow_no hc], RA, RW⟩, by simp [intOf]; omega⟩
     ·rw [hc] at D1
      refine (D1 _).out.mono ?_
      rintro e w2 ⟨rfl, rfl⟩
      have a0 := (RA.out.cell k).trans (allC_get _ _ _ hlt)
      go_wp2_with fail
      exact ⟨⟨k + 1, by omega, by go_num, by rw [s_or, grow_yes hc], RA, RW⟩, by simp [intOf]; omega⟩
    ·have hk2 : k = 27 := by omega
     subst hk2
     go_wp2_with fail
     exact ⟨⟨grow H F B 27, H, rfl, rfl, HN, RA, RW⟩, meas_up (nb_lt27 _) (nb_lt27 _) HdInv.grows hDH⟩
theorem s_has {O : Nat → Bool} {B : Nat → Nat → Bool} {k : Nat} (h : hasT O B k = true) : (bits .and .i64 (nb 27 (B k) : Nat) (nb 27 O : Nat) == 0) = false := by
 rw [s_and]
 have : ¬ nb 27 (fun v => B k v && O v) = 0 := fun e => by
  have := nb_zero_iff.1 e
  unfold hasT at h
  rw [h] at this
  cases this
 simpa using this
theorem s_hasnt {O : Nat → Bool} {B : Nat → Nat → Bool} {k : Nat} (h : hasT O B k = false) : (bits .and .i64 (nb 27 (B k) : Nat) (nb 27 O : Nat) == 0) = true := by
 rw [s_and]
 have : nb 27 (fun v => B k v && O v) = 0 := nb_zero_iff.2 h
 rw [this]
 rfl
set_option maxRecDepth 100000 in
set_option maxHeartbeats 4000000 in
theorem specEndless (F : Nat → Bool) (B : Nat → Nat → Bool) (L K : Nat → Bool) (w : World) : Calls Tryz.prog 213 #[.int .i64 (nb 27 F), .agg (allC B L K)] w fun e w' => e = .returned (.int .i64 (nb 27 (enS F B))) ∧ Below w.heap.size w w' := by
 have HI := Lib.hid (EnInv.start F B)
 have z0 : w.heap.size = w.heap.size := rfl
 have hb0 := Below.refl w.heap.size w
 obtain ⟨z1, k0⟩ := al1 z0 (allC B L K) 85
 replace hb0 := Below.alloc hb0 (by omega) (.cells (allC B L K) 85)
 have K0 := Lib.hid k0
 have HZ1 := Lib.hid z1
 have HB := Lib.hid hb0
 clear hb0 z0 k0 z1
 go_enter Tryz.func213, Tryz.ntmps213
 go_wp2_with (first
  | (refine wpList_boxTo rfl 85 _ rfl (some 3) rfl w.heap.size rfl (allC B L K) (by rfl) ?_))
 have hz : ((nb 27 noS : Nat) : Int) = 0 := by rw [nb_zero 27 (F := noS) (fun _ _ => rfl)]; rfl
 generalize (w).alloc (.cells (allC B L K) 85) = w1 at *
 clear HZ1
 go_loopw [5, 6, 7] (fun h d _ wr => ∃ H D : Nat → Bool, h = .int .i64 (nb 27 H) ∧ d = .int .i64 (nb 27 D) ∧ Hid (EnInv F B H D) ∧ Hid (Blk wr w.heap.size (allC B L K) 85) ∧ Hid (Below w.heap.size w wr)) (fun h d _ _ => (intOf h).toNat * 2 + (if intOf d = intOf h then 0 else 1))
 case atStart => exact ⟨_, noS, rfl, by rw [hz], HI, K0, HB⟩
 case round =>
  clear K0 HB HI hz
  obtain ⟨H, D, rfl, rfl, HI, RA, RW⟩ := hrel
  by_cases hDH : nb 27 D = nb 27 H
  ·have hres := HI.out.done hDH
   have hDI : ((nb 27 D : Nat) : Int) = (nb 27 H : Nat) := by omega
   go_wp2_with fail
   go_ret
   rw [hres]
   exact ⟨rfl, RW.out⟩
  ·have hDI : ¬ ((nb 27 D : Nat) : Int) = (nb 27 H : Nat) := by omega
   have HN := Lib.hid HI.out.step
   go_wp2_with fail
   simp only [show (((nb 27 D : Nat) : Int) != (nb 27 H : Nat)) = true from by simpa using hDI]
   go_loopw [5, 7] (fun h m wr => ∃ k : Nat, k ≤ 27 ∧ m = .int .i64 k ∧ h = .int .i64 (nb 27 (cutS H B k)) ∧ Hid (Blk wr w.heap.size (allC B L K) 85) ∧ Hid (Below w.heap.size w wr)) (fun _ m _ => 27 - (intOf m).toNat)
   case atStart => exact ⟨0, by omega, rfl, by rw [cut_zero], RA, RW⟩
   case round =>
    clear RA RW
    obtain ⟨k, hk, rfl, rfl, RA, RW⟩ := hrel
    by_cases hlt : k < 27
    ·have a0 := (RA.out.cell k).trans (allC_get _ _ _ hlt)
     cases hc : hasT H B k
     ·have hv := s_hasnt hc
      go_wp2_with fail
      exact ⟨⟨k + 1, by omega, by go_num, by rw [wrap_bit hlt, s_andNot, cut_yes hc], RA, RW⟩, by simp [intOf]; omega⟩
     ·have hv := s_has hc
      go_wp2_with fail
      exact ⟨⟨k + 1, by omega, by go_num, by rw [cut_no hc], RA, RW⟩, by simp [intOf]; omega⟩
    ·have hk2 : k = 27 := by omega
     subst hk2
     go_wp2_with fail
     exact ⟨⟨cutS H B 27, H, rfl, rfl, HN, RA, RW⟩, meas_dn EnInv.falls hDH⟩
noncomputable def whT (F : Nat → Bool) (B : Nat → Nat → Bool) : Nat → Nat → Bool := fun i j => hdS F B i j && !F j
noncomputable def whL (F : Nat → Bool) (B : Nat → Nat → Bool) (L : Nat → Bool) : Nat → Bool := fun i => upto 27 (fun j => (hdS F B i j && F j) && (L j || enS F B j))
noncomputable def whK (F : Nat → Bool) (B : Nat → Nat → Bool) (K : Nat → Bool) : Nat → Bool := fun i => upto 27 (fun j => (hdS F B i j && F j) && K j)
theorem neq0 (G : Nat → Bool) : (((nb 27 G : Nat) : Int) != 0) = upto 27 G := by
 cases h : upto 27 G
 ·rw [nb_zero_iff.2 h]; rfl
 ·have : ¬ nb 27 G = 0 := fun e => by rw [nb_zero_iff.1 e] at h; cases h
  simpa using this
theorem wl_eq (F : Nat → Bool) (B : Nat → Nat → Bool) (L : Nat → Bool) (i : Nat) : (bits .and .i64 (bits .and .i64 (nb 27 (hdS F B i) : Nat) (nb 27 F : Nat)) (bits .or .i64 (nb 27 L : Nat) (nb 27 (enS F B) : Nat)) != 0) = whL F B L i := by
 rw [s_and, s_or, s_and, neq0]; rfl
theorem wk_eq (F : Nat → Bool) (B : Nat → Nat → Bool) (K : Nat → Bool) (i : Nat) : (bits .and .i64 (bits .and .i64 (nb 27 (hdS F B i) : Nat) (nb 27 F : Nat)) (nb 27 K : Nat) != 0) = whK F B K i := by
 rw [s_and, s_and, neq0]; rfl
theorem lowS_skip {k : Nat} {L La : Nat → Bool} (h : L k = La k) : lowS k L La = lowS (k + 1) L La := by
 rw [nowS_start]; exact nowS_end _ _ _ _ h.symm
theorem or_low {k : Nat} (hk : k < 27) {L La : Nat → Bool} (h : L k = true) : bits .or .i64 (nb 27 (lowS k L La) : Nat) (wrap64 ((2 : Int) ^ k)) = (nb 27 (lowS (k + 1) L La) : Nat) := by
 rw [nowS_start, or_bit hk, nowS_end _ _ _ _ h.symm]
set_option maxRecDepth 100000 in
set_option maxHeartbeats 4000000 in
theorem specWhile (F : Nat → Bool) (B : Nat → Nat → Bool) (L K : Nat → Bool) (w : World) : Calls Tryz.prog 162 #[.int .i64 (nb 27 F), .agg (allC B L K)] w (AllPost (whT F B) (whL F B L) (whK F B K) w) := by
 have CE := fun w => Lib.hid (specEndless F B L K w)
 have CH := fun i hi w => Lib.hid (specHeads F B L K i hi w)
 have z0 : w.heap.size = w.heap.size := rfl
 have hb0 := Below.refl w.heap.size w
 obtain ⟨z1, k0⟩ := al1 z0 (allC B L K) 85
 replace hb0 := Below.alloc hb0 (by omega) (.cells (allC B L K) 85)
 obtain ⟨z2, k1⟩ := al2 z1 (show w.heap.size + 2 = w.heap.size + 1 + 1 from rfl) (allC noT noS noS) 85
 replace k0 := Blk.alloc k0 (.cells (allC noT noS noS) 85)
 replace hb0 := Below.alloc hb0 (by omega) (.cells (allC noT noS noS) 85)
 obtain ⟨z3, k2⟩ := al2 z2 (show w.heap.size + 3 = w.heap.size + 2 + 1 from rfl) (allC noT noS noS) 85
 replace k0 := Blk.alloc k0 (.cells (allC noT noS noS) 85)
 replace k1 := Blk.alloc k1 (.cells (allC noT noS noS) 85)
 replace hb0 := Below.alloc hb0 (by omega) (.cells (allC noT noS noS) 85)
 have KR := Lib.hid k2
 replace k0 := Blk.rowOther k0 (g := w.heap.size + 2) (by omega) (allC noT noS noS)
 replace k1 := Blk.rowOther k1 (g := w.heap.size + 2) (by omega) (allC noT noS noS)
 replace k2 := Blk.row k2 (allC noT noS noS)
 replace hb0 := Below.setRow hb0 (g := w.heap.size + 2) (by omega) (allC noT noS noS)
 have K0 := Lib.hid k0
 have K1 := Lib.hid k1
 have K2 := Lib.hid k2
 have HZ1 := Lib.hid z1
 have HZ2 := Lib.hid z2
 have HZ3 := Lib.hid z3
 have HB := Lib.hid hb0
 clear hb0 z0 k0 k1 k2 z1 z2 z3
 go_enter Tryz.func162, Tryz.ntmps162
 go_wp2_with (first
  | (refine wpList_boxTo rfl 85 _ rfl (some 3) rfl w.heap.size rfl (allC B L K) (by rfl) ?_)
  | (refine ar_alloc rfl rfl (some 4) rfl (w.heap.size + 1) HZ1.out ?_)
  | (refine ar_alloc rfl rfl (some 5) rfl (w.heap.size + 2) HZ2.out ?_)
  | (refine wpList_buildTo rfl 85 _ rfl _ rfl (allC noT noS noS) (by kernel_rfl) ?_)
  | (refine wpList_store_row rfl 85 _ _ rfl (w.heap.size + 2) (allC noT noS noS) (by rfl) (by rfl) 85 (allC noT noS noS) KR.out (infoAll' _ _ _) (by rfl) (allC_one _ _ _) ?_)
  | (refine wpList_load_row rfl 85 _ rfl w.heap.size (by rfl) 85 (allC B L K) (0, 0) _ K0.out undAll rfl (infoAll' _ _ _) ?_))
 generalize ((((w).alloc (.cells (allC B L K) 85)).alloc (.cells (allC noT noS noS) 85)).alloc (.cells (allC noT noS noS) 85)).setRow (w.heap.size + 2) (allC noT noS noS) = w1 at *
 clear KR HZ1 HZ2 HZ3
 refine (CE _).out.mono ?_
 rintro e w2 ⟨rfl, hb⟩
 have P0 := Lib.hid (K0.out.kept hb)
 have P1 := Lib.hid (K1.out.kept hb)
 have P2 := Lib.hid (K2.out.kept hb)
 have PB := Lib.hid (bnext HB.out hb)
 clear hb K0 K1 K2 HB CE
 go_wp2_with fail
 go_loopw [7, 8] (fun i _ wr => ∃ k : Nat, k ≤ 27 ∧ i = .int .i64 k ∧ Hid (Blk wr (w.heap.size + 2) (allC (lowT k (whT F B)) (lowS k (whL F B L) noS) (lowS k (whK F B K) noS)) 85) ∧ Hid (Blk wr w.heap.size (allC B L K) 85) ∧ Hid (Blk wr (w.heap.size + 1) (allC noT noS noS) 85) ∧ Hid (Below w.heap.size w wr)) (fun i _ _ => 27 - (intOf i).toNat)
 case atStart => exact ⟨0, by omega, rfl, by rw [low0, lowS_zero, lowS_zero]; exact P2, P0, P1, PB⟩
 case round =>
  clear P0 P1 P2 PB
  obtain ⟨k, hk, rfl, RO, RB, RZ, RW⟩ := hrel
  by_cases hlt : k < 27
  ·have C1 := CH k hlt
   go_wp2_with (first
    | (refine wpList_load_row rfl 85 _ rfl w.heap.size (by rfl) 85 (allC B L K) (0, 0) _ RB.out undAll rfl (infoAll' _ _ _) ?_))
   refine (C1 _).out.mono ?_
   rintro e w3 ⟨rfl, hb⟩
   replace RO := Lib.hid (RO.out.kept hb)
   replace RB := Lib.hid (RB.out.kept hb)
   replace RZ := Lib.hid (RZ.out.kept hb)
   replace RW := Lib.hid (bnext RW.out hb)
   clear hb
   have c0 := (RO.out.cell k).trans (allC_get _ _ _ hlt)
   have c1 := RO.out.free k
   have hwl := wl_eq F B L k
   have hwk := wk_eq F B K k
   have d0 := (RB.out.cell 27).trans (allC_L _ _ _)
   have d1 := (RB.out.cell 28).trans (allC_K _ _ _)
   have e0 := (RO.out.cell 27).trans (allC_L _ _ _)
   have e1 := RO.out.free 27
   have e2 := (RO.out.cell 28).trans (allC_K _ _ _)
   have e3 := RO.out.free 28
   cases hA : whL F B L k <;> cases hB : whK F B K k <;> rw [hA] at hwl <;> rw [hB] at hwk
   ·go_wp2_with fail
    clear c0 c1 d0 d1 e0 e1 e2 e3
    rw [s_andNot]
    replace RO := Lib.hid ((RO.out.set k (.int .i64 (nb 27 (fun j => hdS F B k j && !F j)))).as (lowT_step hlt))
    replace RB := Lib.hid (RB.out.setOther (p := ⟨w.heap.size + 2, k, none⟩) (by show w.heap.size ≠ w.heap.size + 2; omega) (.int .i64 (nb 27 (fun j => hdS F B k j && !F j))))
    replace RZ := Lib.hid (RZ.out.setOther (p := ⟨w.heap.size + 2, k, none⟩) (by show w.heap.size + 1 ≠ w.heap.size + 2; omega) (.int .i64 (nb 27 (fun j => hdS F B k j && !F j))))
    replace RW := Lib.hid (RW.out.setCell (p := ⟨w.heap.size + 2, k, none⟩) (by show w.heap.size ≤ w.heap.size + 2; omega) (.int .i64 (nb 27 (fun j => hdS F B k j && !F j))))
    rw [lowS_skip (k := k) (L := (whL F B L)) (La := noS) hA] at RO
    rw [lowS_skip (k := k) (L := (whK F B K)) (La := noS) hB] at RO
    exact ⟨⟨k + 1, by omega, by go_num, RO, RB, RZ, RW⟩, by simp [intOf]; omega⟩
   ·go_wp2_with fail
    clear c0 c1 d0 d1 e0 e1 e2 e3
    rw [s_andNot, or_low hlt hB]
    replace RO := Lib.hid ((RO.out.set k (.int .i64 (nb 27 (fun j => hdS F B k j && !F j)))).as (lowT_step hlt))
    replace RB := Lib.hid (RB.out.setOther (p := ⟨w.heap.size + 2, k, none⟩) (by show w.heap.size ≠ w.heap.size + 2; omega) (.int .i64 (nb 27 (fun j => hdS F B k j && !F j))))
    replace RZ := Lib.hid (RZ.out.setOther (p := ⟨w.heap.size + 2, k, none⟩) (by show w.heap.size + 1 ≠ w.heap.size + 2; omega) (.int .i64 (nb 27 (fun j => hdS F B k j && !F j))))
    replace RW := Lib.hid (RW.out.setCell (p := ⟨w.heap.size + 2, k, none⟩) (by show w.heap.size ≤ w.heap.size + 2; omega) (.int .i64 (nb 27 (fun j => hdS F B k j && !F j))))
    replace RO := Lib.hid ((RO.out.set 28 (.int .i64 (nb 27 (lowS (k + 1) (whK F B K) noS)))).as (allC_setK))
    replace RB := Lib.hid (RB.out.setOther (p := ⟨w.heap.size + 2, 28, none⟩) (by show w.heap.size ≠ w.heap.size + 2; omega) (.int .i64 (nb 27 (lowS (k + 1) (whK F B K) noS))))
    replace RZ := Lib.hid (RZ.out.setOther (p := ⟨w.heap.size + 2, 28, none⟩) (by show w.heap.size + 1 ≠ w.heap.size + 2; omega) (.int .i64 (nb 27 (lowS (k + 1) (whK F B K) noS))))
    replace RW := Lib.hid (RW.out.setCell (p := ⟨w.heap.size + 2, 28, none⟩) (by show w.heap.size ≤ w.heap.size + 2; omega) (.int .i64 (nb 27 (lowS (k + 1) (whK F B K) noS))))
    rw [lowS_skip (k := k) (L := (whL F B L)) (La := noS) hA] at RO
    exact ⟨⟨k + 1, by omega, by go_num, RO, RB, RZ, RW⟩, by simp [intOf]; omega⟩
   ·go_wp2_with fail
    clear c0 c1 d0 d1 e0 e1 e2 e3
    rw [s_andNot, or_low hlt hA]
    replace RO := Lib.hid ((RO.out.set k (.int .i64 (nb 27 (fun j => hdS F B k j && !F j)))).as (lowT_step hlt))
    replace RB := Lib.hid (RB.out.setOther (p := ⟨w.heap.size + 2, k, none⟩) (by show w.heap.size ≠ w.heap.size + 2; omega) (.int .i64 (nb 27 (fun j => hdS F B k j && !F j))))
    replace RZ := Lib.hid (RZ.out.setOther (p := ⟨w.heap.size + 2, k, none⟩) (by show w.heap.size + 1 ≠ w.heap.size + 2; omega) (.int .i64 (nb 27 (fun j => hdS F B k j && !F j))))
    replace RW := Lib.hid (RW.out.setCell (p := ⟨w.heap.size + 2, k, none⟩) (by show w.heap.size ≤ w.heap.size + 2; omega) (.int .i64 (nb 27 (fun j => hdS F B k j && !F j))))
    replace RO := Lib.hid ((RO.out.set 27 (.int .i64 (nb 27 (lowS (k + 1) (whL F B L) noS)))).as (allC_setL))
    replace RB := Lib.hid (RB.out.setOther (p := ⟨w.heap.size + 2, 27, none⟩) (by show w.heap.size ≠ w.heap.size + 2; omega) (.int .i64 (nb 27 (lowS (k + 1) (whL F B L) noS))))
    replace RZ := Lib.hid (RZ.out.setOther (p := ⟨w.heap.size + 2, 27, none⟩) (by show w.heap.size + 1 ≠ w.heap.size + 2; omega) (.int .i64 (nb 27 (lowS (k + 1) (whL F B L) noS))))
    replace RW := Lib.hid (RW.out.setCell (p := ⟨w.heap.size + 2, 27, none⟩) (by show w.heap.size ≤ w.heap.size + 2; omega) (.int .i64 (nb 27 (lowS (k + 1) (whL F B L) noS))))
    rw [lowS_skip (k := k) (L := (whK F B K)) (La := noS) hB] at RO
    exact ⟨⟨k + 1, by omega, by go_num, RO, RB, RZ, RW⟩, by simp [intOf]; omega⟩
   ·go_wp2_with fail
    clear c0 c1 d0 d1 e0 e1 e2 e3
    rw [s_andNot, or_low hlt hA, or_low hlt hB]
    replace RO := Lib.hid ((RO.out.set k (.int .i64 (nb 27 (fun j => hdS F B k j && !F j)))).as (lowT_step hlt))
    replace RB := Lib.hid (RB.out.setOther (p := ⟨w.heap.size + 2, k, none⟩) (by show w.heap.size ≠ w.heap.size + 2; omega) (.int .i64 (nb 27 (fun j => hdS F B k j && !F j))))
    replace RZ := Lib.hid (RZ.out.setOther (p := ⟨w.heap.size + 2, k, none⟩) (by show w.heap.size + 1 ≠ w.heap.size + 2; omega) (.int .i64 (nb 27 (fun j => hdS F B k j && !F j))))
    replace RW := Lib.hid (RW.out.setCell (p := ⟨w.heap.size + 2, k, none⟩) (by show w.heap.size ≤ w.heap.size + 2; omega) (.int .i64 (nb 27 (fun j => hdS F B k j && !F j))))
    replace RO := Lib.hid ((RO.out.set 27 (.int .i64 (nb 27 (lowS (k + 1) (whL F B L) noS)))).as (allC_setL))
    replace RB := Lib.hid (RB.out.setOther (p := ⟨w.heap.size + 2, 27, none⟩) (by show w.heap.size ≠ w.heap.size + 2; omega) (.int .i64 (nb 27 (lowS (k + 1) (whL F B L) noS))))
    replace RZ := Lib.hid (RZ.out.setOther (p := ⟨w.heap.size + 2, 27, none⟩) (by show w.heap.size + 1 ≠ w.heap.size + 2; omega) (.int .i64 (nb 27 (lowS (k + 1) (whL F B L) noS))))
    replace RW := Lib.hid (RW.out.setCell (p := ⟨w.heap.size + 2, 27, none⟩) (by show w.heap.size ≤ w.heap.size + 2; omega) (.int .i64 (nb 27 (lowS (k + 1) (whL F B L) noS))))
    replace RO := Lib.hid ((RO.out.set 28 (.int .i64 (nb 27 (lowS (k + 1) (whK F B K) noS)))).as (allC_setK))
    replace RB := Lib.hid (RB.out.setOther (p := ⟨w.heap.size + 2, 28, none⟩) (by show w.heap.size ≠ w.heap.size + 2; omega) (.int .i64 (nb 27 (lowS (k + 1) (whK F B K) noS))))
    replace RZ := Lib.hid (RZ.out.setOther (p := ⟨w.heap.size + 2, 28, none⟩) (by show w.heap.size + 1 ≠ w.heap.size + 2; omega) (.int .i64 (nb 27 (lowS (k + 1) (whK F B K) noS))))
    replace RW := Lib.hid (RW.out.setCell (p := ⟨w.heap.size + 2, 28, none⟩) (by show w.heap.size ≤ w.heap.size + 2; omega) (.int .i64 (nb 27 (lowS (k + 1) (whK F B K) noS))))
    exact ⟨⟨k + 1, by omega, by go_num, RO, RB, RZ, RW⟩, by simp [intOf]; omega⟩
  ·have hk2 : k = 27 := by omega
   subst hk2
   replace RO := Lib.hid (RO.out.as lowS_all)
   go_wp2_with (first
    | (refine wpList_load_row rfl 85 _ rfl (w.heap.size + 2) (by rfl) 85 (allC (whT F B) (whL F B L) (whK F B K)) (0, 0) _ RO.out undAll rfl (infoAll' _ _ _) ?_)
    | (refine wpList_store_row rfl 85 _ _ rfl (w.heap.size + 1) (allC (whT F B) (whL F B L) (whK F B K)) (by rfl) (by rfl) 85 (allC noT noS noS) RZ.out (infoAll' _ _ _) (by rw [allC_size, allC_size]) (allC_one _ _ _) ?_))
   refine bodyPost_ret (v := .agg (allC (whT F B) (whL F B L) (whK F B K))) (results_cell_row rfl _ _ (w.heap.size + 1) 85 _ (0, 0) _ (by rfl) (RZ.out.row _) undAll rfl (infoAll' _ _ _)) rfl ⟨rfl, Below.setRow RW.out (by omega) _⟩
theorem s_bit {k : Nat} (hk : k < 27) (G : Nat → Bool) : bits .or .i64 (nb 27 G : Nat) (wrap64 ((2 : Int) ^ k)) = (nb 27 (fun j => G j || j == k) : Nat) := by rw [wrap_bit hk, s_or]
set_option maxHeartbeats 2000000 in
theorem specTest (s : ByteArray) (t : Tm) (w : World) (ht0 : Ok true true t) (hs : s.data.toList = t.ser) (hl0 : s.size ≤ 1000000) : Calls Tryz.prog 161 #[.string s] w fun e w' => e = .returned (.int .i64 (nb 27 (tst t))) ∧ Below w.heap.size w w' := by
 have HS := Lib.hid hs
 clear hs
 have HB := Lib.hid (Below.refl w.heap.size w)
 go_enter Tryz.func161, Tryz.ntmps161
 go_wp2_with fail
 go_loopw [3, 4, 5, 6] (fun o i _ _ wr => ∃ k : Nat, k ≤ 27 ∧ i = .int .i64 k ∧ o = .int .i64 (nb 27 (lowF (tst t) k)) ∧ Hid (Below w.heap.size w wr)) (fun o i _ _ _ => 27 - (intOf i).toNat)
 case atStart => exact ⟨0, by omega, rfl, by rw [lowF_zero]; rfl, HB⟩
 case round =>
  clear HB
  obtain ⟨k, hk, rfl, rfl, HB⟩ := hrel
  by_cases hlt : k < 27
  ·have C := fun w => Lib.hid (specAt0 k w (by omega) (by omega))
   have D := fun w => Lib.hid (specOne (ax k) (ay k) (az k) w)
   have H : ∀ w, Hid (Calls Tryz.prog 211 #[.string s, .int .i64 0, envV (env k)] w fun e w' => e = .returned (.tuple #[.bool (tst t k), .int .i64 (0 + t.ser.length : Nat)]) ∧ Below w.heap.size w w') := fun w => Lib.hid (sph_any (env k) (one_bd (at_st3 (i := (k : Int)) (by omega) (by omega))) s hl0 t 0 [] w ht0 (by rw [List.drop_zero, List.append_nil]; exact HS.out))
   cases hT : tst t k
   all_goals
    rw [hT] at H
    go_wp2_with fail
    refine (C _).out.mono ?_
    rintro e w1 ⟨rfl, hb⟩
    have HB1 := Lib.hid (bnext HB.out hb)
    clear hb
    go_wp2_with fail
    refine (D _).out.mono ?_
    rintro e w2 ⟨rfl, hb⟩
    have HB2 := Lib.hid (bnext HB1.out hb)
    clear hb
    go_wp2_with fail
    refine (H _).out.mono ?_
    rintro e w3 ⟨rfl, hb⟩
    have HB3 := Lib.hid (bnext HB2.out hb)
    clear hb
    go_wp2_with fail
   ·exact ⟨⟨k + 1, by omega, by go_num, by rw [lowF_nil hT], HB3⟩, by simp [intOf]; omega⟩
   ·exact ⟨⟨k + 1, by omega, by go_num, by rw [s_bit hlt, lowF_one hT], HB3⟩, by simp [intOf]; omega⟩
  ·have hk2 : k = 27 := by omega
   subst hk2
   go_wp2_with fail
   go_ret
   exact ⟨by rw [← lowF_all]; rfl, HB.out⟩
def postS (F : Nat → Bool) (B : Nat → Nat → Bool) (m : Nat) : Nat → Bool := fun j => upto m (fun i => F i && B i j)
theorem postS_yes {F : Nat → Bool} {B : Nat → Nat → Bool} {m : Nat} (h : F m = true) : (fun j => postS F B m j || B m j) = postS F B (m + 1) := by
 funext j
 unfold postS
 rw [upto_succ, h, Bool.true_and]
theorem postS_no {F : Nat → Bool} {B : Nat → Nat → Bool} {m : Nat} (h : F m = false) : postS F B m = postS F B (m + 1) := by
 funext j
 unfold postS
 rw [upto_succ, h, Bool.false_and, Bool.or_false]
set_option maxHeartbeats 2000000 in
theorem specMask (p : ByteArray) (w : World) (hp : Set27 p) : Calls Tryz.prog 215 #[.string p] w fun e w' => e = .returned (.int .i64 (nb 27 (hs p.data.toList))) ∧ Below w.heap.size w w' := by
 have HP := Lib.hid hp
 have hp27 : p.size = 27 := by have := hp.1; simpa using this
 clear hp
 have HB := Lib.hid (Below.refl w.heap.size w)
 go_enter Tryz.func215, Tryz.ntmps215
 go_wp2_with fail
 go_loopw [3, 4] (fun o i wr => ∃ k : Nat, k ≤ 27 ∧ i = .int .i64 k ∧ o = .int .i64 (nb 27 (lowF (hs p.data.toList) k)) ∧ Hid (Below w.heap.size w wr)) (fun o i _ => 27 - (intOf i).toNat)
 case atStart => exact ⟨0, by omega, rfl, by rw [lowF_zero]; rfl, HB⟩
 case round =>
  clear HB
  obtain ⟨k, hk, rfl, rfl, HB⟩ := hrel
  by_cases hlt : k < 27
  ·have hkp : k < p.size := by omega
   have HG := hs_byte HP.out k hkp
   cases hT : hs p.data.toList k
   ·rw [hT] at HG
    have HG' : p[k] = 48 := HG
    go_wp2_with fail
    exact ⟨⟨k + 1, by omega, by go_num, by rw [lowF_nil hT], HB⟩, by simp [intOf]; omega⟩
   ·rw [hT] at HG
    have HG' : p[k] = 49 := HG
    go_wp2_with fail
    exact ⟨⟨k + 1, by omega, by go_num, by rw [s_bit hlt, lowF_one hT], HB⟩, by simp [intOf]; omega⟩
  ·have hk2 : k = 27 := by omega
   subst hk2
   go_wp2_with fail
   go_ret
   exact ⟨by rw [← lowF_all]; rfl, HB.out⟩
set_option maxHeartbeats 2000000 in
theorem specTextS (F : Nat → Bool) (w : World) : Calls Tryz.prog 164 #[.int .i64 (nb 27 F)] w fun e w' => e = .returned (.string (bs (tb F))) ∧ Below w.heap.size w w' := by
 have hmk : ∀ w, (Instr.makeSlice 22 (.int .i64 27) (.int .i64 27)).run Tryz.prog w = .ok (.slice (some ⟨w.heap.size, 0, none⟩) 27 27) (w.alloc (.cells (u8s (zs 27)) 5)) := fun w => mkBytes 27 (by omega) w
 have CI := fun m hm w => Lib.hid (specInS F m hm w)
 go_enter Tryz.func164, Tryz.ntmps164
 go_wp2_with fail
 have HT0 := Lib.hid (BBlk.made 27 w)
 have HB0 := Lib.hid ((Below.refl _ w).alloc (Nat.le_refl _) (.cells (u8s (zs 27)) 5))
 generalize w.alloc (.cells (u8s (zs 27)) 5) = w0 at *
 go_loopw [4] (fun i wr => ∃ k : Nat, k ≤ 27 ∧ i = .int .i64 k ∧ Hid (BBlk wr w.heap.size (part 27 k F)) ∧ Hid (Below w.heap.size w wr)) (fun i _ => 27 - (intOf i).toNat)
 case atStart => exact ⟨0, by omega, rfl, HT0, HB0⟩
 case round =>
  clear HT0 HB0
  obtain ⟨k, hk, rfl, HT, HB⟩ := hrel
  by_cases hlt : k < 27
  ·have HP := Lib.hid (part_step 27 k F hlt)
   have hl := part_len 27 k F (by omega)
   obtain ⟨old, hc⟩ := HT.out.some k (by rw [hl]; omega)
   have hf := HT.out.free k
   have D := CI k hlt
   clear hl
   go_wp2_with fail
   refine (D _).out.mono ?_
   rintro e w2 ⟨rfl, rfl⟩
   go_wp2_with fail
   refine (specBit _ _).mono ?_
   rintro e w' ⟨rfl, rfl⟩
   go_wp2_with fail
   refine ⟨⟨k + 1, by omega, by go_num, ?_, Lib.hid (HB.out.setCell (p := ⟨w.heap.size, k, none⟩) (Nat.le_refl _) _)⟩, by simp [intOf]; omega⟩
   rw [← HP.out]
   exact Lib.hid (HT.out.set k _)
  ·have hk2 : k = 27 := by omega
   subst hk2
   have hv := toStr HT.out 27 27 (part_len 27 27 F (by omega)).symm
   rw [part_all] at hv
   go_wp2_with fail
   go_ret
   exact ⟨rfl, HB.out⟩
def RZ (w : World) (N : Nat) : Prop := ∃ c, Blk w N c 85 ∧ c.size = 29
theorem RZ.of {w : World} {N : Nat} {t : Nat → Nat → Bool} {l k : Nat → Bool} (h : Blk w N (allC t l k) 85) : RZ w N := ⟨_, h, allC_size _ _ _⟩
theorem RZ.kept {w w' : World} {N : Nat} (h : RZ w N) (hb : Below w.heap.size w w') : RZ w' N := by
 obtain ⟨c, h, e⟩ := h
 exact ⟨c, Blk.kept h hb, e⟩
theorem RZ.now {w : World} {N : Nat} (h : RZ w N) (c : Array Value) : Blk (w.setRow N c) N c 85 := by
 obtain ⟨_, h, _⟩ := h
 exact Blk.row h c
theorem RZ.row {w : World} {N : Nat} (h : RZ w N) (t : Nat → Nat → Bool) (l k : Nat → Bool) : RZ (w.setRow N (allC t l k)) N := .of (h.now _)
theorem row_cell {w : World} {N g i : Nat} {v : Value} {c : Array Value} (hne : g ≠ N) (h : w.cell? ⟨g, i, none⟩ = some v) : (w.setRow N c).cell? ⟨g, i, none⟩ = some v := by
 unfold World.cell? at *
 rw [setRow_other _ _ _ _ hne]
 exact h
theorem put_all {w : World} {g : Nat} (h : RZ w g) (t : Nat → Nat → Bool) (l k : Nat → Bool) : (storeCells ⟨g, 0, none⟩ (allC t l k).toList).run Tryz.prog w = .ok () (w.setRow g (allC t l k)) := by
 obtain ⟨c, h, hs⟩ := h
 have := run_storeCells_from (P := Tryz.prog) g 85 (allC t l k).toList 0 c w h (by have := allC_size t l k; simp; omega) (fun v hv => (Array.all_eq_true_iff_forall_mem.1 (allC_one t l k)) v (by simpa using hv))
 simpa using this
theorem lr_pre (p : Pg) (hp : p.ok false) (hn : p.ser.length ≤ 1000) : ∃ h0 : 0 < (bs p.ser).size, (bs p.ser)[0] = p.letter ∧ (bs p.ser).extract 1 (1 + p.hd.length) = bs p.hd ∧ (1 : Int) ≤ 1 + (p.hd.length : Int) ∧ 1 + (p.hd.length : Int) ≤ ((bs p.ser).size : Int) ∧
  (∀ w, Calls Tryz.prog 156 #[.string (bs p.ser), .bool false] w (Quiet (.int .i64 (1 + p.hd.length : Nat)) w)) ∧ (∀ w, Calls Tryz.prog 157 #[.string (bs p.ser), .bool false] w (RowPost 9 (strs (p.pks.map Pg.ser)) w)) := by
 have hs : (bs p.ser).data.toList = p.letter :: (p.hd ++ p.pks.flatMap Pg.ser) := by rw [bs_list, p.ser_eq]
 obtain ⟨h0, hb⟩ := byte0 hs
 have hsz : (bs p.ser).size = 1 + p.hd.length + (p.pks.flatMap Pg.ser).length := by rw [bs_size, p.ser_eq, List.length_cons, List.length_append]; omega
 exact ⟨h0, hb, extract_bs (r := p.pks.flatMap Pg.ser) (by rw [hs]; rfl) rfl (by omega), by omega, by omega, fun w => lh_any false p hp _ (bs_list _) (by rw [bs_size]; omega) w, fun w => parts_any false p hp _ (bs_list _) (by rw [bs_size]; omega) w⟩
set_option maxRecDepth 100000 in
set_option maxHeartbeats 8000000 in
theorem lr_skip (hp : (Pg.skip).ok false) (hn : (Pg.skip).ser.length ≤ 1000) (w : World) : Calls Tryz.prog 84 #[.string (bs (Pg.skip).ser)] w (AllPost (fun i j => j == i) noS noS w) := by
 obtain ⟨h0, hb0, hx, hl1, hl2, hh, hpp⟩ := lr_pre (Pg.skip) hp hn
 have hc : ((bs (Pg.skip).ser)[0].toNat : Int) = 115 := by rw [hb0]; rfl
 have HH := fun w => Lib.hid (hh w)
 have HP := fun w => Lib.hid (hpp w)
 have HX := Lib.hid hx
 have h0i : (0 : Int) < ((bs (Pg.skip).ser).size : Int) := by omega
 clear hh hpp hx hb0
 generalize bs (Pg.skip).ser = S at *
 generalize (Pg.skip).hd.length = hn1 at *
 go_enter Tryz.func84, Tryz.ntmps84
 go_wp2_with (refine ar_alloc rfl rfl (some 2) rfl w.heap.size rfl ?_)
 have RZ1 := Lib.hid (Blk.new w (allC noT noS noS) 85)
 have RW := Lib.hid ((Below.refl w.heap.size w).alloc (Nat.le_refl _) (.cells (allC noT noS noS) 85))
 generalize w.alloc (.cells (allC noT noS noS) 85) = w0 at *
 refine (HH _).out.mono ?_
 rintro e w1 ⟨rfl, n0, rfl⟩
 replace RZ1 := Lib.hid (RZ1.out.kept (bdrewN (Below.refl w0.heap.size w0) n0))
 have HS0 : Hid (w.heap.size < (w0.drewN n0).heap.size) := RZ1.out.lt
 replace RW := Lib.hid (bdrewN RW.out n0)
 go_wp2_with fail
 refine (HP _).out.mono ?_
 rintro e w2 ⟨sl, rfl, hrow, hb⟩
 replace RZ1 := Lib.hid (RZ1.out.kept hb)
 replace RW := Lib.hid (bnext RW.out hb)
 clear hb hrow HS0
 go_wp2_with fail
 refine (specSkip _).mono ?_
 rintro e w3 ⟨rfl, hb⟩
 replace RZ1 := Lib.hid (RZ1.out.kept hb)
 replace RW := Lib.hid (bnext RW.out hb)
 clear hb
 go_wp2_with (refine wpList_store_row rfl 85 _ _ rfl w.heap.size (allC (fun i j => j == i) noS noS) (by rfl) (by rfl) 85 (allC noT noS noS) RZ1.out (infoAll' _ _ _) (by rw [allC_size, allC_size]) (allC_one _ _ _) ?_)
 refine bodyPost_ret (v := .agg (allC (fun i j => j == i) noS noS)) (results_cell_row rfl _ _ w.heap.size 85 _ (0, 0) _ (by rfl) (Blk.row RZ1.out _) undAll rfl (infoAll' _ _ _)) rfl ⟨rfl, Below.setRow RW.out (Nat.le_refl _) _⟩
set_option maxRecDepth 100000 in
set_option maxHeartbeats 8000000 in
theorem lr_seq (a b : Pg) (hp : (Pg.seq a b).ok false) (hn : (Pg.seq a b).ser.length ≤ 1000) (w : World) (A B : Nat → Nat → Bool) (La Ka Lb Kb : Nat → Bool)
  (c1 : ∀ w, Calls Tryz.prog 84 #[.string (bs a.ser)] w (AllPost A La Ka w))
  (c2 : ∀ w, Calls Tryz.prog 84 #[.string (bs b.ser)] w (AllPost B Lb Kb w)) :
  Calls Tryz.prog 84 #[.string (bs (Pg.seq a b).ser)] w (AllPost (sqT A B) (sqS A Lb La) (sqS A Kb Ka) w) := by
 have C1 := Lib.hid c1
 have C2 := Lib.hid c2
 clear c1 c2
 obtain ⟨h0, hb0, hx, hl1, hl2, hh, hpp⟩ := lr_pre (Pg.seq a b) hp hn
 have hc : ((bs (Pg.seq a b).ser)[0].toNat : Int) = 59 := by rw [hb0]; rfl
 have HH := fun w => Lib.hid (hh w)
 have HP := fun w => Lib.hid (hpp w)
 have HX := Lib.hid hx
 have h0i : (0 : Int) < ((bs (Pg.seq a b).ser).size : Int) := by omega
 clear hh hpp hx hb0
 generalize bs (Pg.seq a b).ser = S at *
 generalize (Pg.seq a b).hd.length = hn1 at *
 go_enter Tryz.func84, Tryz.ntmps84
 go_wp2_with (refine ar_alloc rfl rfl (some 2) rfl w.heap.size rfl ?_)
 have RZ1 := Lib.hid (Blk.new w (allC noT noS noS) 85)
 have RW := Lib.hid ((Below.refl w.heap.size w).alloc (Nat.le_refl _) (.cells (allC noT noS noS) 85))
 generalize w.alloc (.cells (allC noT noS noS) 85) = w0 at *
 refine (HH _).out.mono ?_
 rintro e w1 ⟨rfl, n0, rfl⟩
 replace RZ1 := Lib.hid (RZ1.out.kept (bdrewN (Below.refl w0.heap.size w0) n0))
 have HS0 : Hid (w.heap.size < (w0.drewN n0).heap.size) := RZ1.out.lt
 replace RW := Lib.hid (bdrewN RW.out n0)
 go_wp2_with fail
 refine (HP _).out.mono ?_
 rintro e w2 ⟨sl, rfl, hrow, hb⟩
 replace RZ1 := Lib.hid (RZ1.out.kept hb)
 replace RW := Lib.hid (bnext RW.out hb)
 obtain ⟨g, cap, rfl, hg, k1, k2⟩ := Row.two' (show Row w2 _ _ sl [_, _] from hrow)
 have hgn : g ≠ w.heap.size := by have := HS0.out; omega
 clear hb hrow hg HS0
 go_wp2_with fail
 have hB' := RW.out.drew
 have hZ' := RZ.of RZ1.out.drew
 go_region_held3 (fun w' => Below w.heap.size w w' ∧ w'.cell? ⟨g, 0, none⟩ = some (.string (bs a.ser)) ∧ w'.cell? ⟨g, 1, none⟩ = some (.string (bs b.ser)) ∧ RZ w' w.heap.size)
  ((go_split_ands; refine ⟨?_, ?_, ?_, ?_⟩ <;> first | assumption | exact ckeep hq (by assumption) | exact RZ.kept (by assumption) hq | exact RZ.row (by assumption) _ _ _ | exact row_cell hgn (by assumption) | exact Below.setRow (by assumption) (Nat.le_refl _) _ | exact Below.trans (by assumption) (hq.mono (by have := Below.size (by assumption : Below w.heap.size w _); omega))))
  (first | (go_at_call 84; (with_reducible refine (C1.out _).mono ?_); rintro e w2 ⟨rfl, hq⟩) | (go_at_call 84; (with_reducible refine (C2.out _).mono ?_); rintro e w2 ⟨rfl, hq⟩) | (go_at_call 98; (with_reducible refine (specSeq A B La Ka Lb Kb _).mono ?_); rintro e w2 ⟨rfl, hq⟩; have hrz := RZ.kept (show RZ _ w.heap.size by go_split_ands; assumption) hq; have hst := put_all hrz (sqT A B) (sqS A Lb La) (sqS A Kb Ka); have hbl := RZ.now hrz (allC (sqT A B) (sqS A Lb La) (sqS A Kb Ka))))
 all_goals
  go_wp2_with fail
  go_split_ands
  exact bodyPost_ret (v := .agg (allC (sqT A B) (sqS A Lb La) (sqS A Kb Ka))) (results_cell_row rfl _ _ w.heap.size 85 _ (0, 0) _ (by rfl) (show Blk _ _ _ _ by assumption) undAll rfl (infoAll' _ _ _)) rfl ⟨rfl, by assumption⟩
theorem specAny (A B : Nat → Nat → Bool) (La Ka Lb Kb : Nat → Bool) (w : World) : Calls Tryz.prog 160 #[.agg (allC A La Ka), .agg (allC B Lb Kb), .int .i64 134217727, .int .i64 134217727] w (AllPost (chT (fun _ => true) (fun _ => true) A B) (chS (fun _ => true) (fun _ => true) La Lb) (chS (fun _ => true) (fun _ => true) Ka Kb) w) := specChoose A B La Ka Lb Kb (fun _ => true) (fun _ => true) w
set_option maxRecDepth 100000 in
set_option maxHeartbeats 8000000 in
theorem lr_cho (a b : Pg) (hp : (Pg.cho a b).ok false) (hn : (Pg.cho a b).ser.length ≤ 1000) (w : World) (A B : Nat → Nat → Bool) (La Ka Lb Kb : Nat → Bool)
  (c1 : ∀ w, Calls Tryz.prog 84 #[.string (bs a.ser)] w (AllPost A La Ka w))
  (c2 : ∀ w, Calls Tryz.prog 84 #[.string (bs b.ser)] w (AllPost B Lb Kb w)) :
  Calls Tryz.prog 84 #[.string (bs (Pg.cho a b).ser)] w (AllPost (chT (fun _ => true) (fun _ => true) A B) (chS (fun _ => true) (fun _ => true) La Lb) (chS (fun _ => true) (fun _ => true) Ka Kb) w) := by
 have C1 := Lib.hid c1
 have C2 := Lib.hid c2
 clear c1 c2
 obtain ⟨h0, hb0, hx, hl1, hl2, hh, hpp⟩ := lr_pre (Pg.cho a b) hp hn
 have hc : ((bs (Pg.cho a b).ser)[0].toNat : Int) = 47 := by rw [hb0]; rfl
 have HH := fun w => Lib.hid (hh w)
 have HP := fun w => Lib.hid (hpp w)
 have HX := Lib.hid hx
 have h0i : (0 : Int) < ((bs (Pg.cho a b).ser).size : Int) := by omega
 clear hh hpp hx hb0
 generalize bs (Pg.cho a b).ser = S at *
 generalize (Pg.cho a b).hd.length = hn1 at *
 go_enter Tryz.func84, Tryz.ntmps84
 go_wp2_with (refine ar_alloc rfl rfl (some 2) rfl w.heap.size rfl ?_)
 have RZ1 := Lib.hid (Blk.new w (allC noT noS noS) 85)
 have RW := Lib.hid ((Below.refl w.heap.size w).alloc (Nat.le_refl _) (.cells (allC noT noS noS) 85))
 generalize w.alloc (.cells (allC noT noS noS) 85) = w0 at *
 refine (HH _).out.mono ?_
 rintro e w1 ⟨rfl, n0, rfl⟩
 replace RZ1 := Lib.hid (RZ1.out.kept (bdrewN (Below.refl w0.heap.size w0) n0))
 have HS0 : Hid (w.heap.size < (w0.drewN n0).heap.size) := RZ1.out.lt
 replace RW := Lib.hid (bdrewN RW.out n0)
 go_wp2_with fail
 refine (HP _).out.mono ?_
 rintro e w2 ⟨sl, rfl, hrow, hb⟩
 replace RZ1 := Lib.hid (RZ1.out.kept hb)
 replace RW := Lib.hid (bnext RW.out hb)
 obtain ⟨g, cap, rfl, hg, k1, k2⟩ := Row.two' (show Row w2 _ _ sl [_, _] from hrow)
 have hgn : g ≠ w.heap.size := by have := HS0.out; omega
 clear hb hrow hg HS0
 go_wp2_with fail
 have hB' := RW.out.drew
 have hZ' := RZ.of RZ1.out.drew
 go_region_held3 (fun w' => Below w.heap.size w w' ∧ w'.cell? ⟨g, 0, none⟩ = some (.string (bs a.ser)) ∧ w'.cell? ⟨g, 1, none⟩ = some (.string (bs b.ser)) ∧ RZ w' w.heap.size)
  ((go_split_ands; refine ⟨?_, ?_, ?_, ?_⟩ <;> first | assumption | exact ckeep hq (by assumption) | exact RZ.kept (by assumption) hq | exact RZ.row (by assumption) _ _ _ | exact row_cell hgn (by assumption) | exact Below.setRow (by assumption) (Nat.le_refl _) _ | exact Below.trans (by assumption) (hq.mono (by have := Below.size (by assumption : Below w.heap.size w _); omega))))
  (first | (go_at_call 84; (with_reducible refine (C1.out _).mono ?_); rintro e w2 ⟨rfl, hq⟩) | (go_at_call 84; (with_reducible refine (C2.out _).mono ?_); rintro e w2 ⟨rfl, hq⟩) | (go_at_call 160; (with_reducible refine (specAny A B La Ka Lb Kb _).mono ?_); rintro e w2 ⟨rfl, hq⟩; have hrz := RZ.kept (show RZ _ w.heap.size by go_split_ands; assumption) hq; have hst := put_all hrz (chT (fun _ => true) (fun _ => true) A B) (chS (fun _ => true) (fun _ => true) La Lb) (chS (fun _ => true) (fun _ => true) Ka Kb); have hbl := RZ.now hrz (allC (chT (fun _ => true) (fun _ => true) A B) (chS (fun _ => true) (fun _ => true) La Lb) (chS (fun _ => true) (fun _ => true) Ka Kb))))
 all_goals
  go_wp2_with fail
  go_split_ands
  exact bodyPost_ret (v := .agg (allC (chT (fun _ => true) (fun _ => true) A B) (chS (fun _ => true) (fun _ => true) La Lb) (chS (fun _ => true) (fun _ => true) Ka Kb))) (results_cell_row rfl _ _ w.heap.size 85 _ (0, 0) _ (by rfl) (show Blk _ _ _ _ by assumption) undAll rfl (infoAll' _ _ _)) rfl ⟨rfl, by assumption⟩
set_option maxRecDepth 100000 in
set_option maxHeartbeats 8000000 in
theorem lr_whl (t : Tm) (a : Pg) (hp : (Pg.whl t a).ok false) (hn : (Pg.whl t a).ser.length ≤ 1000) (w : World) (A : Nat → Nat → Bool) (La Ka : Nat → Bool)
  (c1 : ∀ w, Calls Tryz.prog 84 #[.string (bs a.ser)] w (AllPost A La Ka w)) :
  Calls Tryz.prog 84 #[.string (bs (Pg.whl t a).ser)] w (AllPost (whT (tst t) A) (whL (tst t) A La) (whK (tst t) A Ka) w) := by
 have C1 := Lib.hid c1
 clear c1
 obtain ⟨h0, hb0, hx, hl1, hl2, hh, hpp⟩ := lr_pre (Pg.whl t a) hp hn
 have hc : ((bs (Pg.whl t a).ser)[0].toNat : Int) = 64 := by rw [hb0]; rfl
 have HH := fun w => Lib.hid (hh w)
 have HP := fun w => Lib.hid (hpp w)
 have HX : Hid (_ = bs t.ser) := Lib.hid hx
 have h0i : (0 : Int) < ((bs (Pg.whl t a).ser).size : Int) := by omega
 have CT := fun w => Lib.hid (specTest (bs t.ser) t w (ok_wide hp.1) (bs_list _) (by rw [bs_size]; simp only [Pg.ser, List.length_cons, List.length_append] at hn; omega))
 clear hh hpp hx hb0
 generalize bs (Pg.whl t a).ser = S at *
 generalize (Pg.whl t a).hd.length = hn1 at *
 go_enter Tryz.func84, Tryz.ntmps84
 go_wp2_with (refine ar_alloc rfl rfl (some 2) rfl w.heap.size rfl ?_)
 have RZ1 := Lib.hid (Blk.new w (allC noT noS noS) 85)
 have RW := Lib.hid ((Below.refl w.heap.size w).alloc (Nat.le_refl _) (.cells (allC noT noS noS) 85))
 generalize w.alloc (.cells (allC noT noS noS) 85) = w0 at *
 refine (HH _).out.mono ?_
 rintro e w1 ⟨rfl, n0, rfl⟩
 replace RZ1 := Lib.hid (RZ1.out.kept (bdrewN (Below.refl w0.heap.size w0) n0))
 have HS0 : Hid (w.heap.size < (w0.drewN n0).heap.size) := RZ1.out.lt
 replace RW := Lib.hid (bdrewN RW.out n0)
 go_wp2_with fail
 refine (HP _).out.mono ?_
 rintro e w2 ⟨sl, rfl, hrow, hb⟩
 replace RZ1 := Lib.hid (RZ1.out.kept hb)
 replace RW := Lib.hid (bnext RW.out hb)
 obtain ⟨g, cap, rfl, hg, k1⟩ := Row.one' (show Row w2 _ _ sl [_] from hrow)
 clear hb hrow hg HS0
 go_wp2_with fail
 rw [HX.out]
 refine (CT _).out.mono ?_
 rintro e w3 ⟨rfl, hb⟩
 replace RZ1 := Lib.hid (RZ1.out.kept hb)
 replace RW := Lib.hid (bnext RW.out hb)
 replace k1 := ckeep hb k1
 clear hb CT
 go_wp2_with fail
 refine (C1.out _).mono ?_
 rintro e w4 ⟨rfl, hb⟩
 replace RZ1 := Lib.hid (RZ1.out.kept hb)
 replace RW := Lib.hid (bnext RW.out hb)
 clear hb k1
 go_wp2_with fail
 refine (specWhile _ _ _ _ _).mono ?_
 rintro e w5 ⟨rfl, hb⟩
 replace RZ1 := Lib.hid (RZ1.out.kept hb)
 replace RW := Lib.hid (bnext RW.out hb)
 clear hb
 go_wp2_with (refine wpList_store_row rfl 85 _ _ rfl w.heap.size (allC (whT (tst t) A) (whL (tst t) A La) (whK (tst t) A Ka)) (by rfl) (by rfl) 85 (allC noT noS noS) RZ1.out (infoAll' _ _ _) (by rw [allC_size, allC_size]) (allC_one _ _ _) ?_)
 refine bodyPost_ret (v := .agg (allC (whT (tst t) A) (whL (tst t) A La) (whK (tst t) A Ka))) (results_cell_row rfl _ _ w.heap.size 85 _ (0, 0) _ (by rfl) (Blk.row RZ1.out _) undAll rfl (infoAll' _ _ _)) rfl ⟨rfl, Below.setRow RW.out (Nat.le_refl _) _⟩
theorem fullNot (F : Nat → Bool) : bits .andNot .i64 134217727 (nb 27 F : Nat) = (nb 27 (fun i => !F i) : Nat) := by
 have h := s_andNot (fun _ => true) F
 have e : ((nb 27 (fun _ => true) : Nat) : Int) = 134217727 := by rw [nb_all]; rfl
 rw [e] at h
 simpa using h
theorem specIf (A B : Nat → Nat → Bool) (La Ka Lb Kb F : Nat → Bool) (w : World) : Calls Tryz.prog 160 #[.agg (allC A La Ka), .agg (allC B Lb Kb), .int .i64 (nb 27 F), .int .i64 (bits .andNot .i64 134217727 (nb 27 F : Nat))] w (AllPost (chT F (fun i => !F i) A B) (chS F (fun i => !F i) La Lb) (chS F (fun i => !F i) Ka Kb) w) := by
 rw [fullNot]
 exact specChoose A B La Ka Lb Kb F (fun i => !F i) w
set_option maxRecDepth 100000 in
set_option maxHeartbeats 8000000 in
theorem lr_ite (t : Tm) (a b : Pg) (hp : (Pg.ite t a b).ok false) (hn : (Pg.ite t a b).ser.length ≤ 1000) (w : World) (A B : Nat → Nat → Bool) (La Ka Lb Kb : Nat → Bool)
  (c1 : ∀ w, Calls Tryz.prog 84 #[.string (bs a.ser)] w (AllPost A La Ka w))
  (c2 : ∀ w, Calls Tryz.prog 84 #[.string (bs b.ser)] w (AllPost B Lb Kb w)) :
  Calls Tryz.prog 84 #[.string (bs (Pg.ite t a b).ser)] w (AllPost (chT (tst t) (fun i => !tst t i) A B) (chS (tst t) (fun i => !tst t i) La Lb) (chS (tst t) (fun i => !tst t i) Ka Kb) w) := by
 have C1 := Lib.hid c1
 have C2 := Lib.hid c2
 clear c1 c2
 obtain ⟨h0, hb0, hx, hl1, hl2, hh, hpp⟩ := lr_pre (Pg.ite t a b) hp hn
 have hc : ((bs (Pg.ite t a b).ser)[0].toNat : Int) = 63 := by rw [hb0]; rfl
 have HH := fun w => Lib.hid (hh w)
 have HP := fun w => Lib.hid (hpp w)
 have HX : Hid (_ = bs t.ser) := Lib.hid hx
 have h0i : (0 : Int) < ((bs (Pg.ite t a b).ser).size : Int) := by omega
 have CT := fun w => Lib.hid (specTest (bs t.ser) t w (ok_wide hp.1) (bs_list _) (by rw [bs_size]; simp only [Pg.ser, List.length_cons, List.length_append] at hn; omega))
 clear hh hpp hx hb0
 generalize bs (Pg.ite t a b).ser = S at *
 generalize (Pg.ite t a b).hd.length = hn1 at *
 go_enter Tryz.func84, Tryz.ntmps84
 go_wp2_with (refine ar_alloc rfl rfl (some 2) rfl w.heap.size rfl ?_)
 have RZ1 := Lib.hid (Blk.new w (allC noT noS noS) 85)
 have RW := Lib.hid ((Below.refl w.heap.size w).alloc (Nat.le_refl _) (.cells (allC noT noS noS) 85))
 generalize w.alloc (.cells (allC noT noS noS) 85) = w0 at *
 refine (HH _).out.mono ?_
 rintro e w1 ⟨rfl, n0, rfl⟩
 replace RZ1 := Lib.hid (RZ1.out.kept (bdrewN (Below.refl w0.heap.size w0) n0))
 have HS0 : Hid (w.heap.size < (w0.drewN n0).heap.size) := RZ1.out.lt
 replace RW := Lib.hid (bdrewN RW.out n0)
 go_wp2_with fail
 refine (HP _).out.mono ?_
 rintro e w2 ⟨sl, rfl, hrow, hb⟩
 replace RZ1 := Lib.hid (RZ1.out.kept hb)
 replace RW := Lib.hid (bnext RW.out hb)
 obtain ⟨g, cap, rfl, hg, k1, k2⟩ := Row.two' (show Row w2 _ _ sl [_, _] from hrow)
 have hgn : g ≠ w.heap.size := by have := HS0.out; omega
 clear hb hrow hg HS0
 go_wp2_with fail
 rw [HX.out]
 refine (CT _).out.mono ?_
 rintro e w3 ⟨rfl, hb⟩
 replace RZ1 := Lib.hid (RZ1.out.kept hb)
 replace RW := Lib.hid (bnext RW.out hb)
 replace k1 := ckeep hb k1
 replace k2 := ckeep hb k2
 clear hb CT
 go_wp2_with fail
 have hB' := RW.out.drew
 have hZ' := RZ.of RZ1.out.drew
 go_region_held3 (fun w' => Below w.heap.size w w' ∧ w'.cell? ⟨g, 0, none⟩ = some (.string (bs a.ser)) ∧ w'.cell? ⟨g, 1, none⟩ = some (.string (bs b.ser)) ∧ RZ w' w.heap.size)
  ((go_split_ands; refine ⟨?_, ?_, ?_, ?_⟩ <;> first | assumption | exact ckeep hq (by assumption) | exact RZ.kept (by assumption) hq | exact RZ.row (by assumption) _ _ _ | exact row_cell hgn (by assumption) | exact Below.setRow (by assumption) (Nat.le_refl _) _ | exact Below.trans (by assumption) (hq.mono (by have := Below.size (by assumption : Below w.heap.size w _); omega))))
  (first | (go_at_call 84; (with_reducible refine (C1.out _).mono ?_); rintro e w2 ⟨rfl, hq⟩) | (go_at_call 84; (with_reducible refine (C2.out _).mono ?_); rintro e w2 ⟨rfl, hq⟩) | (go_at_call 160; (with_reducible refine (specIf A B La Ka Lb Kb (tst t) _).mono ?_); rintro e w2 ⟨rfl, hq⟩; have hrz := RZ.kept (show RZ _ w.heap.size by go_split_ands; assumption) hq; have hst := put_all hrz (chT (tst t) (fun i => !tst t i) A B) (chS (tst t) (fun i => !tst t i) La Lb) (chS (tst t) (fun i => !tst t i) Ka Kb); have hbl := RZ.now hrz (allC (chT (tst t) (fun i => !tst t i) A B) (chS (tst t) (fun i => !tst t i) La Lb) (chS (tst t) (fun i => !tst t i) Ka Kb))))
 all_goals
  go_wp2_with fail
  go_split_ands
  exact bodyPost_ret (v := .agg (allC (chT (tst t) (fun i => !tst t i) A B) (chS (tst t) (fun i => !tst t i) La Lb) (chS (tst t) (fun i => !tst t i) Ka Kb))) (results_cell_row rfl _ _ w.heap.size 85 _ (0, 0) _ (by rfl) (show Blk _ _ _ _ by assumption) undAll rfl (infoAll' _ _ _)) rfl ⟨rfl, by assumption⟩
set_option maxRecDepth 100000 in
set_option maxHeartbeats 8000000 in
theorem lr_asm (t : Tm) (hp : (Pg.asm t).ok false) (hn : (Pg.asm t).ser.length ≤ 1000) (w : World) :
  Calls Tryz.prog 84 #[.string (bs (Pg.asm t).ser)] w (AllPost (chT (tst t) (fun i => !tst t i) (fun i j => j == i) noT) (chS (tst t) (fun i => !tst t i) noS noS) (chS (tst t) (fun i => !tst t i) noS (fun _ => true)) w) := by
 obtain ⟨h0, hb0, hx, hl1, hl2, hh, hpp⟩ := lr_pre (Pg.asm t) hp hn
 have hc : ((bs (Pg.asm t).ser)[0].toNat : Int) = 126 := by rw [hb0]; rfl
 have HH := fun w => Lib.hid (hh w)
 have HP := fun w => Lib.hid (hpp w)
 have HX : Hid (_ = bs t.ser) := Lib.hid hx
 have h0i : (0 : Int) < ((bs (Pg.asm t).ser).size : Int) := by omega
 have CT := fun w => Lib.hid (specTest (bs t.ser) t w (ok_wide hp) (bs_list _) (by rw [bs_size]; simp only [Pg.ser, List.length_cons] at hn; omega))
 clear hh hpp hx hb0
 generalize bs (Pg.asm t).ser = S at *
 generalize (Pg.asm t).hd.length = hn1 at *
 go_enter Tryz.func84, Tryz.ntmps84
 go_wp2_with (refine ar_alloc rfl rfl (some 2) rfl w.heap.size rfl ?_)
 have RZ1 := Lib.hid (Blk.new w (allC noT noS noS) 85)
 have RW := Lib.hid ((Below.refl w.heap.size w).alloc (Nat.le_refl _) (.cells (allC noT noS noS) 85))
 generalize w.alloc (.cells (allC noT noS noS) 85) = w0 at *
 refine (HH _).out.mono ?_
 rintro e w1 ⟨rfl, n0, rfl⟩
 replace RZ1 := Lib.hid (RZ1.out.kept (bdrewN (Below.refl w0.heap.size w0) n0))
 have HS0 : Hid (w.heap.size < (w0.drewN n0).heap.size) := RZ1.out.lt
 replace RW := Lib.hid (bdrewN RW.out n0)
 go_wp2_with fail
 refine (HP _).out.mono ?_
 rintro e w2 ⟨sl, rfl, hrow, hb⟩
 replace RZ1 := Lib.hid (RZ1.out.kept hb)
 replace RW := Lib.hid (bnext RW.out hb)
 clear hb hrow HS0
 go_wp2_with fail
 rw [HX.out]
 refine (CT _).out.mono ?_
 rintro e w3 ⟨rfl, hb⟩
 replace RZ1 := Lib.hid (RZ1.out.kept hb)
 replace RW := Lib.hid (bnext RW.out hb)
 clear hb CT
 go_wp2_with fail
 refine (specSkip _).mono ?_
 rintro e w4 ⟨rfl, hb⟩
 replace RZ1 := Lib.hid (RZ1.out.kept hb)
 replace RW := Lib.hid (bnext RW.out hb)
 clear hb
 go_wp2_with (refine wpList_buildTo rfl 85 _ rfl _ rfl (allC noT noS (fun _ => true)) (by kernel_rfl) ?_)
 refine (specIf _ _ _ _ _ _ _ _).mono ?_
 rintro e w5 ⟨rfl, hb⟩
 replace RZ1 := Lib.hid (RZ1.out.kept hb)
 replace RW := Lib.hid (bnext RW.out hb)
 clear hb
 go_wp2_with (refine wpList_store_row rfl 85 _ _ rfl w.heap.size (allC (chT (tst t) (fun i => !tst t i) (fun i j => j == i) noT) (chS (tst t) (fun i => !tst t i) noS noS) (chS (tst t) (fun i => !tst t i) noS (fun _ => true))) (by rfl) (by rfl) 85 (allC noT noS noS) RZ1.out (infoAll' _ _ _) (by rw [allC_size, allC_size]) (allC_one _ _ _) ?_)
 refine bodyPost_ret (v := .agg (allC (chT (tst t) (fun i => !tst t i) (fun i j => j == i) noT) (chS (tst t) (fun i => !tst t i) noS noS) (chS (tst t) (fun i => !tst t i) noS (fun _ => true)))) (results_cell_row rfl _ _ w.heap.size 85 _ (0, 0) _ (by rfl) (Blk.row RZ1.out _) undAll rfl (infoAll' _ _ _)) rfl ⟨rfl, Below.setRow RW.out (Nat.le_refl _) _⟩
set_option maxRecDepth 100000 in
set_option maxHeartbeats 8000000 in
theorem lr_asg (c : UInt8) (j : Nat) (hj : VarAt c j) (e : Tm) (hp : (Pg.asg c e).ok false) (hn : (Pg.asg c e).ser.length ≤ 200) (w : World) :
  Calls Tryz.prog 84 #[.string (bs (Pg.asg c e).ser)] w (AllPost (fun i j => j == asg c e i) noS noS w) := by
 have hn : (Pg.asg c e).ser.length ≤ 1000 := by omega
 have CV := fun w => Lib.hid (specVar_yes c j w hj)
 have CS := fun w => Lib.hid (specSet c j hj (bs e.ser) hp.2 (bs_list _) (by rw [bs_size]; simp only [Pg.ser, List.length_cons] at *; omega) w)
 have hxv : Hid ((bs (Pg.asg c e).hd).extract 0 1 = ⟨#[c]⟩) := extract_bs (s := bs (Pg.asg c e).hd) (a := 0) (n := 1) (x := [c]) (r := e.ser) (by rw [bs_list]; rfl) rfl (Nat.zero_le _)
 have hxe : Hid ((bs (Pg.asg c e).hd).extract 1 (bs (Pg.asg c e).hd).size = bs e.ser) := by
  have h := extract_bs (s := bs (Pg.asg c e).hd) (a := 1) (n := e.ser.length) (x := e.ser) (r := []) (by rw [bs_list, List.append_nil]; rfl) rfl (by rw [bs_size]; simp [Pg.hd])
  have e1 : (bs (Pg.asg c e).hd).size = 1 + e.ser.length := by rw [bs_size]; simp [Pg.hd]; omega
  rw [e1]; exact h
 have hsv : (1 : Int) ≤ ((bs (Pg.asg c e).hd).size : Int) := by rw [bs_size]; simp [Pg.hd]; omega
 obtain ⟨h0, hb0, hx, hl1, hl2, hh, hpp⟩ := lr_pre (Pg.asg c e) hp hn
 have hc : ((bs (Pg.asg c e).ser)[0].toNat : Int) = 97 := by rw [hb0]; rfl
 have HH := fun w => Lib.hid (hh w)
 have HP := fun w => Lib.hid (hpp w)
 have HX := Lib.hid hx
 have h0i : (0 : Int) < ((bs (Pg.asg c e).ser).size : Int) := by omega
 clear hh hpp hx hb0
 generalize bs (Pg.asg c e).ser = S at *
 generalize (Pg.asg c e).hd.length = hn1 at *
 go_enter Tryz.func84, Tryz.ntmps84
 go_wp2_with (refine ar_alloc rfl rfl (some 2) rfl w.heap.size rfl ?_)
 have RZ1 := Lib.hid (Blk.new w (allC noT noS noS) 85)
 have RW := Lib.hid ((Below.refl w.heap.size w).alloc (Nat.le_refl _) (.cells (allC noT noS noS) 85))
 generalize w.alloc (.cells (allC noT noS noS) 85) = w0 at *
 refine (HH _).out.mono ?_
 rintro e w1 ⟨rfl, n0, rfl⟩
 replace RZ1 := Lib.hid (RZ1.out.kept (bdrewN (Below.refl w0.heap.size w0) n0))
 have HS0 : Hid (w.heap.size < (w0.drewN n0).heap.size) := RZ1.out.lt
 replace RW := Lib.hid (bdrewN RW.out n0)
 go_wp2_with fail
 refine (HP _).out.mono ?_
 rintro e w2 ⟨sl, rfl, hrow, hb⟩
 replace RZ1 := Lib.hid (RZ1.out.kept hb)
 replace RW := Lib.hid (bnext RW.out hb)
 clear hb hrow HS0
 have hHD := HX.out
 clear HX
 generalize bs (Pg.asg c e).hd = HD at *
 go_wp2_with fail
 have hxv' := hxv.out
 have hxe' := hxe.out
 have hB' := RW.out.drew
 have hZ' := RZ.of RZ1.out.drew
 go_region_held3 (fun w' => Below w.heap.size w w' ∧ RZ w' w.heap.size)
  ((go_split_ands; refine ⟨?_, ?_⟩ <;> first | assumption | exact RZ.kept (by assumption) hq | exact RZ.row (by assumption) _ _ _ | exact Below.setRow (by assumption) (Nat.le_refl _) _ | exact Below.trans (by assumption) (hq.mono (by have := Below.size (by assumption : Below w.heap.size w _); omega))))
  (first | (go_at_call 159; (with_reducible refine (CV _).out.mono ?_); rintro e w2 ⟨rfl, rfl⟩) | (go_at_call 158; (with_reducible refine (CS _).out.mono ?_); rintro e w2 ⟨rfl, hq⟩; have hrz := RZ.kept (show RZ _ w.heap.size by go_split_ands; assumption) hq; have hst := put_all hrz (fun i j => j == asg c e i) noS noS; have hbl := RZ.now hrz (allC (fun i j => j == asg c e i) noS noS)))
 all_goals
  go_wp2_with fail
  go_split_ands
  exact bodyPost_ret (v := .agg (allC (fun i j => j == asg c e i) noS noS)) (results_cell_row rfl _ _ w.heap.size 85 _ (0, 0) _ (by rfl) (show Blk _ _ _ _ by assumption) undAll rfl (infoAll' _ _ _)) rfl ⟨rfl, by assumption⟩
end Go.Proofs.YtgkoljphndgoeaaGreatDoor
