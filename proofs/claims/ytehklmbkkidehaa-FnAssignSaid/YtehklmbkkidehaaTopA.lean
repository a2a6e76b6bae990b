/-
  Several small texts in one: SetX SetI SetJ Pop SetC MBl Many PV SetL DrawW DrawS DrawV DrawL DrawB PpF PpV Row PpS HasK.
-/
import Derived.Test.YtehklmbkkidehaaSetW
import Derived.Test.YtehklmbkkidehaaIx0
import Derived.Test.YtehklmbkkidehaaSetS
import Derived.Deep.QuietTactic
import Derived.BigQuiet
import Derived.Test.YtehklmbkkidehaaByt
import Derived.Test.YtehklmbkkidehaaAsgS
import Derived.Test.YtehklmbkkidehaaQntI
import Derived.Deep.RegionHeld3
import Derived.Test.YtehklmbkkidehaaDraw
import Derived.Test.YtehklmbkkidehaaDrawUV
import Derived.Test.YtehklmbkkidehaaTst
import Derived.Test.YtehklmbkkidehaaDrawU
import Derived.Test.YtehklmbkkidehaaBlk
import Derived.Laws.OwnMore
import Derived.Deep.AppendLies
import Derived.Deep.Onto
import Derived.RowKit3
namespace Go.Proofs.Ytehklmbkkidehaa
open Go.RowKit

set_option maxHeartbeats 1000000 in
theorem implWithin (F G : Nat → Bool) (w : World) : Calls Try.prog 44 #[.int .u32 (nb 27 F), .int .u32 (nb 27 G)] w fun e w' => e = .returned (.bool (wi 27 F G)) ∧ w = w' := by
  have H := Lib.hid (within_bits F G)
  go_enter Try.func44, Try.ntmps44
  go_wp2_with fail
  go_ret
  exact ⟨by rw [← H.out]; rfl, rfl⟩
end Go.Proofs.Ytehklmbkkidehaa

namespace Go.Proofs.Ytehklmbkkidehaa
open Go.RowKit

set_option maxHeartbeats 1000000 in
theorem implReads_yes (p q : ByteArray) (w : World) (hp : Set27 p) (hq : Set27 q) : Calls Try.prog 43 #[.string p, .string q] w fun e w' => e = .returned (.tuple #[.int .u32 (nb 27 (hs p.data.toList)), .int .u32 (nb 27 (hs q.data.toList)), .bool true]) ∧ w = w' := by
  have C := fun w => Lib.hid (implRead_yes p w hp)
  have D := fun w => Lib.hid (implRead_yes q w hq)
  go_enter Try.func43, Try.ntmps43
  go_wp2_with fail
  refine (C _).out.mono ?_
  rintro e w' ⟨rfl, rfl⟩
  go_wp2_with fail
  refine (D _).out.mono ?_
  rintro e w' ⟨rfl, rfl⟩
  go_wp2_with fail
  go_ret3
  exact ⟨rfl, rfl⟩
set_option maxHeartbeats 1000000 in
theorem implReads_no (p q : ByteArray) (w : World) (h : ¬ (Set27 p ∧ Set27 q)) : Calls Try.prog 43 #[.string p, .string q] w fun e w' => e = .returned (.tuple #[.int .u32 0, .int .u32 0, .bool false]) ∧ w = w' := by
  by_cases hp : Set27 p
  · have hq : ¬ Set27 q := fun hq => h ⟨hp, hq⟩
    have C := fun w => Lib.hid (implRead_yes p w hp)
    have D := fun w => Lib.hid (implRead_no q w hq)
    clear h hq
    go_enter Try.func43, Try.ntmps43
    go_wp2_with fail
    refine (C _).out.mono ?_
    rintro e w' ⟨rfl, rfl⟩
    go_wp2_with fail
    refine (D _).out.mono ?_
    rintro e w' ⟨rfl, rfl⟩
    go_wp2_with fail
    go_ret3
    exact ⟨rfl, rfl⟩
  · have C := fun w => Lib.hid (implRead_no p w hp)
    clear h hp
    by_cases hq : Set27 q
    · have D := fun w => Lib.hid (implRead_yes q w hq)
      clear hq
      go_enter Try.func43, Try.ntmps43
      go_wp2_with fail
      refine (C _).out.mono ?_
      rintro e w' ⟨rfl, rfl⟩
      go_wp2_with fail
      refine (D _).out.mono ?_
      rintro e w' ⟨rfl, rfl⟩
      go_wp2_with fail
      go_ret3
      exact ⟨rfl, rfl⟩
    · have D := fun w => Lib.hid (implRead_no q w hq)
      clear hq
      go_enter Try.func43, Try.ntmps43
      go_wp2_with fail
      refine (C _).out.mono ?_
      rintro e w' ⟨rfl, rfl⟩
      go_wp2_with fail
      refine (D _).out.mono ?_
      rintro e w' ⟨rfl, rfl⟩
      go_wp2_with fail
      go_ret3
      exact ⟨rfl, rfl⟩

theorem and_bits (F G : Nat → Bool) : bits .and .u32 (nb 27 F : Nat) (nb 27 G : Nat) = (nb 27 (fun i => F i && G i) : Nat) := by
  have h := nb_lt27 F; have h' := nb_lt27 G
  rw [u32_and_nat _ _ (by omega) (by omega), nb_and]
theorem or_bits (F G : Nat → Bool) : bits .or .u32 (nb 27 F : Nat) (nb 27 G : Nat) = (nb 27 (fun i => F i || G i) : Nat) := by
  have h := nb_lt27 F; have h' := nb_lt27 G
  rw [u32_or_nat _ _ (by omega) (by omega), nb_or2]

set_option maxHeartbeats 1000000 in
theorem implNotP_yes (p : ByteArray) (w : World) (hp : Set27 p) : Calls Try.prog 40 #[.string p] w fun e w' => e = .returned (.tuple #[.string (bs (tb (fun i => !hs p.data.toList i))), .bool true]) ∧ Below w.heap.size w w' := by
  have C := fun w => Lib.hid (implRead_yes p w hp)
  have N := fun w => Lib.hid (implNot (hs p.data.toList) w)
  have D := fun w => Lib.hid (implText (fun i => !hs p.data.toList i) w)
  go_enter Try.func40, Try.ntmps40
  go_wp2_with fail
  refine (C _).out.mono ?_
  rintro e w' ⟨rfl, rfl⟩
  go_wp2_with fail
  refine (N _).out.mono ?_
  rintro e w' ⟨rfl, rfl⟩
  go_wp2_with fail
  refine (D _).out.mono ?_
  rintro e w1 ⟨rfl, hb⟩
  have HB := Lib.hid hb
  clear hb
  go_wp2_with fail
  go_ret2
  exact ⟨rfl, HB.out⟩
set_option maxHeartbeats 1000000 in
theorem implNotP_no (p : ByteArray) (w : World) (h : ¬ Set27 p) : Calls Try.prog 40 #[.string p] w fun e w' => e = .returned (.tuple #[.string (bs []), .bool false]) ∧ Below w.heap.size w w' := by
  have C := fun w => Lib.hid (implRead_no p w h)
  clear h
  go_enter Try.func40, Try.ntmps40
  go_wp2_with fail
  refine (C _).out.mono ?_
  rintro e w' ⟨rfl, rfl⟩
  go_wp2_with fail
  go_ret2
  exact ⟨rfl, Below.refl _ _⟩

set_option maxHeartbeats 1000000 in
theorem implPWithin_yes (p q : ByteArray) (w : World) (hp : Set27 p) (hq : Set27 q) : Calls Try.prog 16 #[.string p, .string q] w fun e w' => e = .returned (.bool (wi 27 (hs p.data.toList) (hs q.data.toList))) ∧ w = w' := by
  have C := fun w => Lib.hid (implReads_yes p q w hp hq)
  have D := fun w => Lib.hid (implWithin (hs p.data.toList) (hs q.data.toList) w)
  go_enter Try.func16, Try.ntmps16
  go_wp2_with fail
  refine (C _).out.mono ?_
  rintro e w' ⟨rfl, rfl⟩
  go_wp2_with fail
  refine (D _).out.mono ?_
  rintro e w' ⟨rfl, rfl⟩
  go_wp2_with fail
  go_ret
  exact ⟨rfl, rfl⟩
set_option maxHeartbeats 1000000 in
theorem implPWithin_no (p q : ByteArray) (w : World) (h : ¬ (Set27 p ∧ Set27 q)) : Calls Try.prog 16 #[.string p, .string q] w fun e w' => e = .returned (.bool false) ∧ w = w' := by
  have C := fun w => Lib.hid (implReads_no p q w h)
  clear h
  go_enter Try.func16, Try.ntmps16
  go_wp2_with fail
  refine (C _).out.mono ?_
  rintro e w' ⟨rfl, rfl⟩
  go_wp2_with fail
  go_ret
  exact ⟨rfl, rfl⟩

/-- The number of a state. -/
def ixn (x y z : Int) : Nat := (x + 3 * y + 9 * z).toNat
theorem ixn_lt {x y z : Int} (h : st3 x y z = true) : ixn x y z < 27 ∧ ((ixn x y z : Nat) : Int) = x + 3 * y + 9 * z := by
  have h := st3_lt h
  unfold ixn; omega

set_option maxHeartbeats 1000000 in
theorem implHasS_yes (p : ByteArray) (x y z : Int) (w : World) (hp : Set27 p) (h : st3 x y z = true) : Calls Try.prog 11 #[.string p, .agg #[.int .i64 x, .int .i64 y, .int .i64 z]] w fun e w' => e = .returned (.bool (hs p.data.toList (ixn x y z))) ∧ Below w.heap.size w w' := by
  have C := fun w => Lib.hid (implRead_yes p w hp)
  have V := fun w => Lib.hid (implStateValid x y z w)
  rw [h] at V
  have hi := ixn_lt h
  have I := fun w => Lib.hid (implIx_yes x y z w h)
  rw [← hi.2] at I
  have D := fun w => Lib.hid (implHasB (hs p.data.toList) (ixn x y z) w hi.1)
  clear hi h
  go_enter Try.func11, Try.ntmps11
  go_wp2_with fail
  have HT0 := Lib.hid (Blk.new w #[.int .i64 x, .int .i64 y, .int .i64 z] 30)
  have HB0 := Lib.hid ((Below.refl _ w).alloc (Nat.le_refl _) (.cells #[.int .i64 x, .int .i64 y, .int .i64 z] 30))
  generalize w.alloc (.cells #[.int .i64 x, .int .i64 y, .int .i64 z] 30) = w0 at *
  refine (C _).out.mono ?_
  rintro e w' ⟨rfl, rfl⟩
  obtain ⟨q0, q1, q2⟩ := HT0.out.c3
  go_wp2_with fail
  clear q0 q1 q2
  refine (V _).out.mono ?_
  rintro e w1 ⟨rfl, hb⟩
  have HB1 := Lib.hid (bnext HB0.out hb)
  have HT1 := Lib.hid (HT0.out.kept hb)
  clear hb
  obtain ⟨q0, q1, q2⟩ := HT1.out.c3
  go_wp2_with fail
  clear q0 q1 q2
  refine (I _).out.mono ?_
  rintro e w2 ⟨rfl, hb⟩
  have HB2 := Lib.hid (bnext HB1.out hb)
  clear hb
  go_wp2_with fail
  refine (D _).out.mono ?_
  rintro e w' ⟨rfl, rfl⟩
  go_wp2_with fail
  go_ret
  exact ⟨rfl, HB2.out⟩
set_option maxHeartbeats 1000000 in
theorem implHasS_st (p : ByteArray) (x y z : Int) (w : World) (hp : Set27 p) (h : st3 x y z = false) : Calls Try.prog 11 #[.string p, .agg #[.int .i64 x, .int .i64 y, .int .i64 z]] w fun e w' => e = .returned (.bool false) ∧ Below w.heap.size w w' := by
  have C := fun w => Lib.hid (implRead_yes p w hp)
  have V := fun w => Lib.hid (implStateValid x y z w)
  rw [h] at V
  clear h
  go_enter Try.func11, Try.ntmps11
  go_wp2_with fail
  have HT0 := Lib.hid (Blk.new w #[.int .i64 x, .int .i64 y, .int .i64 z] 30)
  have HB0 := Lib.hid ((Below.refl _ w).alloc (Nat.le_refl _) (.cells #[.int .i64 x, .int .i64 y, .int .i64 z] 30))
  generalize w.alloc (.cells #[.int .i64 x, .int .i64 y, .int .i64 z] 30) = w0 at *
  refine (C _).out.mono ?_
  rintro e w' ⟨rfl, rfl⟩
  obtain ⟨q0, q1, q2⟩ := HT0.out.c3
  go_wp2_with fail
  clear q0 q1 q2
  refine (V _).out.mono ?_
  rintro e w1 ⟨rfl, hb⟩
  have HB1 := Lib.hid (bnext HB0.out hb)
  clear hb
  go_wp2_with fail
  go_ret
  exact ⟨rfl, HB1.out⟩
set_option maxHeartbeats 1000000 in
theorem implHasS_no (p : ByteArray) (x y z : Int) (w : World) (hp : ¬ Set27 p) : Calls Try.prog 11 #[.string p, .agg #[.int .i64 x, .int .i64 y, .int .i64 z]] w fun e w' => e = .returned (.bool false) ∧ Below w.heap.size w w' := by
  have C := fun w => Lib.hid (implRead_no p w hp)
  clear hp
  go_enter Try.func11, Try.ntmps11
  go_wp2_with fail
  refine (C _).out.mono ?_
  rintro e w' ⟨rfl, rfl⟩
  go_wp2_with fail
  go_ret
  exact ⟨rfl, (Below.refl _ _).alloc (Nat.le_refl _) _⟩
end Go.Proofs.Ytehklmbkkidehaa

namespace Go.Proofs.Ytehklmbkkidehaa
open Go.RowKit

theorem set27_size {p : ByteArray} (h : Set27 p) : p.size = 27 := by have := h.1; simpa using this

theorem wi_eq (p q : ByteArray) (hp : Set27 p) : ((bs (tb (fun i => hs p.data.toList i && hs q.data.toList i))).toList == p.toList) = wi 27 (hs p.data.toList) (hs q.data.toList) := by
  rw [bytes_eq, Bool.eq_iff_iff, decide_eq_true_eq, wi_iff]
  have e : bs p.data.toList = p := by apply ByteArray.ext; simp [bs]
  constructor
  · intro h i hi hF
    have h2 : tb (fun i => hs p.data.toList i && hs q.data.toList i) = tbn 27 (hs p.data.toList) := by
      rw [tbn_hs hp]
      have := congrArg (fun b : ByteArray => b.data.toList) h
      simpa [bs] using this
    have h3 := tbn_inj h2 i hi
    simpa [hF] using h3
  · intro h
    rw [show tb (fun i => hs p.data.toList i && hs q.data.toList i) = tbn 27 (hs p.data.toList) from tbn_congr fun i hi => by
      cases hF : hs p.data.toList i
      · rfl
      · simp [h i hi hF], tbn_hs hp, e]

/-- The number of a state. -/
def ixs (x y z : Int) : Nat := (x + 3 * y + 9 * z).toNat
theorem ixs_lt {x y z : Int} (h : st3 x y z = true) : ixs x y z < 27 ∧ ((ixs x y z : Nat) : Int) = x + 3 * y + 9 * z := by
  have h := st3_lt h
  unfold ixs; omega

end Go.Proofs.Ytehklmbkkidehaa

namespace Go.Proofs.Ytehklmbkkidehaa
open Go.RowKit

theorem mask8 (m : Nat) (hm : m < 4294967296) : bits .and .u32 (m : Int) 255 = ((m % 256 : Nat) : Int) := by
  rw [show (255 : Int) = ((255 : Nat) : Int) from rfl, u32_and_nat _ _ hm (by omega), nat_mask8]

def tabl : List UInt8 := (List.range 256).map fun x => UInt8.ofNat (cnt 8 x.testBit)
theorem tab_at (T : ByteArray) (hT : T.data.toList = tabl) (a : Nat) (h : a < T.size) : ((T[a]'h).toNat : Int) = (cnt 8 a.testBit : Nat) := by
  have e : T[a] = T.data.toList[a]'(by simpa using h) := rfl
  have h2 : a < tabl.length := by rw [← hT]; simpa using h
  have e2 : T[a] = tabl[a] := by rw [e]; simp only [hT]
  rw [e2]
  simp only [tabl, List.getElem_map, List.getElem_range]
  have := cnt_le 8 a.testBit
  rw [UInt8.toNat_ofNat_of_lt' (by show _ < 256; omega)]
theorem cnt_add (k m : Nat) (F : Nat → Bool) : cnt (k + m) F = cnt k F + cnt m (fun i => F (k + i)) := by
  induction m with
  | zero => rfl
  | succ m ih => rw [← Nat.add_assoc]; simp only [cnt]; rw [ih]; omega
theorem cnt_congr {k : Nat} {F G : Nat → Bool} (h : ∀ i, i < k → F i = G i) : cnt k F = cnt k G := by
  induction k with
  | zero => rfl
  | succ k ih => simp only [cnt]; rw [ih (fun i hi => h i (by omega)), h k (by omega)]
theorem cnt_zero {k : Nat} {F : Nat → Bool} (h : ∀ i, i < k → F i = false) : cnt k F = 0 := by
  induction k with
  | zero => rfl
  | succ k ih => simp only [cnt]; rw [ih (fun i hi => h i (by omega)), h k (by omega)]; rfl
theorem pop_split (n : Nat) (hn : n < 134217728) : cnt 27 n.testBit = cnt 8 (n / 16777216).testBit + cnt 8 (n / 65536 % 256).testBit + cnt 8 (n / 256 % 256).testBit + cnt 8 (n % 256).testBit := by
  have h32 : cnt 32 n.testBit = cnt 27 n.testBit := by
    rw [show (32 : Nat) = 27 + 5 from rfl, cnt_add]
    rw [cnt_zero (k := 5) (F := fun i => n.testBit (27 + i)) (fun i _ => Nat.testBit_lt_two_pow (Nat.lt_of_lt_of_le hn (Nat.pow_le_pow_right (n := 2) (by omega) (by omega : 27 ≤ 27 + i))))]
    omega
  rw [← h32, show (32 : Nat) = 8 + (8 + (8 + 8)) from rfl, cnt_add, cnt_add, cnt_add]
  rw [cnt_congr (G := (n % 256).testBit) (F := n.testBit) (fun i hi => by rw [show (256 : Nat) = 2 ^ 8 from rfl, Nat.testBit_mod_two_pow]; simp [hi])]
  rw [cnt_congr (G := (n / 256 % 256).testBit) (F := fun i => n.testBit (8 + i)) (fun i hi => by rw [show n / 256 % 256 = n / 2 ^ 8 % 2 ^ 8 from rfl, Nat.testBit_mod_two_pow, Nat.testBit_div_two_pow]; simp [hi, Nat.add_comm])]
  rw [cnt_congr (G := (n / 65536 % 256).testBit) (F := fun i => n.testBit (8 + (8 + i))) (fun i hi => by rw [show n / 65536 % 256 = n / 2 ^ 16 % 2 ^ 8 from rfl, Nat.testBit_mod_two_pow, Nat.testBit_div_two_pow]; simp [hi]; congr 1; omega)]
  rw [cnt_congr (G := (n / 16777216).testBit) (F := fun i => n.testBit (8 + (8 + (8 + i)))) (fun i hi => by rw [show n / 16777216 = n / 2 ^ 24 from rfl, Nat.testBit_div_two_pow]; congr 1; omega)]
  omega

set_option maxRecDepth 100000 in
set_option maxHeartbeats 4000000 in
theorem popAny (n : Nat) (w : World) (hn : n < 134217728) : Calls Try.prog 45 #[.int .u32 n] w fun e w' => e = .returned (.int .i64 (cnt 27 n.testBit : Nat)) ∧ ∃ m, w' = w.drewN m := by
  have HN := Lib.hid (pop_split n hn)
  obtain ⟨a, ha⟩ : ∃ a : Nat, n / 16777216 = a := ⟨_, rfl⟩
  obtain ⟨b, hb⟩ : ∃ a : Nat, n / 65536 % 256 = a := ⟨_, rfl⟩
  obtain ⟨c, hc⟩ : ∃ a : Nat, n / 256 % 256 = a := ⟨_, rfl⟩
  obtain ⟨d, hd⟩ : ∃ a : Nat, n % 256 = a := ⟨_, rfl⟩
  have ea : (n : Int) / 16777216 = a := by omega
  have eb : bits .and .u32 ((n : Int) / 65536) 255 = b := by rw [show (n : Int) / 65536 = ((n / 65536 : Nat) : Int) by omega, mask8 _ (by omega), hb]
  have ec : bits .and .u32 ((n : Int) / 256) 255 = c := by rw [show (n : Int) / 256 = ((n / 256 : Nat) : Int) by omega, mask8 _ (by omega), hc]
  have ed : bits .and .u32 (n : Int) 255 = d := by rw [mask8 _ (by omega), hd]
  have la : (a : Int) < 256 := by omega
  have lb : (b : Int) < 256 := by omega
  have lc : (c : Int) < 256 := by omega
  have ld : (d : Int) < 256 := by omega
  have ka : (0 : Int) ≤ a := by omega
  have kb : (0 : Int) ≤ b := by omega
  have kc : (0 : Int) ≤ c := by omega
  have kd : (0 : Int) ≤ d := by omega
  have HA := Lib.hid ha
  have HB := Lib.hid hb
  have HC := Lib.hid hc
  have HD := Lib.hid hd
  clear ha hb hc hd
  go_enter Try.func45, Try.ntmps45
  go_wp2_with fail
  go_quiet (fail)
  go_wp2_with fail
  go_ret
  refine ⟨?_, _, rfl⟩
  refine congrArg (fun z : Int => Ending.returned (.int .i64 z)) ?_
  rw [HN.out, HA.out, HB.out, HC.out, HD.out, tab_at (a := a), tab_at (a := b), tab_at (a := c), tab_at (a := d)]
  · have h1 := cnt_le 8 a.testBit
    have h2 := cnt_le 8 b.testBit
    have h3 := cnt_le 8 c.testBit
    have h4 := cnt_le 8 d.testBit
    omega
  all_goals kernel_rfl
end Go.Proofs.Ytehklmbkkidehaa

namespace Go.Proofs.Ytehklmbkkidehaa
open Go.RowKit

theorem cnt_nb (F : Nat → Bool) : cnt 27 (nb 27 F).testBit = cnt 27 F := cnt_congr fun i hi => by rw [nb_bit]; simp [hi]

set_option maxHeartbeats 1000000 in
theorem implCountP_yes (p : ByteArray) (w : World) (hp : Set27 p) : Calls Try.prog 17 #[.string p] w fun e w' => e = .returned (.int .i64 (cnt 27 (hs p.data.toList))) ∧ Below w.heap.size w w' := by
  have C := fun w => Lib.hid (implRead_yes p w hp)
  have E := fun w => Lib.hid (popAny (nb 27 (hs p.data.toList)) w (nb_lt27 _))
  rw [cnt_nb] at E
  go_enter Try.func17, Try.ntmps17
  go_wp2_with fail
  refine (C _).out.mono ?_
  rintro e w' ⟨rfl, rfl⟩
  go_wp2_with fail
  refine (E _).out.mono ?_
  rintro e w1 ⟨rfl, m, rfl⟩
  go_wp2_with fail
  go_ret
  exact ⟨rfl, bdrewN (Below.refl _ _) m⟩
set_option maxHeartbeats 1000000 in
theorem implCountP_no (p : ByteArray) (w : World) (hp : ¬ Set27 p) : Calls Try.prog 17 #[.string p] w fun e w' => e = .returned (.int .i64 (-1)) ∧ Below w.heap.size w w' := by
  have C := fun w => Lib.hid (implRead_no p w hp)
  clear hp
  go_enter Try.func17, Try.ntmps17
  go_wp2_with fail
  refine (C _).out.mono ?_
  rintro e w' ⟨rfl, rfl⟩
  go_wp2_with fail
  go_ret
  exact ⟨rfl, Below.refl _ _⟩
end Go.Proofs.Ytehklmbkkidehaa

namespace Go.Proofs.Ytehklmbkkidehaa
open Go.RowKit

/-- The first cells of a block are these bytes, and may be written. -/
structure MBlk (w : World) (b : Nat) (l : List UInt8) : Prop where
  get : ∀ i (h : i < l.length), w.cell? ⟨b, i, none⟩ = some (.int .u8 (l[i].toNat : Int))
  free : ∀ i, i < l.length → w.frozen? ⟨b, i, none⟩ = false
  lt : b < w.heap.size
theorem MBlk.kept {w w' : World} {b : Nat} {l : List UInt8} (h : MBlk w b l) (hb : Below w.heap.size w w') : MBlk w' b l :=
  ⟨fun i hi => ckeep hb (h.get i hi), fun i hi => (hb.frozen (p := ⟨b, i, none⟩) h.lt).trans (h.free i hi), Nat.lt_of_lt_of_le h.lt hb.size⟩
theorem MBlk.set {w : World} {b : Nat} {l : List UInt8} (h : MBlk w b l) (i : Nat) (hi : i < l.length) (c : UInt8) : MBlk (w.setCell ⟨b, i, none⟩ (.int .u8 c.toNat)) b (l.set i c) := by
  refine ⟨fun j hj => ?_, fun j hj => ?_, ?_⟩
  · have hj2 : j < l.length := by simpa using hj
    by_cases e : i = j
    · subst e
      have := h.get i hi
      simp [go_sem, this]
    · rw [World.cell?_setCell_other _ _ _ _ (by intro e2; injection e2; omega), h.get j hj2, List.getElem_set_ne e]
  · have hj2 : j < l.length := by simpa using hj
    have := h.free j hj2
    simpa [go_sem] using this
  · have := h.lt
    simpa [World.setCell] using this
theorem bytesOf (w : World) (l : List UInt8) : ∃ cap W', (convert 9 22 (.string (bs l))).run Try.prog w = .ok (.slice (some ⟨w.heap.size, 0, none⟩) l.length cap) W' ∧ MBlk W' w.heap.size l ∧ Below w.heap.size w W' := by
  have h := run_bytes_of_string (P := Try.prog) w 9 22 5 (bs l) Try.underlying9 Try.underlying22 Try.underlying5
  rw [bs_size] at h
  obtain ⟨C, hC⟩ : ∃ C, C = bytesRow (bs l) (grownCap w l.length 0 5) := ⟨_, rfl⟩
  rw [← hC] at h
  have hget : ∀ i (hi : i < l.length), C[i]? = some (.int .u8 (l[i].toNat : Int)) := fun i hi => by
    rw [hC, bytesRow, Array.getElem?_append_left (by simpa [bs] using hi)]
    simp [bs, hi]
  have hsz : l.length ≤ C.size := by rw [hC, bytesRow]; simp [bs]
  have hbl : (w.drew.alloc (.cells C 5 (C.size, C.size + 1))).heap[w.heap.size]? = some (.cells C 5 (C.size, C.size + 1)) := by
    show (w.heap.push _)[w.heap.size]? = _
    simp
  refine ⟨_, _, h, ⟨?_, ?_, ?_⟩, ?_⟩
  · intro i hi
    rw [cell_of_row _ w.heap.size i C _ _ hbl]
    exact hget i hi
  · intro i hi
    have h2 : ¬ C.size ≤ i := by omega
    generalize w.drew.alloc (.cells C 5 (C.size, C.size + 1)) = W at hbl
    simp [World.frozen?, hbl, h2]
  · simp
  · exact ((Below.refl _ _).drew).alloc (Nat.le_refl _) _

theorem toStrM {w : World} {b : Nat} {l : List UInt8} (h : MBlk w b l) (n c : Nat) (hn : n = l.length) : (convert 22 9 (.slice (some ⟨b, 0, none⟩) n c)).run Try.prog w = .ok (.string (bs l)) w := by
  subst hn
  rw [run_convert_bytes_string _ _ _ 5 _ _ _ Try.underlying22 Try.underlying5 Try.underlying9]
  rw [run_bytesToString _ _ l.length c (l.map (fun c : UInt8 => (c.toNat : Int)))]
  · rw [fold_push]
    congr 2
  · have h2 := run_loadCells_list (w := w) (P := Try.prog) ⟨b, 0, none⟩ (l.map bv) (fun j v hj => by
      rw [List.getElem?_map] at hj
      have hlt : j < l.length := by
        rcases Nat.lt_or_ge j l.length with h | h
        · exact h
        · rw [List.getElem?_eq_none h] at hj; cases hj
      rw [List.getElem?_eq_getElem hlt] at hj
      simp at hj
      subst hj
      have e : (⟨b, 0, none⟩ : Addr).add j = ⟨b, j, none⟩ := by
        by_cases h0 : j = 0 <;> simp [Addr.add, h0]
      rw [e]
      exact h.get j hlt)
    simp at h2
    rw [h2]
    simp [bv, List.map_map, Function.comp_def]

end Go.Proofs.Ytehklmbkkidehaa

namespace Go.Proofs.Ytehklmbkkidehaa
open Go.RowKit Tm

/-- The text of no state. -/
def z48 : List UInt8 := List.replicate 27 48

set_option maxRecDepth 100000 in
set_option maxHeartbeats 2000000 in
theorem specMany (w : World) : Calls Try.prog 42 #[.string ⟨#[48]⟩, .int .i64 27] w fun e w' => e = .returned (.string (bs z48)) ∧ w = w' := by
  go_enter Try.func42, Try.ntmps42
  go_wp2_with fail
  refine wp_loop_rounds 6 ?_
  rw [rounds_succ]
  go_wp2_with fail
  rw [rounds_succ]
  go_wp2_with fail
  rw [rounds_succ]
  go_wp2_with fail
  rw [rounds_succ]
  go_wp2_with fail
  rw [rounds_succ]
  go_wp2_with fail
  rw [rounds_succ]
  go_wp2_with fail
  go_ret
  exact ⟨rfl, rfl⟩

theorem tbn_set (n : Nat) (G : Nat → Bool) (a : Nat) (ha : a < n) : (tbn n G).set a 49 = tbn n (fun j => G j || j == a) := by
  apply List.ext_getElem?
  intro i
  by_cases hi : i < n
  · rw [tbn_get n _ i hi, List.getElem?_set]
    by_cases e : a = i
    · subst e; simp [tbn_length, ha, bitc]
    · rw [if_neg e, tbn_get n G i hi]
      have : (i == a) = false := by rw [beq_eq_false_iff_ne]; omega
      simp [this]
  · rw [List.getElem?_eq_none (by simp [tbn_length]; omega), List.getElem?_eq_none (by rw [tbn_length]; omega)]
theorem imgL_zero (F : Nat → Bool) (st : Nat → Nat) : tbn 27 (imgF F st 0) = z48 := by
  rw [tbn_congr (G := fun _ => false) (fun i _ => by simp [imgF])]; rfl
theorem imgL_one {F : Nat → Bool} {st : Nat → Nat} {k : Nat} (h : F k = true) (ha : st k < 27) : (tbn 27 (imgF F st k)).set (st k) 49 = tbn 27 (imgF F st (k + 1)) := by
  rw [tbn_set 27 _ _ ha]
  apply tbn_congr
  intro i _
  rw [imgF_succ, h, Bool.true_and]
  congr 1
  rw [Bool.eq_iff_iff, beq_iff_eq, beq_iff_eq]; exact eq_comm
theorem imgL_nil {F : Nat → Bool} {st : Nat → Nat} {k : Nat} (h : F k = false) : tbn 27 (imgF F st k) = tbn 27 (imgF F st (k + 1)) := tbn_congr fun i _ => by
  rw [imgF_succ, h, Bool.false_and, Bool.or_false]

set_option maxRecDepth 100000 in
set_option maxHeartbeats 4000000 in
theorem specApost_yes (p v e : ByteArray) (w : World) (c : UInt8) (j : Nat) (hp : Set27 p) (hv : v = ⟨#[c]⟩) (hj : VarAt c j) {t : Tm} (ht : Ok false false t) (he : e.data.toList = t.ser) (hl : e.size ≤ 200) :
    Calls Try.prog 15 #[.string p, .string v, .string e] w fun e w' => e = .returned (.tuple #[.string (bs (tb (imgF (hs p.data.toList) (asg c t) 27))), .bool true]) ∧ Below w.heap.size w w' := by
  subst hv
  have C1 := fun w => Lib.hid (specPredValid_yes p w hp)
  have C2 := fun w => Lib.hid (specVar_yes c j w hj)
  have C3 := fun w => Lib.hid (specExpr_yes e w ⟨t, ht, he⟩ hl)
  have C4 := fun w => Lib.hid (specMany w)
  have A := fun i hi w => Lib.hid (specAsg c j hj e ht he hl i hi w)
  obtain ⟨hj3, hj0, hjd⟩ := varAt_bd hj
  have hp27 : p.size = 27 := by have := hp.1; simpa using this
  have HP := Lib.hid hp
  clear hp he hj
  go_enter Try.func15, Try.ntmps15
  go_wp2_with fail
  refine (C1 _).out.mono ?_
  rintro e w' ⟨rfl, rfl⟩
  go_wp2_with fail
  refine (C2 _).out.mono ?_
  rintro e w' ⟨rfl, rfl⟩
  go_wp2_with fail
  refine (C3 _).out.mono ?_
  rintro e w1 ⟨rfl, m, rfl⟩
  go_wp2_with fail
  refine (C4 _).out.mono ?_
  rintro e w' ⟨rfl, rfl⟩
  obtain ⟨cap, W0, hcv, hM, hB⟩ := bytesOf (w.drewN m) z48
  rw [show z48.length = 27 from rfl] at hcv
  have HM := Lib.hid hM
  have HB0 := Lib.hid (bnext (bdrewN (Below.refl w.heap.size w) m) hB)
  rw [show (w.drewN m).heap.size = w.heap.size from rfl] at HM hcv
  clear hM hB
  go_wp2_with fail
  go_loopw [9] (fun i wr => ∃ k : Nat, k ≤ 27 ∧ i = .int .i64 k ∧ MBlk wr w.heap.size (tbn 27 (imgF (hs p.data.toList) (asg c t) k)) ∧ Below w.heap.size w wr) (fun i _ => 27 - (intOf i).toNat)
  case atStart => exact ⟨0, by omega, rfl, by rw [imgL_zero]; exact HM.out, HB0.out⟩
  case round =>
    clear HM HB0 hcv
    obtain ⟨k, hk, rfl, hpt, hb⟩ := hrel
    by_cases hlt : k < 27
    · have HT := Lib.hid hpt
      have HB := Lib.hid hb
      clear hpt hb
      have hkp : k < p.size := by omega
      have hgk := hs_int p k hkp
      cases hF : hs p.data.toList k
      · have hn : ((p[k].toNat : Int) == 49) = false := by rw [← hgk, hF]
        have HL := Lib.hid (imgL_nil (st := asg c t) hF)
        clear hgk hF
        go_wp2_with fail
        exact ⟨⟨k + 1, by omega, by go_num, by rw [← HL.out]; exact HT.out, HB.out⟩, by simp [intOf]; omega⟩
      · have hn : ((p[k].toNat : Int) == 49) = true := by rw [← hgk, hF]
        have HL := Lib.hid (imgL_one (st := asg c t) hF (asg_lt ht hlt))
        clear hgk hF
        have C := fun w => Lib.hid (specAt0 k w (by omega) (by omega))
        have D := fun w => A k hlt w
        have hv := val_env ht hlt
        have ha := asg_lt (c := c) ht hlt
        have I := fun w => Lib.hid (specIx0 _ _ _ w (set_st3 (c := c) hv hlt))
        rw [← (ixx_lt (set_st3 (c := c) hv hlt)).2, ← setN_eq] at I
        rw [show setN c (val (env k) t) k = asg c t k from rfl] at I
        obtain ⟨a, hae⟩ : ∃ a, a = asg c t k := ⟨_, rfl⟩
        rw [← hae] at I ha
        have HE := Lib.hid hae
        clear hv hae
        go_wp2_with fail
        refine (C _).out.mono ?_
        rintro e w1 ⟨rfl, hb⟩
        have HB1 := Lib.hid (bnext HB.out hb)
        have HT1 := Lib.hid (HT.out.kept hb)
        clear hb
        go_wp2_with fail
        refine (C2 _).out.mono ?_
        rintro e w' ⟨rfl, rfl⟩
        go_wp2_with fail
        refine (D _).out.mono ?_
        rintro e w2 ⟨rfl, hb⟩
        have HB2 := Lib.hid (bnext HB1.out hb)
        have HT2 := Lib.hid (HT1.out.kept hb)
        clear hb
        go_wp2_with fail
        refine (I _).out.mono ?_
        rintro e w3 ⟨rfl, hb⟩
        have HB3 := Lib.hid (bnext HB2.out hb)
        have HT3 := Lib.hid (HT2.out.kept hb)
        clear hb
        have hc := HT3.out.get a (by rw [tbn_length]; exact ha)
        have hf := HT3.out.free a (by rw [tbn_length]; exact ha)
        generalize ((tbn 27 (imgF (hs p.data.toList) (asg c t) k))[a]'_).toNat = old at hc
        go_wp2_with fail
        refine ⟨⟨k + 1, by omega, by go_num, ?_, HB3.out.setCell (p := ⟨w.heap.size, a, none⟩) (Nat.le_refl _) _⟩, by simp [intOf]; omega⟩
        have h9 := HT3.out.set a (by rw [tbn_length]; exact ha) 49
        rw [← HL.out, ← HE.out]
        exact h9
    · have hk2 : k = 27 := by omega
      subst hk2
      have HB := Lib.hid hb
      have hv := toStrM hpt 27 cap (tbn_length 27 _).symm
      clear hpt hb hlt
      go_wp2_with fail
      go_ret2
      exact ⟨rfl, HB.out⟩
set_option maxHeartbeats 2000000 in
theorem specApost_p (p v e : ByteArray) (w : World) (hp : ¬ Set27 p) (hm : p.size ≤ maxLen) :
    Calls Try.prog 15 #[.string p, .string v, .string e] w fun e w' => e = .returned (.tuple #[.string (bs []), .bool false]) ∧ Below w.heap.size w w' := by
  have C1 := fun w => Lib.hid (specPredValid_no p w hp hm)
  clear hp
  go_enter Try.func15, Try.ntmps15
  go_wp2_with fail
  refine (C1 _).out.mono ?_
  rintro e w' ⟨rfl, rfl⟩
  go_wp2_with fail
  go_ret2
  exact ⟨rfl, Below.refl _ _⟩
set_option maxHeartbeats 2000000 in
theorem specApost_v (p v e : ByteArray) (w : World) (hp : Set27 p) (hv : ¬ IsVar v) (hm : v.size ≤ maxLen) :
    Calls Try.prog 15 #[.string p, .string v, .string e] w fun e w' => e = .returned (.tuple #[.string (bs []), .bool false]) ∧ Below w.heap.size w w' := by
  have C1 := fun w => Lib.hid (specPredValid_yes p w hp)
  have C2 := fun w => Lib.hid (specVar_no v w hm hv)
  clear hv
  go_enter Try.func15, Try.ntmps15
  go_wp2_with fail
  refine (C1 _).out.mono ?_
  rintro e w' ⟨rfl, rfl⟩
  go_wp2_with fail
  refine (C2 _).out.mono ?_
  rintro e w' ⟨rfl, rfl⟩
  go_wp2_with fail
  go_ret2
  exact ⟨rfl, Below.refl _ _⟩
set_option maxHeartbeats 2000000 in
theorem specApost_e (p v e : ByteArray) (w : World) (hp : Set27 p) (hv : IsVar v) (he : ¬ (Valid false false e.data.toList ∧ e.size ≤ 200)) :
    Calls Try.prog 15 #[.string p, .string v, .string e] w fun e w' => e = .returned (.tuple #[.string (bs []), .bool false]) ∧ Below w.heap.size w w' := by
  obtain ⟨c, j, rfl, hj, _⟩ := var_at hv
  have C1 := fun w => Lib.hid (specPredValid_yes p w hp)
  have C2 := fun w => Lib.hid (specVar_yes c j w hj)
  have C3 := fun w => Lib.hid (specExpr_no e w he)
  obtain ⟨hj3, hj0, hjd⟩ := varAt_bd hj
  clear hv he hj
  go_enter Try.func15, Try.ntmps15
  go_wp2_with fail
  refine (C1 _).out.mono ?_
  rintro e w' ⟨rfl, rfl⟩
  go_wp2_with fail
  refine (C2 _).out.mono ?_
  rintro e w' ⟨rfl, rfl⟩
  go_wp2_with fail
  refine (C3 _).out.mono ?_
  rintro e w1 ⟨rfl, m, rfl⟩
  go_wp2_with fail
  go_ret2
  exact ⟨rfl, bdrewN (Below.refl _ _) m⟩
theorem specApost_no (p v e : ByteArray) (w : World) (hm : p.size ≤ maxLen) (hm2 : v.size ≤ maxLen) (h : ¬ (Set27 p ∧ IsVar v ∧ Valid false false e.data.toList ∧ e.size ≤ 200)) :
    Calls Try.prog 15 #[.string p, .string v, .string e] w fun e w' => e = .returned (.tuple #[.string (bs []), .bool false]) ∧ Below w.heap.size w w' := by
  by_cases hp : Set27 p
  · by_cases hv : IsVar v
    · exact specApost_e p v e w hp hv (fun he => h ⟨hp, hv, he⟩)
    · exact specApost_v p v e w hp hv hm2
  · exact specApost_p p v e w hp hm
end Go.Proofs.Ytehklmbkkidehaa

namespace Go.Proofs.Ytehklmbkkidehaa
open Go.RowKit Tm

/-- Does a set depend on a variable, up to a state? -/
def depU (c : UInt8) (F : Nat → Bool) (k : Nat) : Bool := (List.range k).any fun i => F i != F (setN c 0 i)
theorem depU_succ (c : UInt8) (F : Nat → Bool) (k : Nat) : depU c F (k + 1) = (depU c F k || F k != F (setN c 0 k)) := by simp [depU, List.range_succ]

theorem byte_neq {s : ByteArray} {n : Nat} (h : Bits n s.data.toList) (a b : Nat) (ha : a < s.size) (hb : b < s.size) : ((s[a].toNat : Int) != (s[b].toNat : Int)) = (hs s.data.toList a != hs s.data.toList b) := by
  rw [hs_int s a ha, hs_int s b hb]
  have h1 : s[a] = 48 ∨ s[a] = 49 := h.2 a (by simpa using ha)
  have h2 : s[b] = 48 ∨ s[b] = 49 := h.2 b (by simpa using hb)
  rcases h1 with h1 | h1 <;> rcases h2 with h2 | h2 <;> rw [h1, h2] <;> rfl

def chr (j : Nat) : UInt8 := if j = 0 then 120 else if j = 1 then 121 else 122
theorem chr_var (j : Nat) (h : j < 3) : VarAt (chr j) j := by
  have hc : j = 0 ∨ j = 1 ∨ j = 2 := by omega
  rcases hc with rfl | rfl | rfl <;> simp [VarAt, chr]
theorem xyz_at (j : Nat) (h : j < 3) : (ByteArray.mk #[120, 121, 122]).extract j (j + 1) = bs [chr j] := by
  have hc : j = 0 ∨ j = 1 ∨ j = 2 := by omega
  rcases hc with rfl | rfl | rfl <;> rfl
/-- The letters of the first variables on which a set depends. -/
def depP (F : Nat → Bool) : Nat → List UInt8
  | 0 => []
  | j + 1 => depP F j ++ (if depU (chr j) F 27 then [chr j] else [])
theorem depP_len (F : Nat → Bool) (j : Nat) : (depP F j).length ≤ j := by
  induction j with
  | zero => exact Nat.le_refl _
  | succ j ih => unfold depP; split <;> simp <;> omega

theorem setN_setN : ∀ c ∈ [(120 : UInt8), 121, 122], ∀ n, n < 3 → ∀ m, m < 3 → ∀ i, i < 27 → setN c (m : Nat) (setN c (n : Nat) i) = setN c (m : Nat) i := by decide +kernel

theorem dep_eq (c : UInt8) (hc : c ∈ [(120 : UInt8), 121, 122]) (F : Nat → Bool) : depU c F 27 = depB c F := by
  have hlt : ∀ n, n < 3 → ∀ i, i < 27 → setN c (n : Nat) i < 27 := fun n hn i hi => setN_lt (val3_t (by omega) (by omega)) hi
  rw [Bool.eq_iff_iff]
  unfold depU depB
  rw [List.any_eq_true, bne_iff_ne]
  constructor
  · rintro ⟨i, hi, hne⟩ e
    have hi : i < 27 := by simpa using hi
    have heq : nb 27 (someF c F) = nb 27 F := by omega
    have e1 := nb_inj heq i hi
    have e2 : someF c F (setN c 0 i) = F (setN c 0 i) := nb_inj heq (setN c 0 i) (hlt 0 (by omega) i hi)
    have a0 : setN c 0 (setN c 0 i) = setN c 0 i := setN_setN c hc 0 (by omega) 0 (by omega) i hi
    have a1 : setN c 1 (setN c 0 i) = setN c 1 i := setN_setN c hc 0 (by omega) 1 (by omega) i hi
    have a2 : setN c 2 (setN c 0 i) = setN c 2 i := setN_setN c hc 0 (by omega) 2 (by omega) i hi
    have e3 : someF c F (setN c 0 i) = someF c F i := by unfold someF; rw [a0, a1, a2]
    rw [e1, e2] at e3
    rw [e3] at hne
    simp at hne
  · intro hne
    refine Decidable.byContradiction fun hno => hne ?_
    have hall : ∀ i, i < 27 → F i = F (setN c 0 i) := fun i hi => by
      refine Decidable.byContradiction fun h => hno ⟨i, by simpa using hi, ?_⟩
      simpa using h
    have : nb 27 (someF c F) = nb 27 F := nb_congr fun i hi => by
      have b1 : F (setN c 1 i) = F (setN c 0 (setN c 1 i)) := hall (setN c 1 i) (hlt 1 (by omega) i hi)
      have b2 : F (setN c 2 i) = F (setN c 0 (setN c 2 i)) := hall (setN c 2 i) (hlt 2 (by omega) i hi)
      have a1 : setN c 0 (setN c 1 i) = setN c 0 i := setN_setN c hc 1 (by omega) 0 (by omega) i hi
      have a2 : setN c 0 (setN c 2 i) = setN c 0 i := setN_setN c hc 2 (by omega) 0 (by omega) i hi
      unfold someF
      rw [b1, b2, a1, a2, ← hall i hi, Bool.or_self, Bool.or_self]
    rw [this]

theorem depP_eq (F : Nat → Bool) : depP F 3 = depL F := by
  show (([] ++ (if depU (chr 0) F 27 then [chr 0] else [])) ++ (if depU (chr 1) F 27 then [chr 1] else [])) ++ (if depU (chr 2) F 27 then [chr 2] else []) = _
  rw [show chr 0 = 120 from rfl, show chr 1 = 121 from rfl, show chr 2 = 122 from rfl, dep_eq 120 (by simp) F, dep_eq 121 (by simp) F, dep_eq 122 (by simp) F]
  rfl

end Go.Proofs.Ytehklmbkkidehaa

namespace Go.Proofs.Ytehklmbkkidehaa
open Go.RowKit

theorem hs_bs (F : Nat → Bool) (i : Nat) (hi : i < 27) : hs (bs (tb F)).data.toList i = F i := by
  rw [show (bs (tb F)).data.toList = tb F by simp [bs]]
  rw [show tb F = tbn 27 F from rfl, hs_tbn]
  simp [hi]
theorem bs_hs {p : ByteArray} (h : Set27 p) : bs (tb (hs p.data.toList)) = p := by
  rw [show tb (hs p.data.toList) = tbn 27 (hs p.data.toList) from rfl, tbn_hs h]
  exact ByteArray.ext (by simp [bs])
theorem bs_ext {F G : Nat → Bool} (h : ∀ i, i < 27 → F i = G i) : bs (tb F) = bs (tb G) := by rw [tb_congr h]
theorem set27_tb (F : Nat → Bool) : Set27 (bs (tb F)) := by
  unfold Set27
  rw [show (bs (tb F)).data.toList = tb F by simp [bs]]
  exact bits_tbn 27 F
theorem set27_max {p : ByteArray} (h : Set27 p) : p.size ≤ 28 := by have := set27_size h; omega
theorem bs_inj {F G : Nat → Bool} (h : bs (tb F) = bs (tb G)) (i : Nat) (hi : i < 27) : F i = G i := by
  rw [← hs_bs F i hi, ← hs_bs G i hi, h]

theorem cnt_same {n : Nat} {F G : Nat → Bool} (h : ∀ i, i < n → F i = G i) : cnt n F = cnt n G := by
  induction n with
  | zero => rfl
  | succ n ih => unfold cnt; rw [ih (fun i hi => h i (by omega)), h n (by omega)]
theorem cnt_not (n : Nat) (F : Nat → Bool) : cnt n F + cnt n (fun i => !F i) = n := by
  induction n with
  | zero => rfl
  | succ n ih => unfold cnt; cases h : F n <;> simp [h] <;> omega
theorem cnt_and_or (n : Nat) (F G : Nat → Bool) : cnt n (fun i => F i && G i) + cnt n (fun i => F i || G i) = cnt n F + cnt n G := by
  induction n with
  | zero => rfl
  | succ n ih => unfold cnt; cases h : F n <;> cases h2 : G n <;> simp [h, h2] <;> omega
theorem cnt_nil {n : Nat} {F : Nat → Bool} : cnt n F = 0 ↔ ∀ i, i < n → F i = false := by
  induction n with
  | zero => exact ⟨fun _ i hi => by omega, fun _ => rfl⟩
  | succ n ih =>
    unfold cnt
    constructor
    · intro h i hi
      have h1 : cnt n F = 0 := by omega
      by_cases e : i = n
      · subst e; cases hF : F i <;> simp [hF] at h ⊢
      · exact ih.1 h1 i (by omega)
    · intro h
      rw [ih.2 (fun i hi => h i (by omega)), h n (by omega)]; rfl

theorem letter_mem {c : UInt8} (h : c = 120 ∨ c = 121 ∨ c = 122) : c ∈ [(120 : UInt8), 121, 122] := by simp [h]
theorem depU_congr {c : UInt8} {F G : Nat → Bool} (h : ∀ i, i < 27 → F i = G i) : depU c F 27 = depU c G 27 := by
  unfold depU
  rw [Bool.eq_iff_iff, List.any_eq_true, List.any_eq_true]
  constructor
  · rintro ⟨i, hi, he⟩
    have hi2 : i < 27 := by simpa using hi
    exact ⟨i, hi, by rw [← h i hi2, ← h _ (setN_lt (by rfl) hi2)]; exact he⟩
  · rintro ⟨i, hi, he⟩
    have hi2 : i < 27 := by simpa using hi
    exact ⟨i, hi, by rw [h i hi2, h _ (setN_lt (by rfl) hi2)]; exact he⟩
theorem depU_not (c : UInt8) (F : Nat → Bool) : depU c (fun i => !F i) 27 = depU c F 27 := by
  unfold depU
  congr 1
  funext i
  cases h : F i <;> cases h2 : F (setN c 0 i) <;> simp [h, h2]
theorem depB_congr {c : UInt8} (hc : c ∈ [(120 : UInt8), 121, 122]) {F G : Nat → Bool} (h : ∀ i, i < 27 → F i = G i) : depB c F = depB c G := by
  rw [← dep_eq c hc, ← dep_eq c hc, depU_congr h]
theorem depL_congr {F G : Nat → Bool} (h : ∀ i, i < 27 → F i = G i) : depL F = depL G := by
  unfold depL
  rw [depB_congr (c := 120) (by simp) h, depB_congr (c := 121) (by simp) h, depB_congr (c := 122) (by simp) h]
theorem depL_not (F : Nat → Bool) : depL (fun i => !F i) = depL F := by
  unfold depL
  rw [← dep_eq 120 (by simp), ← dep_eq 121 (by simp), ← dep_eq 122 (by simp), ← dep_eq 120 (by simp), ← dep_eq 121 (by simp), ← dep_eq 122 (by simp), depU_not, depU_not, depU_not]
theorem depL_mem {c : UInt8} (hc : c = 120 ∨ c = 121 ∨ c = 122) (F : Nat → Bool) : c ∈ depL F ↔ depB c F = true := by
  unfold depL lst
  rcases hc with rfl | rfl | rfl <;> cases depB 120 F <;> cases depB 121 F <;> cases depB 122 F <;> simp
theorem depL_size (F : Nat → Bool) : (bs (depL F)).size ≤ 3 := by
  rw [bs_size]; unfold depL lst
  cases depB 120 F <;> cases depB 121 F <;> cases depB 122 F <;> simp
/-- What does not depend on a variable is the same for each value of it. -/
theorem depB_false {c : UInt8} (hc : c = 120 ∨ c = 121 ∨ c = 122) {F : Nat → Bool} : depB c F = false ↔ ∀ i, i < 27 → F i = F (setN c 0 i) := by
  rw [← dep_eq c (letter_mem hc)]
  unfold depU
  rw [List.any_eq_false]
  constructor
  · intro h i hi
    have := h i (by simpa using hi)
    simpa using this
  · intro h i hi
    have := h i (by simpa using hi)
    simpa using this

theorem wi_congr {n : Nat} {F G F' G' : Nat → Bool} (h : ∀ i, i < n → F i = F' i) (h' : ∀ i, i < n → G i = G' i) : wi n F G = wi n F' G' := by
  rw [Bool.eq_iff_iff, wi_iff, wi_iff]
  exact ⟨fun k i hi => by rw [← h i hi, ← h' i hi]; exact k i hi, fun k i hi => by rw [h i hi, h' i hi]; exact k i hi⟩
theorem wi_not (n : Nat) (F G : Nat → Bool) : wi n (fun i => !G i) (fun i => !F i) = wi n F G := by
  rw [Bool.eq_iff_iff, wi_iff, wi_iff]
  exact ⟨fun k i hi => by have := k i hi; cases h : F i <;> cases h2 : G i <;> simp_all, fun k i hi => by have := k i hi; cases h : F i <;> cases h2 : G i <;> simp_all⟩
end Go.Proofs.Ytehklmbkkidehaa

namespace Go.Proofs.Ytehklmbkkidehaa
open Go.RowKit

set_option maxHeartbeats 4000000 in
theorem which_any {a p : Nat} {w : World} (hr : Rd a p w) (hp : p ≤ 900000) :
    Calls Try.prog 20 #[.pointer (some ⟨a, 0, none⟩)] w fun e w' => ∃ s : ByteArray, s.size ≤ 2 ∧ e = .returned (.string s) ∧ Rd a (p + 1) w' ∧ Kp a w w' := by
  have HL := Lib.hid (Blk.new w #[.string ⟨#[120]⟩, .string ⟨#[121]⟩, .string ⟨#[122]⟩, .string ⟨#[120]⟩, .string ⟨#[121]⟩, .string ⟨#[122]⟩, .string ⟨#[120]⟩, .string ⟨#[121]⟩, .string ⟨#[]⟩, .string ⟨#[88]⟩, .string ⟨#[119]⟩, .string ⟨#[120, 121]⟩] 9)
  have hax := (Below.refl _ w).alloc (Nat.le_refl _) (.cells #[.string ⟨#[120]⟩, .string ⟨#[121]⟩, .string ⟨#[122]⟩, .string ⟨#[120]⟩, .string ⟨#[121]⟩, .string ⟨#[122]⟩, .string ⟨#[120]⟩, .string ⟨#[121]⟩, .string ⟨#[]⟩, .string ⟨#[88]⟩, .string ⟨#[119]⟩, .string ⟨#[120, 121]⟩] 9)
  have HR := Lib.hid (hr.kept hax)
  have HK := Lib.hid ((Kp.refl a w).next hax)
  have hneL : w.heap.size ≠ a := by have := hr.lt; omega
  clear hax hr
  go_enter Try.func20, Try.ntmps20
  go_wp2_with fail
  refine (of_any 12 12 (fun s => s.size ≤ 2) HR.out (by omega) HL.out hneL (by omega) (by omega) (fun i hi => by
    have hi : i = 0 ∨ i = 1 ∨ i = 2 ∨ i = 3 ∨ i = 4 ∨ i = 5 ∨ i = 6 ∨ i = 7 ∨ i = 8 ∨ i = 9 ∨ i = 10 ∨ i = 11 := by omega
    rcases hi with rfl | rfl | rfl | rfl | rfl | rfl | rfl | rfl | rfl | rfl | rfl | rfl <;> exact ⟨_, rfl, by decide⟩)).mono ?_
  rintro e w1 ⟨s, hs, rfl, hr, hk⟩
  have HR1 := Lib.hid hr
  have HK1 := Lib.hid (HK.out.trans hk)
  clear hr hk
  go_wp2_with fail
  go_ret
  exact ⟨s, hs, rfl, HR1.out, HK1.out⟩

end Go.Proofs.Ytehklmbkkidehaa

namespace Go.Proofs.Ytehklmbkkidehaa
open Go.RowKit

end Go.Proofs.Ytehklmbkkidehaa

namespace Go.Proofs.Ytehklmbkkidehaa
open Go.RowKit

theorem IsRow.kept {w w' : World} {a : Option Addr} {len cap : Nat} {zs : List Int} (h : IsRow w a len cap zs) (hb : Below w.heap.size w w') : IsRow w' a len cap zs := by
  rcases h with h | ⟨x, rfl, hl, hm, hz, hc, hw⟩
  · exact .inl h
  · exact .inr ⟨x, rfl, hl, hm, hz, fun i hi => by
      have h1 := hc i hi
      have hlt := World.block_lt_of_cell? w _ h1
      exact (hb.cell hlt).trans h1, hw⟩

theorem keepS {w w1 : World} {b c : Nat} {v0 v1 v2 x y z : Value} (h : Below c w w1) (hne : ¬ b = c) (h0 : w1.cell? ⟨b, 0, none⟩ = some x) (h1 : w1.cell? ⟨b, 1, none⟩ = some y) (h2 : w1.cell? ⟨b, 2, none⟩ = some z) :
    Below c w (((w1.setCell ⟨c, 0, none⟩ v0).setCell ⟨c, 1, none⟩ v1).setCell ⟨c, 2, none⟩ v2) ∧
    (((w1.setCell ⟨c, 0, none⟩ v0).setCell ⟨c, 1, none⟩ v1).setCell ⟨c, 2, none⟩ v2).cell? ⟨b, 0, none⟩ = some x ∧
    (((w1.setCell ⟨c, 0, none⟩ v0).setCell ⟨c, 1, none⟩ v1).setCell ⟨c, 2, none⟩ v2).cell? ⟨b, 1, none⟩ = some y ∧
    (((w1.setCell ⟨c, 0, none⟩ v0).setCell ⟨c, 1, none⟩ v1).setCell ⟨c, 2, none⟩ v2).cell? ⟨b, 2, none⟩ = some z := by
  have hne2 : ¬ c = b := fun h => hne h.symm
  exact ⟨Below.setCell (Below.setCell (Below.setCell h (by simp) _) (by simp) _) (by simp) _, by simp [go_sem, h0], by simp [go_sem, h1], by simp [go_sem, h2]⟩

end Go.Proofs.Ytehklmbkkidehaa

namespace Go.Proofs.Ytehklmbkkidehaa
open Go.RowKit

theorem part_upd (n k : Nat) (F : Nat → Bool) (b : Bool) (h : k < n) : (part n k F).set k (bitc b) = part n (k + 1) (fun j => if j = k then b else F j) := by
  rw [← part_step n k _ h]
  unfold part
  rw [tbn_congr (F := fun j => if j = k then b else F j) (G := F) (fun i hi => by rw [if_neg (by omega)])]
  simp
theorem set27_bs (F : Nat → Bool) : Set27 (bs (tb F)) := by
  unfold Set27
  rw [show (bs (tb F)).data.toList = tb F by simp [bs]]
  exact bits_tbn 27 F

set_option maxRecDepth 100000 in
set_option maxHeartbeats 8000000 in
/-- A text of a set is drawn. -/
theorem some_any {a p : Nat} {w : World} (hr : Rd a p w) (hp : p ≤ 400000) :
    Calls Try.prog 47 #[.pointer (some ⟨a, 0, none⟩)] w (DrQ Set27 a p 27 27 80 w) := by
  have HR := Lib.hid hr
  have hlt := hr.lt
  clear hr
  have hmk : ∀ w, (Instr.makeSlice 22 (.int .i64 27) (.int .i64 27)).run Try.prog w = .ok (.slice (some ⟨w.heap.size, 0, none⟩) 27 27) (w.alloc (.cells (u8s (zs 27)) 5)) := fun w => mkBytes 27 (by omega) w
  have C := Lib.hid (pick_any 3 HR.out (by omega) (by omega) (by omega))
  go_enter Try.func47, Try.ntmps47
  go_wp2_with fail
  refine C.out.mono ?_
  rintro e w1 ⟨k, k0, k1, rfl, hr, hk⟩
  have HR1 := Lib.hid hr
  have HK1 := Lib.hid hk
  clear hr hk C
  by_cases h0 : (0 : Int) < k
  · have HC := Lib.hid (vT_2 (bs [120, 121, 122]) (by decide) (by decide) nm_xyz HR1.out (by omega))
    go_wp2_with fail
    refine HC.out.mono ?_
    rintro e w2 ⟨t, q, t1, t2, hq, hv, rfl, hr, hk⟩
    obtain ⟨tm, htm, etm⟩ := hv
    have HR2 := Lib.hid hr
    have HK2 := Lib.hid (HK1.out.trans hk)
    have HO := fun w => Lib.hid (specOf0 t tm w (ok_wide htm) etm (by omega))
    clear hr hk HC htm etm
    have HS := Lib.hid (set27_bs (tst tm))
    have HZ : Hid ((bs (tb (tst tm))).size = 27) := by show _ = _; rw [bs_size]; exact tbn_length 27 _
    generalize bs (tb (tst tm)) = r at *
    go_wp2_with fail
    refine (HO _).out.mono ?_
    rintro e w3 ⟨rfl, hb⟩
    have HR3 := Lib.hid (HR2.out.kept hb)
    have HK3 := Lib.hid (HK2.out.next hb)
    clear hb
    go_wp2_with fail
    go_ret
    exact ⟨_, q, Nat.le_of_eq HZ.out.symm, Nat.le_of_eq HZ.out, by omega, HS.out, rfl, HR3.out, HK3.out⟩
  · have HT0 := Lib.hid (BBlk.made 27 w1)
    have hax := (Below.refl _ w1).alloc (Nat.le_refl _) (.cells (u8s (zs 27)) 5)
    have HR2 := Lib.hid (HR1.out.kept hax)
    have HK2 := Lib.hid (HK1.out.next hax)
    have hne : w1.heap.size ≠ a := by have := HR1.out.lt; omega
    clear hax
    go_wp2_with fail
    generalize w1.alloc (.cells (u8s (zs 27)) 5) = w0 at *
    go_loopw [4] (fun i wr => ∃ (k q : Nat) (F : Nat → Bool), k ≤ 27 ∧ i = .int .i64 k ∧ q ≤ p + 1 + k ∧ Hid (Rd a q wr) ∧ Hid (Kp a w wr) ∧ Hid (BBlk wr w1.heap.size (part 27 k F))) (fun i _ => 27 - (intOf i).toNat)
    case atStart => exact ⟨0, p + 1, fun _ => false, by omega, rfl, by omega, HR2, HK2, HT0⟩
    case round =>
      clear HT0 HR2 HK2
      obtain ⟨k, q, F, hk, rfl, hq, HRk, HKk, HTk⟩ := hrel
      by_cases hlt2 : k < 27
      · have HC := Lib.hid (pick_any 2 HRk.out (by omega) (by omega) (by omega))
        have hl := Lib.hid (part_len 27 k F (by omega))
        go_wp2_with fail
        refine HC.out.mono ?_
        rintro e w2 ⟨b, b0, b1, rfl, hr, hk⟩
        have HR3 := Lib.hid hr
        have HK3 := Lib.hid (HKk.out.trans hk)
        have HT3 : Hid (BBlk w2 w1.heap.size (part 27 k F)) := Blk.kp HTk.out hk hne
        have HB2 := Lib.hid HK1.out.size
        clear hr hk HC
        obtain ⟨old, hc⟩ := HT3.out.some k (by rw [hl.out]; omega)
        have hf := HT3.out.free k
        have hgt : a + 1 ≤ w1.heap.size := by have := HR1.out.lt; omega
        cases hb0 : (b == 0)
        · have HP := Lib.hid (part_upd 27 k F false hlt2)
          go_wp2_with fail
          refine (specBit _ _).mono ?_
          rintro e w' ⟨rfl, rfl⟩
          go_wp2_with fail
          refine ⟨⟨k + 1, q + 1, (fun j => if j = k then false else F j), by omega, by go_num, by omega, HR3.out.keepB (Below.setCell (Below.refl (a + 1) _) (p := ⟨w1.heap.size, k, none⟩) hgt _) (by omega), HK3.out.setNew (q := ⟨w1.heap.size, k, none⟩) HB2.out _, ?_⟩, by simp [intOf]; omega⟩
          refine ?_
          show BBlk _ _ (part 27 (k + 1) (fun j => if j = k then false else F j))
          rw [← HP.out]
          exact HT3.out.set k _
        · have HP := Lib.hid (part_upd 27 k F true hlt2)
          go_wp2_with fail
          refine (specBit _ _).mono ?_
          rintro e w' ⟨rfl, rfl⟩
          go_wp2_with fail
          refine ⟨⟨k + 1, q + 1, (fun j => if j = k then true else F j), by omega, by go_num, by omega, HR3.out.keepB (Below.setCell (Below.refl (a + 1) _) (p := ⟨w1.heap.size, k, none⟩) hgt _) (by omega), HK3.out.setNew (q := ⟨w1.heap.size, k, none⟩) HB2.out _, ?_⟩, by simp [intOf]; omega⟩
          refine ?_
          show BBlk _ _ (part 27 (k + 1) (fun j => if j = k then true else F j))
          rw [← HP.out]
          exact HT3.out.set k _
      · have hk3 : k = 27 := by omega
        subst hk3
        have hv := toStr HTk.out 27 27 (part_len 27 27 _ (by omega)).symm
        rw [part_all] at hv
        have HS := Lib.hid (set27_bs F)
        have HZ : Hid ((bs (tb F)).size = 27) := by show _ = _; rw [bs_size]; exact tbn_length 27 _
        unfold tb at HS HZ
        generalize bs (tbn 27 F) = r at *
        go_wp2_with fail
        go_ret
        exact ⟨_, q, Nat.le_of_eq HZ.out.symm, Nat.le_of_eq HZ.out, by omega, HS.out, rfl, HRk.out, HKk.out⟩

theorem szl {x : Nat} (h : x = 27) : (¬ 9223372036854775807 < x + 1) ∧ (¬ 9223372036854775807 < x - 1 + 1) ∧ (¬ 9223372036854775807 < 26 + 1) := by omega
set_option maxRecDepth 100000 in
set_option maxHeartbeats 8000000 in
/-- A text of a set is spoilt, or not. -/
theorem bad2_any {a p : Nat} (t : ByteArray) (h1 : t.size = 27) {w : World} (hr : Rd a p w) (hp : p ≤ 900000) :
    Calls Try.prog 46 #[.pointer (some ⟨a, 0, none⟩), .string t] w (DrP a p 0 28 1 w) := by
  have HR := Lib.hid hr
  clear hr
  have C := Lib.hid (pick_any 40 HR.out (by omega) (by omega) (by omega))
  go_enter Try.func46, Try.ntmps46
  go_wp2_with fail
  refine C.out.mono ?_
  rintro e w1 ⟨k, k0, k1, rfl, hr, hk⟩
  have HR1 := Lib.hid hr
  have HK1 := Lib.hid hk
  clear hr hk C
  obtain ⟨n1, n2, n3⟩ := szl h1
  by_cases e0 : k = 0
  · subst e0
    go_wp2_with fail
    go_ret
    exact ⟨_, p + 1, Nat.zero_le _, by rw [ByteArray.size_append, h1]; decide, by omega, rfl, HR1.out, HK1.out⟩
  have g0 : (k == 0) = false := by rw [beq_eq_false_iff_ne]; exact e0
  clear e0
  by_cases e1 : k = 1
  · subst e1
    have ew : IntKind.i64.wrap ((t.size : Int) - 1) = 26 := (IntWalk.i64_in _ (by omega)).trans (by omega)
    have ew2 : (26 : Int) ≤ (t.size : Int) := by omega
    have ez : (t.extract 0 26).size = 26 := by simp [ByteArray.size_extract]; omega
    have EZ := Lib.hid ez
    clear h1
    go_wp2_with fail
    go_ret
    exact ⟨_, p + 1, Nat.zero_le _, by rw [ByteArray.size_append, EZ.out]; decide, by omega, rfl, HR1.out, HK1.out⟩
  have g1 : (k == 1) = false := by rw [beq_eq_false_iff_ne]; exact e1
  clear e1
  by_cases e2 : k = 2
  · subst e2
    go_wp2_with fail
    go_ret
    exact ⟨_, p + 1, Nat.zero_le _, by decide, by omega, rfl, HR1.out, HK1.out⟩
  have g2 : (k == 2) = false := by rw [beq_eq_false_iff_ne]; exact e2
  clear e2
  go_wp2_with fail
  go_ret
  exact ⟨_, p + 1, Nat.zero_le _, by omega, by omega, rfl, HR1.out, HK1.out⟩

set_option maxHeartbeats 4000000 in
/-- A text is drawn where a set is asked. -/
theorem open2_any {a p : Nat} {w : World} (hr : Rd a p w) (hp : p ≤ 400000) :
    Calls Try.prog 19 #[.pointer (some ⟨a, 0, none⟩)] w (DrP a p 0 28 81 w) := by
  have HC := Lib.hid (some_any hr hp)
  clear hr
  go_enter Try.func19, Try.ntmps19
  go_wp2_with fail
  refine HC.out.mono ?_
  rintro e w1 ⟨t, q, t1, t2, hq, hv, rfl, hr, hk⟩
  have HK1 := Lib.hid hk
  have HC := Lib.hid (bad2_any t (by omega) hr (by omega))
  clear hr hk hv
  go_wp2_with fail
  refine HC.out.mono ?_
  rintro e w2 ⟨x, q', x1, x2, hq', rfl, hr, hk⟩
  have HR2 := Lib.hid hr
  have HK2 := Lib.hid (HK1.out.trans hk)
  clear hr hk
  go_wp2_with fail
  go_ret
  exact ⟨x, q', by omega, by omega, by omega, rfl, HR2.out, HK2.out⟩

theorem or_size (p q : List UInt8) : (bs (tbn 27 (fun i => hs p i || hs q i))).size = 27 := by rw [bs_size]; exact tbn_length 27 _

end Go.Proofs.Ytehklmbkkidehaa

namespace Go.Proofs.Ytehklmbkkidehaa
open Go.RowKit

/-- The reader has been asked at most p times, and all else is as it was in w. -/
def SB (a p : Nat) (w w' : World) : Prop := ∃ q : Nat, q ≤ p ∧ Rd a q w' ∧ Kp a w w'
theorem sb_done {a p hi : Nat} {w w' : World} {s : ByteArray} {e : Ending} (hs : s.size ≤ hi) (he : e = .returned (.string s)) (h : SB a (p + 3) w w') : DrP a p 0 hi 3 w e w' := by
  obtain ⟨q, hq, hr, hk⟩ := h
  exact ⟨s, q, Nat.zero_le _, hs, hq, he, hr, hk⟩
theorem szb {s x : Nat} (hs : s ≤ 100000) (hx : x = 1) : ¬ 9223372036854775807 < s + x := by omega
theorem szc {s x k : Nat} (hs : s ≤ 100000) (hx : x = 1) (hk : k + 1 ≤ s) : (¬ 9223372036854775807 < k + x) ∧ (¬ 9223372036854775807 < k + x + (s - (k + 1))) ∧ (¬ 9223372036854775807 < k + 1 + (s - (k + 1))) ∧ (¬ 9223372036854775807 < min k s + x) ∧ (¬ 9223372036854775807 < min k s + x + (s - (k + 1))) := by omega

set_option maxRecDepth 100000 in
set_option maxHeartbeats 8000000 in
theorem bad_any {a p : Nat} (t : ByteArray) (h1 : 1 ≤ t.size) (h2 : t.size ≤ 100000) {w : World} (hr : Rd a p w) (hp : p ≤ 900000) :
    Calls Try.prog 21 #[.pointer (some ⟨a, 0, none⟩), .string t] w (DrP a p 0 (t.size + 1) 3 w) := by
  have HR := Lib.hid hr
  have hlt := hr.lt
  clear hr
  have C := Lib.hid (pick_any 30 HR.out (by omega) (by omega) (by omega))
  go_enter Try.func21, Try.ntmps21
  go_wp2_with fail
  refine C.out.mono ?_
  rintro e w1 ⟨k, k0, k1, rfl, hr, hk⟩
  have HR1 := Lib.hid hr
  have HK1 := Lib.hid hk
  clear hr hk C
  by_cases e0 : k = 0
  · subst e0
    have hneL : w1.heap.size ≠ a := by have := HK1.out.size; omega
    have HL := Lib.hid (Blk.new w1 #[.string (⟨#[120]⟩), .string (⟨#[48]⟩), .string (⟨#[32]⟩)] 9)
    have hax := (Below.refl _ w1).alloc (Nat.le_refl _) (.cells #[.string (⟨#[120]⟩), .string (⟨#[48]⟩), .string (⟨#[32]⟩)] 9)
    have HRx := Lib.hid (HR1.out.kept hax)
    have HKx := Lib.hid (HK1.out.next hax)
    clear hax
    have HQ : Hid (∀ i, i < 3 → ∃ s, (#[.string (⟨#[120]⟩), .string (⟨#[48]⟩), .string (⟨#[32]⟩)] : Array Value)[i]? = some (.string s) ∧ s.size = 1) := fun i hi => by
      have hi : i = 0 ∨ i = 1 ∨ i = 2 := by omega
      rcases hi with rfl | rfl | rfl <;> exact ⟨_, rfl, by decide⟩
    go_wp2_with fail
    refine (of_any 3 3 (fun s => s.size = 1) HRx.out (by omega) HL.out hneL (by omega) (by omega) HQ.out).mono ?_
    rintro e w2 ⟨x, hx, rfl, hr, hk⟩
    have HR2 := Lib.hid hr
    have HK2 := Lib.hid (HKx.out.trans hk)
    clear hr hk
    have n1 := szb h2 hx
    go_wp2_with fail
    go_ret
    exact ⟨_, p + 1 + 1, Nat.zero_le _, by rw [ByteArray.size_append, hx]; exact Nat.le_refl _, by omega, rfl, HR2.out, HK2.out⟩
  have g0 : (k == 0) = false := by rw [beq_eq_false_iff_ne]; exact e0
  clear e0
  by_cases e1 : k = 1
  · subst e1
    have ew : IntKind.i64.wrap ((t.size : Int) - 1) = ((t.size - 1 : Nat) : Int) := (IntWalk.i64_in _ (by omega)).trans (by omega)
    go_wp2_with fail
    go_ret
    exact ⟨_, p + 1, Nat.zero_le _, by simp only [ByteArray.size_extract]; omega, by omega, rfl, HR1.out, HK1.out⟩
  have g1 : (k == 1) = false := by rw [beq_eq_false_iff_ne]; exact e1
  clear e1
  by_cases e2 : k = 2
  · subst e2
    have C := Lib.hid (pick_any (t.size : Int) HR1.out (by omega) (by omega) (by omega))
    go_wp2_with fail
    refine C.out.mono ?_
    rintro e w2 ⟨k, k0, k1, rfl, hr, hk⟩
    have HR2 := Lib.hid hr
    have HK2 := Lib.hid (HK1.out.trans hk)
    clear hr hk C g0 g1
    obtain ⟨k, rfl⟩ := Int.eq_ofNat_of_zero_le k0
    have hk1 : k + 1 ≤ t.size := by omega
    have hneL : w2.heap.size ≠ a := by have := HK2.out.size; omega
    have HL := Lib.hid (Blk.new w2 #[.string (⟨#[88]⟩), .string (⟨#[119]⟩), .string (⟨#[43]⟩), .string (⟨#[61]⟩)] 9)
    have hax := (Below.refl _ w2).alloc (Nat.le_refl _) (.cells #[.string (⟨#[88]⟩), .string (⟨#[119]⟩), .string (⟨#[43]⟩), .string (⟨#[61]⟩)] 9)
    have HRx := Lib.hid (HR2.out.kept hax)
    have HKx := Lib.hid (HK2.out.next hax)
    clear hax
    have HQ : Hid (∀ i, i < 4 → ∃ s, (#[.string (⟨#[88]⟩), .string (⟨#[119]⟩), .string (⟨#[43]⟩), .string (⟨#[61]⟩)] : Array Value)[i]? = some (.string s) ∧ s.size = 1) := fun i hi => by
      have hi : i = 0 ∨ i = 1 ∨ i = 2 ∨ i = 3 := by omega
      rcases hi with rfl | rfl | rfl | rfl <;> exact ⟨_, rfl, by decide⟩
    have hs0 : SB a (p + 3) w w2.drew := ⟨_, by omega, HR2.out.kept (Below.refl _ _).drew, HK2.out.next (Below.refl _ _).drew⟩
    have hs1 : SB a (p + 3) w (w2.alloc (.cells #[.string (⟨#[88]⟩), .string (⟨#[119]⟩), .string (⟨#[43]⟩), .string (⟨#[61]⟩)] 9)).drew := ⟨_, by omega, HRx.out.kept (Below.refl _ _).drew, HKx.out.next (Below.refl _ _).drew⟩
    have HRy := Lib.hid (HRx.out.kept (Below.refl _ _).drew)
    have HKy := Lib.hid (HKx.out.next (Below.refl _ _).drew)
    have HLy := Lib.hid HL.out.drew
    have C := Lib.hid (of_any 4 4 (fun s => s.size = 1) HRy.out (by omega) HLy.out hneL (by omega) (by omega) HQ.out)
    have ew : IntKind.i64.wrap ((k : Int) + 1) = (k : Int) + 1 := IntWalk.i64_in _ (by omega)
    have hq0 : (0 : Int) ≤ (k : Int) + 1 := by omega
    have hq1 : (k : Int) ≤ (t.size : Int) := by omega
    have hq2 : (k : Int) + 1 ≤ (t.size : Int) := by omega
    have hq3 : k ≤ t.size := by omega
    have hq4 : ((k : Int) + 1).toNat = k + 1 := by omega
    have hq5 : min k t.size = k := by omega
    clear HR HR1 HK1 HL HRx HQ HLy HKx
    go_wp2_with fail
    go_region_held3 (fun w' => SB a (p + 3) w w')
      (first | assumption | (go_split_ands; assumption))
      (first
        | (go_at_call 48; (with_reducible refine C.out.mono ?_); rintro e w6 ⟨s, hs, rfl, hr, hk⟩; have hbw3 : SB a (p + 3) w w6 := ⟨_, by omega, hr, HKy.out.trans hk⟩; obtain ⟨n0, n1, n2, n3, n4⟩ := szc h2 hs hk1; replace hs := Lib.hid hs))
    all_goals
      go_split_ands
      go_wp2_with fail
      go_ret
      have hz : (t.extract 0 k ++ s ++ t.extract (k + 1) t.size).size ≤ t.size + 1 := by simp only [ByteArray.size_append, ByteArray.size_extract, hs.out]; omega
      exact sb_done hz rfl (by assumption)
  have g2 : (k == 2) = false := by rw [beq_eq_false_iff_ne]; exact e2
  clear e2
  go_wp2_with fail
  go_ret
  exact ⟨_, p + 1, Nat.zero_le _, by omega, by omega, rfl, HR1.out, HK1.out⟩

end Go.Proofs.Ytehklmbkkidehaa

namespace Go.Proofs.Ytehklmbkkidehaa
open Go.RowKit

set_option maxHeartbeats 1000000 in
theorem ppNot_of (p q : ByteArray) (b : Bool) (C : ∀ w, Hid (Calls Try.prog 40 #[.string p] w fun e w' => e = .returned (.tuple #[.string q, .bool b]) ∧ Below w.heap.size w w')) (w : World) :
    Calls Try.prog 12 #[.string p] w fun e w' => e = .returned (.string q) ∧ Below w.heap.size w w' := by
  go_enter Try.func12, Try.ntmps12
  go_wp2_with fail
  refine (C _).out.mono ?_
  rintro e w1 ⟨rfl, hb⟩
  have HB := Lib.hid hb
  clear hb
  go_wp2_with fail
  go_ret
  exact ⟨rfl, HB.out⟩
end Go.Proofs.Ytehklmbkkidehaa

namespace Go.Proofs.Ytehklmbkkidehaa
open Go.RowKit

set_option maxHeartbeats 1000000 in
theorem ppValue_of (t : ByteArray) (x y z v : Int) (b : Bool) (C : ∀ w, Hid (Calls Try.prog 36 #[.string t, .agg #[.int .i64 x, .int .i64 y, .int .i64 z]] w fun e w' => e = .returned (.tuple #[.int .i64 v, .bool b]) ∧ Below w.heap.size w w')) (w : World) :
    Calls Try.prog 10 #[.string t, .agg #[.int .i64 x, .int .i64 y, .int .i64 z]] w fun e w' => e = .returned (.int .i64 v) ∧ Below w.heap.size w w' := by
  have HB1 := Lib.hid ((Below.refl _ w).alloc (Nat.le_refl _) (.cells #[.int .i64 x, .int .i64 y, .int .i64 z] 30))
  go_enter Try.func10, Try.ntmps10
  go_wp2_with fail
  refine (C _).out.mono ?_
  rintro e w1 ⟨rfl, hb⟩
  have HB2 := Lib.hid (bnext HB1.out hb)
  clear hb
  go_wp2_with fail
  go_ret
  exact ⟨rfl, HB2.out⟩

theorem keepL {w w1 w2 : World} {Q : World → Prop} {g i j k : Nat} {a b c : Value} (h : Below w.heap.size w w1 ∧ Q w1 ∧ w1.cell? ⟨g, i, none⟩ = some a ∧ w1.cell? ⟨g, j, none⟩ = some b ∧ w1.cell? ⟨g, k, none⟩ = some c) (hQ : Q w1 → Q w2) (hq : Below w1.heap.size w1 w2) :
    Below w.heap.size w w2 ∧ Q w2 ∧ w2.cell? ⟨g, i, none⟩ = some a ∧ w2.cell? ⟨g, j, none⟩ = some b ∧ w2.cell? ⟨g, k, none⟩ = some c :=
  ⟨bnext h.1 hq, hQ h.2.1, ckeep hq h.2.2.1, ckeep hq h.2.2.2.1, ckeep hq h.2.2.2.2⟩
end Go.Proofs.Ytehklmbkkidehaa

namespace Go.Proofs.Ytehklmbkkidehaa
open Go.RowKit

def IntPost (n : Int) (w : World) (e : Ending) (w' : World) : Prop := e = .returned (.int .i64 n) ∧ Below w.heap.size w w'
def Row (w : World) (B : Nat) (T : TypeId) (v : Value) (xs : List Value) : Prop := w.ownsRow B T 1 v xs.length xs
theorem Row.kept {w w' : World} {B : Nat} {T : TypeId} {v : Value} {xs : List Value} (h : Row w B T v xs) (hb : Below w.heap.size w w') : Row w' B T v xs := by
  obtain ⟨h1, h2⟩ := h
  refine ⟨h1, ?_⟩
  rcases h2 with h2 | ⟨g, cap, cur, a, b, c, d⟩
  · exact .inl h2
  · exact .inr ⟨g, cap, cur, a, b, (hb.block g (Array.getElem?_eq_some_iff.1 c).1).trans c, d⟩
theorem Row.mono {w : World} {B B' : Nat} {T : TypeId} {v : Value} {xs : List Value} (h : Row w B T v xs) (hb : B' ≤ B) : Row w B' T v xs := World.ownsRow.mono h hb
theorem Row.nil (w : World) (B : Nat) (T : TypeId) : Row w B T (.slice none 0 0) [] := ⟨rfl, .inl ⟨rfl, rfl⟩⟩
theorem Row.new (w : World) (T : TypeId) (xs : List Value) (hx : xs.length ≤ 1000) : Row (w.alloc (.cells xs.toArray T)) w.heap.size T (.slice (some ⟨w.heap.size, 0, none⟩) xs.length xs.length) xs := by
  refine ⟨by simp, .inr ⟨w.heap.size, xs.length, xs.toArray, rfl, Nat.le_refl _, Blk.new w xs.toArray T, Nat.le_refl _, by unfold maxLen; omega, by simp, by simp⟩⟩
/-- The forms of a row's slice, and its cells. -/
theorem Row.cases {w : World} {B : Nat} {T : TypeId} {v : Value} {xs : List Value} (h : Row w B T v xs) : (v = .slice none 0 0 ∧ xs = []) ∨ ∃ g cap, v = .slice (some ⟨g, 0, none⟩) xs.length cap ∧ B ≤ g ∧ xs.length ≤ cap ∧ ∀ (j : Nat) (u : Value), xs[j]? = some u → w.cell? ⟨g, j, none⟩ = some u := by
  have h' := h
  obtain ⟨h1, h2⟩ := h
  rcases h2 with ⟨h2, h3⟩ | ⟨g, cap, cur, rfl, b, c, d, _⟩
  · exact .inl ⟨h2, List.eq_nil_of_length_eq_zero h3⟩
  · refine .inr ⟨g, cap, rfl, b, d, fun j u hu => ?_⟩
    have hj : j < xs.length := (List.getElem?_eq_some_iff.1 hu).1
    rw [World.ownsRow.cellAt (show World.ownsRow _ _ _ _ _ _ _ from h') j (by omega)]
    exact hu
theorem Row.one {w : World} {B : Nat} {T : TypeId} {v a : Value} (h : Row w B T v [a]) : ∃ g cap, v = .slice (some ⟨g, 0, none⟩) 1 cap ∧ w.cell? ⟨g, 0, none⟩ = some a := by
  rcases h.cases with ⟨_, h2⟩ | ⟨g, cap, h1, _, _, h3⟩
  · cases h2
  · exact ⟨g, cap, h1, h3 0 a rfl⟩
theorem Row.two {w : World} {B : Nat} {T : TypeId} {v a b : Value} (h : Row w B T v [a, b]) : ∃ g cap, v = .slice (some ⟨g, 0, none⟩) 2 cap ∧ w.cell? ⟨g, 0, none⟩ = some a ∧ w.cell? ⟨g, 1, none⟩ = some b := by
  rcases h.cases with ⟨_, h2⟩ | ⟨g, cap, h1, _, _, h3⟩
  · cases h2
  · exact ⟨g, cap, h1, h3 0 a rfl, h3 1 b rfl⟩
theorem Row.zero {w : World} {B : Nat} {T : TypeId} {v : Value} (h : Row w B T v []) : ∃ a cap, v = .slice a 0 cap := by
  rcases h.cases with ⟨h2, _⟩ | ⟨g, cap, h1, _⟩
  · exact ⟨_, _, h2⟩
  · exact ⟨_, _, h1⟩
theorem Row.one' {w : World} {B : Nat} {T : TypeId} {v a : Value} (h : Row w B T v [a]) : ∃ g cap, v = .slice (some ⟨g, 0, none⟩) 1 cap ∧ B ≤ g ∧ w.cell? ⟨g, 0, none⟩ = some a := by
  rcases h.cases with ⟨_, h2⟩ | ⟨g, cap, h1, hb, _, h3⟩
  · cases h2
  · exact ⟨g, cap, h1, hb, h3 0 a rfl⟩
theorem Row.two' {w : World} {B : Nat} {T : TypeId} {v a b : Value} (h : Row w B T v [a, b]) : ∃ g cap, v = .slice (some ⟨g, 0, none⟩) 2 cap ∧ B ≤ g ∧ w.cell? ⟨g, 0, none⟩ = some a ∧ w.cell? ⟨g, 1, none⟩ = some b := by
  rcases h.cases with ⟨_, h2⟩ | ⟨g, cap, h1, hb, _, h3⟩
  · cases h2
  · exact ⟨g, cap, h1, hb, h3 0 a rfl, h3 1 b rfl⟩
/-- A row that is not empty, as a list of cells that may be appended. -/
theorem Row.news {w : World} {B : Nat} {T : TypeId} {v : Value} {xs : List Value} (h : Row w B T v xs) (hx : 0 < xs.length) : ∃ g cap, v = .slice (some ⟨g, 0, none⟩) xs.length cap ∧ B ≤ g ∧ g < w.heap.size ∧ ∀ (j : Nat) (u : Value), xs[j]? = some u → w.cell? ((⟨g, 0, none⟩ : Addr).add j) = some u := by
  rcases h.cases with ⟨_, h2⟩ | ⟨g, cap, h1, hb, _, h3⟩
  · rw [h2] at hx; simp at hx
  · refine ⟨g, cap, h1, hb, ?_, World.ownsRow.cells h (by rw [h1]; rfl)⟩
    have := World.ownsRow.lt h g (by rw [h1]; rfl)
    exact this.2
/-- Behind an append. -/
theorem Row.after {w w2 w3 : World} {T : TypeId} {v : Value} {xs ys : List Value} {g3 cap3 : Nat} (hB : Below w.heap.size w w2) (hrow : Row w2 w.heap.size T v xs)
    (hown : w3.ownsRow w.heap.size T 1 (.slice (some ⟨g3, 0, none⟩) (xs.length + ys.length) cap3) (xs.length + ys.length) (xs ++ ys)) (hgrow : w2.grownBy w3 v.ownBlock) :
    Row w3 w.heap.size T (.slice (some ⟨g3, 0, none⟩) (xs.length + ys.length) cap3) (xs ++ ys) ∧ Below w.heap.size w w3 := by
  refine ⟨?_, hB.grown hgrow hB.size (fun k hk => (World.ownsRow.lt hrow k hk).1)⟩
  unfold Row
  rw [List.length_append]
  exact hown
end Go.Proofs.Ytehklmbkkidehaa

namespace Go.Proofs.Ytehklmbkkidehaa
open Go.RowKit

theorem infoState : (Try.prog.info? 30).map (fun i => (i.zero, i.size, i.bytes)) = some (some (.agg #[.int .i64 0, .int .i64 0, .int .i64 0]), 3, 24) := by kernel_rfl

/-- The cells of the first k states. -/
def stC : Nat → List Value
  | 0 => []
  | k + 1 => stC k ++ [.int .i64 (ax k), .int .i64 (ay k), .int .i64 (az k)]
theorem stC_len (k : Nat) : (stC k).length = k * 3 := by
  induction k with
  | zero => rfl
  | succ k ih => unfold stC; rw [List.length_append, ih]; simp; omega
theorem stC_get (n k : Nat) (h : k < n) : (stC n)[k * 3]? = some (.int .i64 (ax k)) ∧ (stC n)[k * 3 + 1]? = some (.int .i64 (ay k)) ∧ (stC n)[k * 3 + 2]? = some (.int .i64 (az k)) := by
  induction n with
  | zero => omega
  | succ n ih =>
    unfold stC
    by_cases e : k = n
    · subst e
      refine ⟨?_, ?_, ?_⟩ <;> rw [List.getElem?_append_right (by rw [stC_len]; omega), stC_len]
      · rw [show k * 3 - k * 3 = 0 by omega]; rfl
      · rw [show k * 3 + 1 - k * 3 = 1 by omega]; rfl
      · rw [show k * 3 + 2 - k * 3 = 2 by omega]; rfl
    · obtain ⟨h1, h2, h3⟩ := ih (by omega)
      refine ⟨?_, ?_, ?_⟩ <;> rw [List.getElem?_append_left (by rw [stC_len]; omega)] <;> assumption

/-- The list of all states lies at block g. -/
def Sts (w : World) (g : Nat) : Prop := ∀ k, k < 27 → w.cell? ⟨g, k * 3, none⟩ = some (.int .i64 (ax k)) ∧ w.cell? ⟨g, k * 3 + 1, none⟩ = some (.int .i64 (ay k)) ∧ w.cell? ⟨g, k * 3 + 2, none⟩ = some (.int .i64 (az k))
theorem Sts.kept {w w' : World} {g : Nat} (h : Sts w g) (hb : Below w.heap.size w w') : Sts w' g := fun k hk => by
  obtain ⟨h1, h2, h3⟩ := h k hk
  exact ⟨ckeep hb h1, ckeep hb h2, ckeep hb h3⟩

set_option maxRecDepth 100000 in
set_option maxHeartbeats 4000000 in
theorem states_any (w : World) : Calls Try.prog 8 #[] w fun e w' => ∃ g cap, 27 ≤ cap ∧ g < w'.heap.size ∧ e = .returned (.slice (some ⟨g, 0, none⟩) 27 cap) ∧ Sts w' g ∧ Below w.heap.size w w' := by
  obtain ⟨i0, hi0, hz0, hz1, hz2⟩ := info_parts infoState
  have HB : Hid (Below w.heap.size w (w.alloc (.cells #[] 30))) := (Below.refl _ _).alloc (Nat.le_refl _) _
  have HR : Hid ((w.alloc (.cells #[] 30)).ownsRow w.heap.size 30 3 (.slice (some ⟨w.heap.size, 0, none⟩) 0 0) 0 (stC 0)) :=
    ⟨rfl, .inr ⟨w.heap.size, 0, #[], rfl, Nat.le_refl _, Blk.new w #[] 30, Nat.le_refl _, by unfold maxLen; omega, rfl, rfl⟩⟩
  go_enter Try.func8, Try.ntmps8
  go_wp2_with fail
  generalize w.alloc (.cells #[] 30) = w0 at *
  go_loopw [1, 2] (fun v i wr => ∃ k : Nat, k ≤ 27 ∧ i = .int .i64 k ∧ Hid (wr.ownsRow w.heap.size 30 3 v k (stC k)) ∧ Hid (Below w.heap.size w wr)) (fun _ i _ => 27 - (intOf i).toNat)
  case atStart => exact ⟨0, by omega, rfl, HR, HB⟩
  case round =>
    clear HR HB
    obtain ⟨k, hk, rfl, HR, HB⟩ := hrel
    by_cases hlt : k < 27
    · have hlt2 : (k : Int) < 27 := by omega
      go_wp2_with (at_builtin; refine wpList_append_lies _ (by rfl) _ _ _ (by rfl) w.heap.size 30 i0 _ 3 24 Try.underlying27 hi0 hz0 hz1 hz2 rfl (by omega) _ _ _ (by rfl) (World.ownsRow.alloc HR.out _) ⟨wr.heap.size, 0, none⟩ 1 1 [.int .i64 ((k : Int) % 3), .int .i64 ((k : Int) / 3 % 3), .int .i64 ((k : Int) / 9)] (by rfl) (by rfl) (World.news_of_block (cs := #[.int .i64 ((k : Int) % 3), .int .i64 ((k : Int) / 3 % 3), .int .i64 ((k : Int) / 9)]) (t := 30) (fr := (0, 0)) (heap_alloc_new wr _)) (by simp [Value.oneCell']) (by omega) (by unfold maxLen; omega) (by omega) (by have := HB.out.size; simp; omega) (wr.heap.size + 1) (by simp) ?_; intro g3 cap3 w3 hown hgrow hat hlt3)
      have hb3 := (HB.out.alloc HB.out.size _).grown hgrow (by have := HB.out.size; simp; omega) (fun k hk => (World.ownsRow.lt HR.out k hk).1)
      exact ⟨⟨k + 1, by omega, by go_num, hown, hb3⟩, by simp [intOf]; omega⟩
    · have hk2 : k = 27 := by omega
      subst hk2
      obtain ⟨g, cap, rfl, hg, hglt⟩ := HR.out.form (by omega)
      have hcap : 27 ≤ cap := by
        rcases HR.out.2 with ⟨h, _⟩ | ⟨g', cap', cur, h, _, _, hc, _⟩
        · simp at h
        · simp at h; omega
      have HS : Hid (Sts wr g) := fun k hk => by
        obtain ⟨h1, h2, h3⟩ := stC_get 27 k hk
        refine ⟨?_, ?_, ?_⟩
        · rw [← h1]; exact World.ownsRow.cellAt HR.out _ (by omega)
        · rw [← h2]; exact World.ownsRow.cellAt HR.out _ (by omega)
        · rw [← h3]; exact World.ownsRow.cellAt HR.out _ (by omega)
      clear HR
      go_wp2_with fail
      go_ret
      exact ⟨g, cap, hcap, hglt, rfl, HS.out, HB.out⟩
end Go.Proofs.Ytehklmbkkidehaa

namespace Go.Proofs.Ytehklmbkkidehaa
open Go.RowKit

theorem ixn_at {k : Nat} (hk : k < 27) : ixn (ax k) (ay k) (az k) = k := by
  unfold ixn ax ay az; omega
theorem has_at (p : ByteArray) (hp : Set27 p) (k : Nat) (hk : k < 27) (w : World) : Calls Try.prog 11 #[.string p, .agg #[.int .i64 (ax k), .int .i64 (ay k), .int .i64 (az k)]] w fun e w' => e = .returned (.bool (hs p.data.toList k)) ∧ Below w.heap.size w w' := by
  have h := implHasS_yes p (ax k) (ay k) (az k) w hp (at_st3 (i := (k : Int)) (by omega) (by omega))
  rwa [ixn_at hk] at h
end Go.Proofs.Ytehklmbkkidehaa
