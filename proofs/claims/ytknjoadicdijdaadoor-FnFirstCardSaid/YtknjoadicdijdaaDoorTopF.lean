/-
  Several small texts in one: SetX SetI SetJ Pop SetC Row PpS HasK DrawW DrawS DrawV DrawL Tz TabL.
-/
import Derived.Test.YtknjoadicdijdaaDoorSetW
import Derived.Test.YtknjoadicdijdaaDoorIx0
import Derived.Test.YtknjoadicdijdaaDoorSetS
import Derived.Deep.QuietTactic
import Derived.BigQuiet
import Derived.Test.YtknjoadicdijdaaDoorBlk
import Derived.Laws.OwnMore
import Derived.Deep.AppendLies
import Derived.Deep.Onto
import Derived.RowKit3
import Derived.Test.YtknjoadicdijdaaDoorDraw
import Derived.Deep.RegionHeld3
import Derived.Test.YtknjoadicdijdaaDoorDrawUV
import Derived.Test.YtknjoadicdijdaaDoorTst
import Derived.Test.YtknjoadicdijdaaDoorAt0
import Derived.Test.YtknjoadicdijdaaDoorFind
import Derived.Lib.TrailingZeros
import Derived.Test.YtknjoadicdijdaaDoorCards
import Derived.OpenShut
import Derived.LaidHandle
import Derived.MakeChecks
namespace Go.Proofs.YtknjoadicdijdaaDoor
open Go.RowKit

end Go.Proofs.YtknjoadicdijdaaDoor

namespace Go.Proofs.YtknjoadicdijdaaDoor
open Go.RowKit

set_option maxHeartbeats 1000000 in
theorem implPredValid_yes (s : ByteArray) (w : World) (hv : Set27 s) : Calls Tryd.prog 25 #[.string s] w fun e w' => e = .returned (.bool true) ∧ w = w' := by
  have C := fun w => Lib.hid (implRead_yes s w hv)
  go_enter Tryd.func25, Tryd.ntmps25
  go_wp2_with fail
  refine (C _).out.mono ?_
  rintro e w' ⟨rfl, rfl⟩
  go_wp2_with fail
  go_ret
  exact ⟨rfl, rfl⟩
set_option maxHeartbeats 1000000 in
theorem implPredValid_no (s : ByteArray) (w : World) (hv : ¬ Set27 s) : Calls Tryd.prog 25 #[.string s] w fun e w' => e = .returned (.bool false) ∧ w = w' := by
  have C := fun w => Lib.hid (implRead_no s w hv)
  clear hv
  go_enter Tryd.func25, Tryd.ntmps25
  go_wp2_with fail
  refine (C _).out.mono ?_
  rintro e w' ⟨rfl, rfl⟩
  go_wp2_with fail
  go_ret
  exact ⟨rfl, rfl⟩

theorem and_bits (F G : Nat → Bool) : bits .and .u32 (nb 27 F : Nat) (nb 27 G : Nat) = (nb 27 (fun i => F i && G i) : Nat) := by
  have h := nb_lt27 F; have h' := nb_lt27 G
  rw [u32_and_nat _ _ (by omega) (by omega), nb_and]
theorem or_bits (F G : Nat → Bool) : bits .or .u32 (nb 27 F : Nat) (nb 27 G : Nat) = (nb 27 (fun i => F i || G i) : Nat) := by
  have h := nb_lt27 F; have h' := nb_lt27 G
  rw [u32_or_nat _ _ (by omega) (by omega), nb_or2]

/-- The number of a state. -/
def ixn (x y z : Int) : Nat := (x + 3 * y + 9 * z).toNat
theorem ixn_lt {x y z : Int} (h : st3 x y z = true) : ixn x y z < 27 ∧ ((ixn x y z : Nat) : Int) = x + 3 * y + 9 * z := by
  have h := st3_lt h
  unfold ixn; omega

set_option maxHeartbeats 1000000 in
theorem implHasS_yes (p : ByteArray) (x y z : Int) (w : World) (hp : Set27 p) (h : st3 x y z = true) : Calls Tryd.prog 28 #[.string p, .agg #[.int .i64 x, .int .i64 y, .int .i64 z]] w fun e w' => e = .returned (.bool (hs p.data.toList (ixn x y z))) ∧ Below w.heap.size w w' := by
  have C := fun w => Lib.hid (implRead_yes p w hp)
  have V := fun w => Lib.hid (implStateValid x y z w)
  rw [h] at V
  have hi := ixn_lt h
  have I := fun w => Lib.hid (implIx_yes x y z w h)
  rw [← hi.2] at I
  have D := fun w => Lib.hid (implHasB (hs p.data.toList) (ixn x y z) w hi.1)
  clear hi h
  go_enter Tryd.func28, Tryd.ntmps28
  go_wp2_with fail
  have HT0 := Lib.hid (Blk.new w #[.int .i64 x, .int .i64 y, .int .i64 z] 30)
  have HB0 := Lib.hid ((Below.refl _ w).alloc (Nat.le_refl _) (.cells #[.int .i64 x, .int .i64 y, .int .i64 z] 30))
  generalize w.alloc (.cells #[.int .i64 x, .int .i64 y, .int .i64 z] 30) = w0 at *
  refine (C _).out.mono ?_
  rintro e w' ⟨rfl, rfl⟩
  obtain ⟨q0, q1, q2⟩ := HT0.out.c3
  go_wp2_with fail
  clear q0 q1 q2
  refine (V _).out.mono ?_
  rintro e w1 ⟨rfl, hb⟩
  have HB1 := Lib.hid (bnext HB0.out hb)
  have HT1 := Lib.hid (HT0.out.kept hb)
  clear hb
  obtain ⟨q0, q1, q2⟩ := HT1.out.c3
  go_wp2_with fail
  clear q0 q1 q2
  refine (I _).out.mono ?_
  rintro e w2 ⟨rfl, hb⟩
  have HB2 := Lib.hid (bnext HB1.out hb)
  clear hb
  go_wp2_with fail
  refine (D _).out.mono ?_
  rintro e w' ⟨rfl, rfl⟩
  go_wp2_with fail
  go_ret
  exact ⟨rfl, HB2.out⟩
set_option maxHeartbeats 1000000 in
theorem implHasS_st (p : ByteArray) (x y z : Int) (w : World) (hp : Set27 p) (h : st3 x y z = false) : Calls Tryd.prog 28 #[.string p, .agg #[.int .i64 x, .int .i64 y, .int .i64 z]] w fun e w' => e = .returned (.bool false) ∧ Below w.heap.size w w' := by
  have C := fun w => Lib.hid (implRead_yes p w hp)
  have V := fun w => Lib.hid (implStateValid x y z w)
  rw [h] at V
  clear h
  go_enter Tryd.func28, Tryd.ntmps28
  go_wp2_with fail
  have HT0 := Lib.hid (Blk.new w #[.int .i64 x, .int .i64 y, .int .i64 z] 30)
  have HB0 := Lib.hid ((Below.refl _ w).alloc (Nat.le_refl _) (.cells #[.int .i64 x, .int .i64 y, .int .i64 z] 30))
  generalize w.alloc (.cells #[.int .i64 x, .int .i64 y, .int .i64 z] 30) = w0 at *
  refine (C _).out.mono ?_
  rintro e w' ⟨rfl, rfl⟩
  obtain ⟨q0, q1, q2⟩ := HT0.out.c3
  go_wp2_with fail
  clear q0 q1 q2
  refine (V _).out.mono ?_
  rintro e w1 ⟨rfl, hb⟩
  have HB1 := Lib.hid (bnext HB0.out hb)
  clear hb
  go_wp2_with fail
  go_ret
  exact ⟨rfl, HB1.out⟩
set_option maxHeartbeats 1000000 in
theorem implHasS_no (p : ByteArray) (x y z : Int) (w : World) (hp : ¬ Set27 p) : Calls Tryd.prog 28 #[.string p, .agg #[.int .i64 x, .int .i64 y, .int .i64 z]] w fun e w' => e = .returned (.bool false) ∧ Below w.heap.size w w' := by
  have C := fun w => Lib.hid (implRead_no p w hp)
  clear hp
  go_enter Tryd.func28, Tryd.ntmps28
  go_wp2_with fail
  refine (C _).out.mono ?_
  rintro e w' ⟨rfl, rfl⟩
  go_wp2_with fail
  go_ret
  exact ⟨rfl, (Below.refl _ _).alloc (Nat.le_refl _) _⟩
end Go.Proofs.YtknjoadicdijdaaDoor

namespace Go.Proofs.YtknjoadicdijdaaDoor
open Go.RowKit

theorem set27_size {p : ByteArray} (h : Set27 p) : p.size = 27 := by have := h.1; simpa using this

theorem wi_eq (p q : ByteArray) (hp : Set27 p) : ((bs (tb (fun i => hs p.data.toList i && hs q.data.toList i))).toList == p.toList) = wi 27 (hs p.data.toList) (hs q.data.toList) := by
  rw [bytes_eq, Bool.eq_iff_iff, decide_eq_true_eq, wi_iff]
  have e : bs p.data.toList = p := by apply ByteArray.ext; simp [bs]
  constructor
  · intro h i hi hF
    have h2 : tb (fun i => hs p.data.toList i && hs q.data.toList i) = tbn 27 (hs p.data.toList) := by
      rw [tbn_hs hp]
      have := congrArg (fun b : ByteArray => b.data.toList) h
      simpa [bs] using this
    have h3 := tbn_inj h2 i hi
    simpa [hF] using h3
  · intro h
    rw [show tb (fun i => hs p.data.toList i && hs q.data.toList i) = tbn 27 (hs p.data.toList) from tbn_congr fun i hi => by
      cases hF : hs p.data.toList i
      · rfl
      · simp [h i hi hF], tbn_hs hp, e]

set_option maxHeartbeats 1000000 in
theorem specCountP_yes (p : ByteArray) (w : World) (hp : Set27 p) : Calls Tryd.prog 27 #[.string p] w fun e w' => e = .returned (.int .i64 (cnt 27 (hs p.data.toList))) ∧ w = w' := by
  have C := fun w => Lib.hid (specPredValid_yes p w hp)
  have E := fun w => Lib.hid (specCount0 p 27 w hp (by omega))
  go_enter Tryd.func27, Tryd.ntmps27
  go_wp2_with fail
  refine (C _).out.mono ?_
  rintro e w' ⟨rfl, rfl⟩
  go_wp2_with fail
  refine (E _).out.mono ?_
  rintro e w' ⟨rfl, rfl⟩
  go_wp2_with fail
  go_ret
  exact ⟨rfl, rfl⟩
set_option maxHeartbeats 1000000 in
theorem specCountP_no (p : ByteArray) (w : World) (hp : ¬ Set27 p) (hm : p.size ≤ maxLen) : Calls Tryd.prog 27 #[.string p] w fun e w' => e = .returned (.int .i64 (-1)) ∧ w = w' := by
  have C := fun w => Lib.hid (specPredValid_no p w hp hm)
  clear hp
  go_enter Tryd.func27, Tryd.ntmps27
  go_wp2_with fail
  refine (C _).out.mono ?_
  rintro e w' ⟨rfl, rfl⟩
  go_wp2_with fail
  go_ret
  exact ⟨rfl, rfl⟩

/-- The number of a state. -/
def ixs (x y z : Int) : Nat := (x + 3 * y + 9 * z).toNat
theorem ixs_lt {x y z : Int} (h : st3 x y z = true) : ixs x y z < 27 ∧ ((ixs x y z : Nat) : Int) = x + 3 * y + 9 * z := by
  have h := st3_lt h
  unfold ixs; omega

end Go.Proofs.YtknjoadicdijdaaDoor

namespace Go.Proofs.YtknjoadicdijdaaDoor
open Go.RowKit

theorem mask8 (m : Nat) (hm : m < 4294967296) : bits .and .u32 (m : Int) 255 = ((m % 256 : Nat) : Int) := by
  rw [show (255 : Int) = ((255 : Nat) : Int) from rfl, u32_and_nat _ _ hm (by omega), nat_mask8]

def tabl : List UInt8 := (List.range 256).map fun x => UInt8.ofNat (cnt 8 x.testBit)
theorem tab_at (T : ByteArray) (hT : T.data.toList = tabl) (a : Nat) (h : a < T.size) : ((T[a]'h).toNat : Int) = (cnt 8 a.testBit : Nat) := by
  have e : T[a] = T.data.toList[a]'(by simpa using h) := rfl
  have h2 : a < tabl.length := by rw [← hT]; simpa using h
  have e2 : T[a] = tabl[a] := by rw [e]; simp only [hT]
  rw [e2]
  simp only [tabl, List.getElem_map, List.getElem_range]
  have := cnt_le 8 a.testBit
  rw [UInt8.toNat_ofNat_of_lt' (by show _ < 256; omega)]
theorem cnt_add (k m : Nat) (F : Nat → Bool) : cnt (k + m) F = cnt k F + cnt m (fun i => F (k + i)) := by
  induction m with
  | zero => rfl
  | succ m ih => rw [← Nat.add_assoc]; simp only [cnt]; rw [ih]; omega
theorem cnt_congr {k : Nat} {F G : Nat → Bool} (h : ∀ i, i < k → F i = G i) : cnt k F = cnt k G := by
  induction k with
  | zero => rfl
  | succ k ih => simp only [cnt]; rw [ih (fun i hi => h i (by omega)), h k (by omega)]
theorem cnt_zero {k : Nat} {F : Nat → Bool} (h : ∀ i, i < k → F i = false) : cnt k F = 0 := by
  induction k with
  | zero => rfl
  | succ k ih => simp only [cnt]; rw [ih (fun i hi => h i (by omega)), h k (by omega)]; rfl
theorem pop_split (n : Nat) (hn : n < 134217728) : cnt 27 n.testBit = cnt 8 (n / 16777216).testBit + cnt 8 (n / 65536 % 256).testBit + cnt 8 (n / 256 % 256).testBit + cnt 8 (n % 256).testBit := by
  have h32 : cnt 32 n.testBit = cnt 27 n.testBit := by
    rw [show (32 : Nat) = 27 + 5 from rfl, cnt_add]
    rw [cnt_zero (k := 5) (F := fun i => n.testBit (27 + i)) (fun i _ => Nat.testBit_lt_two_pow (Nat.lt_of_lt_of_le hn (Nat.pow_le_pow_right (n := 2) (by omega) (by omega : 27 ≤ 27 + i))))]
    omega
  rw [← h32, show (32 : Nat) = 8 + (8 + (8 + 8)) from rfl, cnt_add, cnt_add, cnt_add]
  rw [cnt_congr (G := (n % 256).testBit) (F := n.testBit) (fun i hi => by rw [show (256 : Nat) = 2 ^ 8 from rfl, Nat.testBit_mod_two_pow]; simp [hi])]
  rw [cnt_congr (G := (n / 256 % 256).testBit) (F := fun i => n.testBit (8 + i)) (fun i hi => by rw [show n / 256 % 256 = n / 2 ^ 8 % 2 ^ 8 from rfl, Nat.testBit_mod_two_pow, Nat.testBit_div_two_pow]; simp [hi, Nat.add_comm])]
  rw [cnt_congr (G := (n / 65536 % 256).testBit) (F := fun i => n.testBit (8 + (8 + i))) (fun i hi => by rw [show n / 65536 % 256 = n / 2 ^ 16 % 2 ^ 8 from rfl, Nat.testBit_mod_two_pow, Nat.testBit_div_two_pow]; simp [hi]; congr 1; omega)]
  rw [cnt_congr (G := (n / 16777216).testBit) (F := fun i => n.testBit (8 + (8 + (8 + i)))) (fun i hi => by rw [show n / 16777216 = n / 2 ^ 24 from rfl, Nat.testBit_div_two_pow]; congr 1; omega)]
  omega

set_option maxRecDepth 100000 in
set_option maxHeartbeats 4000000 in
theorem popAny (n : Nat) (w : World) (hn : n < 134217728) : Calls Tryd.prog 59 #[.int .u32 n] w fun e w' => e = .returned (.int .i64 (cnt 27 n.testBit : Nat)) ∧ ∃ m, w' = w.drewN m := by
  have HN := Lib.hid (pop_split n hn)
  obtain ⟨a, ha⟩ : ∃ a : Nat, n / 16777216 = a := ⟨_, rfl⟩
  obtain ⟨b, hb⟩ : ∃ a : Nat, n / 65536 % 256 = a := ⟨_, rfl⟩
  obtain ⟨c, hc⟩ : ∃ a : Nat, n / 256 % 256 = a := ⟨_, rfl⟩
  obtain ⟨d, hd⟩ : ∃ a : Nat, n % 256 = a := ⟨_, rfl⟩
  have ea : (n : Int) / 16777216 = a := by omega
  have eb : bits .and .u32 ((n : Int) / 65536) 255 = b := by rw [show (n : Int) / 65536 = ((n / 65536 : Nat) : Int) by omega, mask8 _ (by omega), hb]
  have ec : bits .and .u32 ((n : Int) / 256) 255 = c := by rw [show (n : Int) / 256 = ((n / 256 : Nat) : Int) by omega, mask8 _ (by omega), hc]
  have ed : bits .and .u32 (n : Int) 255 = d := by rw [mask8 _ (by omega), hd]
  have la : (a : Int) < 256 := by omega
  have lb : (b : Int) < 256 := by omega
  have lc : (c : Int) < 256 := by omega
  have ld : (d : Int) < 256 := by omega
  have ka : (0 : Int) ≤ a := by omega
  have kb : (0 : Int) ≤ b := by omega
  have kc : (0 : Int) ≤ c := by omega
  have kd : (0 : Int) ≤ d := by omega
  have HA := Lib.hid ha
  have HB := Lib.hid hb
  have HC := Lib.hid hc
  have HD := Lib.hid hd
  clear ha hb hc hd
  go_enter Tryd.func59, Tryd.ntmps59
  go_wp2_with fail
  go_quiet (fail)
  go_wp2_with fail
  go_ret
  refine ⟨?_, _, rfl⟩
  refine congrArg (fun z : Int => Ending.returned (.int .i64 z)) ?_
  rw [HN.out, HA.out, HB.out, HC.out, HD.out, tab_at (a := a), tab_at (a := b), tab_at (a := c), tab_at (a := d)]
  · have h1 := cnt_le 8 a.testBit
    have h2 := cnt_le 8 b.testBit
    have h3 := cnt_le 8 c.testBit
    have h4 := cnt_le 8 d.testBit
    omega
  all_goals kernel_rfl
end Go.Proofs.YtknjoadicdijdaaDoor

namespace Go.Proofs.YtknjoadicdijdaaDoor
open Go.RowKit

theorem cnt_nb (F : Nat → Bool) : cnt 27 (nb 27 F).testBit = cnt 27 F := cnt_congr fun i hi => by rw [nb_bit]; simp [hi]

set_option maxHeartbeats 1000000 in
theorem implCountP_yes (p : ByteArray) (w : World) (hp : Set27 p) : Calls Tryd.prog 26 #[.string p] w fun e w' => e = .returned (.int .i64 (cnt 27 (hs p.data.toList))) ∧ Below w.heap.size w w' := by
  have C := fun w => Lib.hid (implRead_yes p w hp)
  have E := fun w => Lib.hid (popAny (nb 27 (hs p.data.toList)) w (nb_lt27 _))
  rw [cnt_nb] at E
  go_enter Tryd.func26, Tryd.ntmps26
  go_wp2_with fail
  refine (C _).out.mono ?_
  rintro e w' ⟨rfl, rfl⟩
  go_wp2_with fail
  refine (E _).out.mono ?_
  rintro e w1 ⟨rfl, m, rfl⟩
  go_wp2_with fail
  go_ret
  exact ⟨rfl, bdrewN (Below.refl _ _) m⟩
set_option maxHeartbeats 1000000 in
theorem implCountP_no (p : ByteArray) (w : World) (hp : ¬ Set27 p) : Calls Tryd.prog 26 #[.string p] w fun e w' => e = .returned (.int .i64 (-1)) ∧ Below w.heap.size w w' := by
  have C := fun w => Lib.hid (implRead_no p w hp)
  clear hp
  go_enter Tryd.func26, Tryd.ntmps26
  go_wp2_with fail
  refine (C _).out.mono ?_
  rintro e w' ⟨rfl, rfl⟩
  go_wp2_with fail
  go_ret
  exact ⟨rfl, Below.refl _ _⟩
end Go.Proofs.YtknjoadicdijdaaDoor

namespace Go.Proofs.YtknjoadicdijdaaDoor
open Go.RowKit

def IntPost (n : Int) (w : World) (e : Ending) (w' : World) : Prop := e = .returned (.int .i64 n) ∧ Below w.heap.size w w'
def Row (w : World) (B : Nat) (T : TypeId) (v : Value) (xs : List Value) : Prop := w.ownsRow B T 1 v xs.length xs
theorem Row.kept {w w' : World} {B : Nat} {T : TypeId} {v : Value} {xs : List Value} (h : Row w B T v xs) (hb : Below w.heap.size w w') : Row w' B T v xs := by
  obtain ⟨h1, h2⟩ := h
  refine ⟨h1, ?_⟩
  rcases h2 with h2 | ⟨g, cap, cur, a, b, c, d⟩
  · exact .inl h2
  · exact .inr ⟨g, cap, cur, a, b, (hb.block g (Array.getElem?_eq_some_iff.1 c).1).trans c, d⟩
theorem Row.mono {w : World} {B B' : Nat} {T : TypeId} {v : Value} {xs : List Value} (h : Row w B T v xs) (hb : B' ≤ B) : Row w B' T v xs := World.ownsRow.mono h hb
theorem Row.nil (w : World) (B : Nat) (T : TypeId) : Row w B T (.slice none 0 0) [] := ⟨rfl, .inl ⟨rfl, rfl⟩⟩
theorem Row.new (w : World) (T : TypeId) (xs : List Value) (hx : xs.length ≤ 1000) : Row (w.alloc (.cells xs.toArray T)) w.heap.size T (.slice (some ⟨w.heap.size, 0, none⟩) xs.length xs.length) xs := by
  refine ⟨by simp, .inr ⟨w.heap.size, xs.length, xs.toArray, rfl, Nat.le_refl _, Blk.new w xs.toArray T, Nat.le_refl _, by unfold maxLen; omega, by simp, by simp⟩⟩
/-- The forms of a row's slice, and its cells. -/
theorem Row.cases {w : World} {B : Nat} {T : TypeId} {v : Value} {xs : List Value} (h : Row w B T v xs) : (v = .slice none 0 0 ∧ xs = []) ∨ ∃ g cap, v = .slice (some ⟨g, 0, none⟩) xs.length cap ∧ B ≤ g ∧ xs.length ≤ cap ∧ ∀ (j : Nat) (u : Value), xs[j]? = some u → w.cell? ⟨g, j, none⟩ = some u := by
  have h' := h
  obtain ⟨h1, h2⟩ := h
  rcases h2 with ⟨h2, h3⟩ | ⟨g, cap, cur, rfl, b, c, d, _⟩
  · exact .inl ⟨h2, List.eq_nil_of_length_eq_zero h3⟩
  · refine .inr ⟨g, cap, rfl, b, d, fun j u hu => ?_⟩
    have hj : j < xs.length := (List.getElem?_eq_some_iff.1 hu).1
    rw [World.ownsRow.cellAt (show World.ownsRow _ _ _ _ _ _ _ from h') j (by omega)]
    exact hu
theorem Row.one {w : World} {B : Nat} {T : TypeId} {v a : Value} (h : Row w B T v [a]) : ∃ g cap, v = .slice (some ⟨g, 0, none⟩) 1 cap ∧ w.cell? ⟨g, 0, none⟩ = some a := by
  rcases h.cases with ⟨_, h2⟩ | ⟨g, cap, h1, _, _, h3⟩
  · cases h2
  · exact ⟨g, cap, h1, h3 0 a rfl⟩
theorem Row.two {w : World} {B : Nat} {T : TypeId} {v a b : Value} (h : Row w B T v [a, b]) : ∃ g cap, v = .slice (some ⟨g, 0, none⟩) 2 cap ∧ w.cell? ⟨g, 0, none⟩ = some a ∧ w.cell? ⟨g, 1, none⟩ = some b := by
  rcases h.cases with ⟨_, h2⟩ | ⟨g, cap, h1, _, _, h3⟩
  · cases h2
  · exact ⟨g, cap, h1, h3 0 a rfl, h3 1 b rfl⟩
theorem Row.zero {w : World} {B : Nat} {T : TypeId} {v : Value} (h : Row w B T v []) : ∃ a cap, v = .slice a 0 cap := by
  rcases h.cases with ⟨h2, _⟩ | ⟨g, cap, h1, _⟩
  · exact ⟨_, _, h2⟩
  · exact ⟨_, _, h1⟩
theorem Row.one' {w : World} {B : Nat} {T : TypeId} {v a : Value} (h : Row w B T v [a]) : ∃ g cap, v = .slice (some ⟨g, 0, none⟩) 1 cap ∧ B ≤ g ∧ w.cell? ⟨g, 0, none⟩ = some a := by
  rcases h.cases with ⟨_, h2⟩ | ⟨g, cap, h1, hb, _, h3⟩
  · cases h2
  · exact ⟨g, cap, h1, hb, h3 0 a rfl⟩
theorem Row.two' {w : World} {B : Nat} {T : TypeId} {v a b : Value} (h : Row w B T v [a, b]) : ∃ g cap, v = .slice (some ⟨g, 0, none⟩) 2 cap ∧ B ≤ g ∧ w.cell? ⟨g, 0, none⟩ = some a ∧ w.cell? ⟨g, 1, none⟩ = some b := by
  rcases h.cases with ⟨_, h2⟩ | ⟨g, cap, h1, hb, _, h3⟩
  · cases h2
  · exact ⟨g, cap, h1, hb, h3 0 a rfl, h3 1 b rfl⟩
/-- A row that is not empty, as a list of cells that may be appended. -/
theorem Row.news {w : World} {B : Nat} {T : TypeId} {v : Value} {xs : List Value} (h : Row w B T v xs) (hx : 0 < xs.length) : ∃ g cap, v = .slice (some ⟨g, 0, none⟩) xs.length cap ∧ B ≤ g ∧ g < w.heap.size ∧ ∀ (j : Nat) (u : Value), xs[j]? = some u → w.cell? ((⟨g, 0, none⟩ : Addr).add j) = some u := by
  rcases h.cases with ⟨_, h2⟩ | ⟨g, cap, h1, hb, _, h3⟩
  · rw [h2] at hx; simp at hx
  · refine ⟨g, cap, h1, hb, ?_, World.ownsRow.cells h (by rw [h1]; rfl)⟩
    have := World.ownsRow.lt h g (by rw [h1]; rfl)
    exact this.2
/-- Behind an append. -/
theorem Row.after {w w2 w3 : World} {T : TypeId} {v : Value} {xs ys : List Value} {g3 cap3 : Nat} (hB : Below w.heap.size w w2) (hrow : Row w2 w.heap.size T v xs)
    (hown : w3.ownsRow w.heap.size T 1 (.slice (some ⟨g3, 0, none⟩) (xs.length + ys.length) cap3) (xs.length + ys.length) (xs ++ ys)) (hgrow : w2.grownBy w3 v.ownBlock) :
    Row w3 w.heap.size T (.slice (some ⟨g3, 0, none⟩) (xs.length + ys.length) cap3) (xs ++ ys) ∧ Below w.heap.size w w3 := by
  refine ⟨?_, hB.grown hgrow hB.size (fun k hk => (World.ownsRow.lt hrow k hk).1)⟩
  unfold Row
  rw [List.length_append]
  exact hown
end Go.Proofs.YtknjoadicdijdaaDoor

namespace Go.Proofs.YtknjoadicdijdaaDoor
open Go.RowKit

theorem infoState : (Tryd.prog.info? 30).map (fun i => (i.zero, i.size, i.bytes)) = some (some (.agg #[.int .i64 0, .int .i64 0, .int .i64 0]), 3, 24) := by kernel_rfl

/-- The cells of the first k states. -/
def stC : Nat → List Value
  | 0 => []
  | k + 1 => stC k ++ [.int .i64 (ax k), .int .i64 (ay k), .int .i64 (az k)]
theorem stC_len (k : Nat) : (stC k).length = k * 3 := by
  induction k with
  | zero => rfl
  | succ k ih => unfold stC; rw [List.length_append, ih]; simp; omega
theorem stC_get (n k : Nat) (h : k < n) : (stC n)[k * 3]? = some (.int .i64 (ax k)) ∧ (stC n)[k * 3 + 1]? = some (.int .i64 (ay k)) ∧ (stC n)[k * 3 + 2]? = some (.int .i64 (az k)) := by
  induction n with
  | zero => omega
  | succ n ih =>
    unfold stC
    by_cases e : k = n
    · subst e
      refine ⟨?_, ?_, ?_⟩ <;> rw [List.getElem?_append_right (by rw [stC_len]; omega), stC_len]
      · rw [show k * 3 - k * 3 = 0 by omega]; rfl
      · rw [show k * 3 + 1 - k * 3 = 1 by omega]; rfl
      · rw [show k * 3 + 2 - k * 3 = 2 by omega]; rfl
    · obtain ⟨h1, h2, h3⟩ := ih (by omega)
      refine ⟨?_, ?_, ?_⟩ <;> rw [List.getElem?_append_left (by rw [stC_len]; omega)] <;> assumption

/-- The list of all states lies at block g. -/
def Sts (w : World) (g : Nat) : Prop := ∀ k, k < 27 → w.cell? ⟨g, k * 3, none⟩ = some (.int .i64 (ax k)) ∧ w.cell? ⟨g, k * 3 + 1, none⟩ = some (.int .i64 (ay k)) ∧ w.cell? ⟨g, k * 3 + 2, none⟩ = some (.int .i64 (az k))
theorem Sts.kept {w w' : World} {g : Nat} (h : Sts w g) (hb : Below w.heap.size w w') : Sts w' g := fun k hk => by
  obtain ⟨h1, h2, h3⟩ := h k hk
  exact ⟨ckeep hb h1, ckeep hb h2, ckeep hb h3⟩

set_option maxRecDepth 100000 in
set_option maxHeartbeats 4000000 in
theorem states_any (w : World) : Calls Tryd.prog 10 #[] w fun e w' => ∃ g cap, 27 ≤ cap ∧ g < w'.heap.size ∧ e = .returned (.slice (some ⟨g, 0, none⟩) 27 cap) ∧ Sts w' g ∧ Below w.heap.size w w' := by
  obtain ⟨i0, hi0, hz0, hz1, hz2⟩ := info_parts infoState
  have HB : Hid (Below w.heap.size w (w.alloc (.cells #[] 30))) := (Below.refl _ _).alloc (Nat.le_refl _) _
  have HR : Hid ((w.alloc (.cells #[] 30)).ownsRow w.heap.size 30 3 (.slice (some ⟨w.heap.size, 0, none⟩) 0 0) 0 (stC 0)) :=
    ⟨rfl, .inr ⟨w.heap.size, 0, #[], rfl, Nat.le_refl _, Blk.new w #[] 30, Nat.le_refl _, by unfold maxLen; omega, rfl, rfl⟩⟩
  go_enter Tryd.func10, Tryd.ntmps10
  go_wp2_with fail
  generalize w.alloc (.cells #[] 30) = w0 at *
  go_loopw [1, 2] (fun v i wr => ∃ k : Nat, k ≤ 27 ∧ i = .int .i64 k ∧ Hid (wr.ownsRow w.heap.size 30 3 v k (stC k)) ∧ Hid (Below w.heap.size w wr)) (fun _ i _ => 27 - (intOf i).toNat)
  case atStart => exact ⟨0, by omega, rfl, HR, HB⟩
  case round =>
    clear HR HB
    obtain ⟨k, hk, rfl, HR, HB⟩ := hrel
    by_cases hlt : k < 27
    · have hlt2 : (k : Int) < 27 := by omega
      go_wp2_with (at_builtin; refine wpList_append_lies _ (by rfl) _ _ _ (by rfl) w.heap.size 30 i0 _ 3 24 Tryd.underlying27 hi0 hz0 hz1 hz2 rfl (by omega) _ _ _ (by rfl) (World.ownsRow.alloc HR.out _) ⟨wr.heap.size, 0, none⟩ 1 1 [.int .i64 ((k : Int) % 3), .int .i64 ((k : Int) / 3 % 3), .int .i64 ((k : Int) / 9)] (by rfl) (by rfl) (World.news_of_block (cs := #[.int .i64 ((k : Int) % 3), .int .i64 ((k : Int) / 3 % 3), .int .i64 ((k : Int) / 9)]) (t := 30) (fr := (0, 0)) (heap_alloc_new wr _)) (by simp [Value.oneCell']) (by omega) (by unfold maxLen; omega) (by omega) (by have := HB.out.size; simp; omega) (wr.heap.size + 1) (by simp) ?_; intro g3 cap3 w3 hown hgrow hat hlt3)
      have hb3 := (HB.out.alloc HB.out.size _).grown hgrow (by have := HB.out.size; simp; omega) (fun k hk => (World.ownsRow.lt HR.out k hk).1)
      exact ⟨⟨k + 1, by omega, by go_num, hown, hb3⟩, by simp [intOf]; omega⟩
    · have hk2 : k = 27 := by omega
      subst hk2
      obtain ⟨g, cap, rfl, hg, hglt⟩ := HR.out.form (by omega)
      have hcap : 27 ≤ cap := by
        rcases HR.out.2 with ⟨h, _⟩ | ⟨g', cap', cur, h, _, _, hc, _⟩
        · simp at h
        · simp at h; omega
      have HS : Hid (Sts wr g) := fun k hk => by
        obtain ⟨h1, h2, h3⟩ := stC_get 27 k hk
        refine ⟨?_, ?_, ?_⟩
        · rw [← h1]; exact World.ownsRow.cellAt HR.out _ (by omega)
        · rw [← h2]; exact World.ownsRow.cellAt HR.out _ (by omega)
        · rw [← h3]; exact World.ownsRow.cellAt HR.out _ (by omega)
      clear HR
      go_wp2_with fail
      go_ret
      exact ⟨g, cap, hcap, hglt, rfl, HS.out, HB.out⟩
end Go.Proofs.YtknjoadicdijdaaDoor

namespace Go.Proofs.YtknjoadicdijdaaDoor
open Go.RowKit

theorem ixn_at {k : Nat} (hk : k < 27) : ixn (ax k) (ay k) (az k) = k := by
  unfold ixn ax ay az; omega
theorem has_at (p : ByteArray) (hp : Set27 p) (k : Nat) (hk : k < 27) (w : World) : Calls Tryd.prog 28 #[.string p, .agg #[.int .i64 (ax k), .int .i64 (ay k), .int .i64 (az k)]] w fun e w' => e = .returned (.bool (hs p.data.toList k)) ∧ Below w.heap.size w w' := by
  have h := implHasS_yes p (ax k) (ay k) (az k) w hp (at_st3 (i := (k : Int)) (by omega) (by omega))
  rwa [ixn_at hk] at h
end Go.Proofs.YtknjoadicdijdaaDoor

namespace Go.Proofs.YtknjoadicdijdaaDoor
open Go.RowKit

set_option maxHeartbeats 4000000 in
theorem which_any {a p : Nat} {w : World} (hr : Rd a p w) (hp : p ≤ 900000) :
    Calls Tryd.prog 35 #[.pointer (some ⟨a, 0, none⟩)] w fun e w' => ∃ s : ByteArray, s.size ≤ 2 ∧ e = .returned (.string s) ∧ Rd a (p + 1) w' ∧ Kp a w w' := by
  have HL := Lib.hid (Blk.new w #[.string ⟨#[120]⟩, .string ⟨#[121]⟩, .string ⟨#[122]⟩, .string ⟨#[120]⟩, .string ⟨#[121]⟩, .string ⟨#[122]⟩, .string ⟨#[120]⟩, .string ⟨#[121]⟩, .string ⟨#[]⟩, .string ⟨#[88]⟩, .string ⟨#[119]⟩, .string ⟨#[120, 121]⟩] 9)
  have hax := (Below.refl _ w).alloc (Nat.le_refl _) (.cells #[.string ⟨#[120]⟩, .string ⟨#[121]⟩, .string ⟨#[122]⟩, .string ⟨#[120]⟩, .string ⟨#[121]⟩, .string ⟨#[122]⟩, .string ⟨#[120]⟩, .string ⟨#[121]⟩, .string ⟨#[]⟩, .string ⟨#[88]⟩, .string ⟨#[119]⟩, .string ⟨#[120, 121]⟩] 9)
  have HR := Lib.hid (hr.kept hax)
  have HK := Lib.hid ((Kp.refl a w).next hax)
  have hneL : w.heap.size ≠ a := by have := hr.lt; omega
  clear hax hr
  go_enter Tryd.func35, Tryd.ntmps35
  go_wp2_with fail
  refine (of_any 12 12 (fun s => s.size ≤ 2) HR.out (by omega) HL.out hneL (by omega) (by omega) (fun i hi => by
    have hi : i = 0 ∨ i = 1 ∨ i = 2 ∨ i = 3 ∨ i = 4 ∨ i = 5 ∨ i = 6 ∨ i = 7 ∨ i = 8 ∨ i = 9 ∨ i = 10 ∨ i = 11 := by omega
    rcases hi with rfl | rfl | rfl | rfl | rfl | rfl | rfl | rfl | rfl | rfl | rfl | rfl <;> exact ⟨_, rfl, by decide⟩)).mono ?_
  rintro e w1 ⟨s, hs, rfl, hr, hk⟩
  have HR1 := Lib.hid hr
  have HK1 := Lib.hid (HK.out.trans hk)
  clear hr hk
  go_wp2_with fail
  go_ret
  exact ⟨s, hs, rfl, HR1.out, HK1.out⟩

end Go.Proofs.YtknjoadicdijdaaDoor

namespace Go.Proofs.YtknjoadicdijdaaDoor
open Go.RowKit

end Go.Proofs.YtknjoadicdijdaaDoor

namespace Go.Proofs.YtknjoadicdijdaaDoor
open Go.RowKit

theorem IsRow.kept {w w' : World} {a : Option Addr} {len cap : Nat} {zs : List Int} (h : IsRow w a len cap zs) (hb : Below w.heap.size w w') : IsRow w' a len cap zs := by
  rcases h with h | ⟨x, rfl, hl, hm, hz, hc, hw⟩
  · exact .inl h
  · exact .inr ⟨x, rfl, hl, hm, hz, fun i hi => by
      have h1 := hc i hi
      have hlt := World.block_lt_of_cell? w _ h1
      exact (hb.cell hlt).trans h1, hw⟩

theorem keepS {w w1 : World} {b c : Nat} {v0 v1 v2 x y z : Value} (h : Below c w w1) (hne : ¬ b = c) (h0 : w1.cell? ⟨b, 0, none⟩ = some x) (h1 : w1.cell? ⟨b, 1, none⟩ = some y) (h2 : w1.cell? ⟨b, 2, none⟩ = some z) :
    Below c w (((w1.setCell ⟨c, 0, none⟩ v0).setCell ⟨c, 1, none⟩ v1).setCell ⟨c, 2, none⟩ v2) ∧
    (((w1.setCell ⟨c, 0, none⟩ v0).setCell ⟨c, 1, none⟩ v1).setCell ⟨c, 2, none⟩ v2).cell? ⟨b, 0, none⟩ = some x ∧
    (((w1.setCell ⟨c, 0, none⟩ v0).setCell ⟨c, 1, none⟩ v1).setCell ⟨c, 2, none⟩ v2).cell? ⟨b, 1, none⟩ = some y ∧
    (((w1.setCell ⟨c, 0, none⟩ v0).setCell ⟨c, 1, none⟩ v1).setCell ⟨c, 2, none⟩ v2).cell? ⟨b, 2, none⟩ = some z := by
  have hne2 : ¬ c = b := fun h => hne h.symm
  exact ⟨Below.setCell (Below.setCell (Below.setCell h (by simp) _) (by simp) _) (by simp) _, by simp [go_sem, h0], by simp [go_sem, h1], by simp [go_sem, h2]⟩

end Go.Proofs.YtknjoadicdijdaaDoor

namespace Go.Proofs.YtknjoadicdijdaaDoor
open Go.RowKit

theorem part_upd (n k : Nat) (F : Nat → Bool) (b : Bool) (h : k < n) : (part n k F).set k (bitc b) = part n (k + 1) (fun j => if j = k then b else F j) := by
  rw [← part_step n k _ h]
  unfold part
  rw [tbn_congr (F := fun j => if j = k then b else F j) (G := F) (fun i hi => by rw [if_neg (by omega)])]
  simp
theorem set27_bs (F : Nat → Bool) : Set27 (bs (tb F)) := by
  unfold Set27
  rw [show (bs (tb F)).data.toList = tb F by simp [bs]]
  exact bits_tbn 27 F

set_option maxRecDepth 100000 in
set_option maxHeartbeats 8000000 in
/-- A text of a set is drawn. -/
theorem some_any {a p : Nat} {w : World} (hr : Rd a p w) (hp : p ≤ 400000) :
    Calls Tryd.prog 78 #[.pointer (some ⟨a, 0, none⟩)] w (DrQ Set27 a p 27 27 80 w) := by
  have HR := Lib.hid hr
  have hlt := hr.lt
  clear hr
  have hmk : ∀ w, (Instr.makeSlice 22 (.int .i64 27) (.int .i64 27)).run Tryd.prog w = .ok (.slice (some ⟨w.heap.size, 0, none⟩) 27 27) (w.alloc (.cells (u8s (zs 27)) 5)) := fun w => mkBytes 27 (by omega) w
  have C := Lib.hid (pick_any 3 HR.out (by omega) (by omega) (by omega))
  go_enter Tryd.func78, Tryd.ntmps78
  go_wp2_with fail
  refine C.out.mono ?_
  rintro e w1 ⟨k, k0, k1, rfl, hr, hk⟩
  have HR1 := Lib.hid hr
  have HK1 := Lib.hid hk
  clear hr hk C
  by_cases h0 : (0 : Int) < k
  · have HC := Lib.hid (vT_2 (bs [120, 121, 122]) (by decide) (by decide) nm_xyz HR1.out (by omega))
    go_wp2_with fail
    refine HC.out.mono ?_
    rintro e w2 ⟨t, q, t1, t2, hq, hv, rfl, hr, hk⟩
    obtain ⟨tm, htm, etm⟩ := hv
    have HR2 := Lib.hid hr
    have HK2 := Lib.hid (HK1.out.trans hk)
    have HO := fun w => Lib.hid (specOf0 t tm w (ok_wide htm) etm (by omega))
    clear hr hk HC htm etm
    have HS := Lib.hid (set27_bs (tst tm))
    have HZ : Hid ((bs (tb (tst tm))).size = 27) := by show _ = _; rw [bs_size]; exact tbn_length 27 _
    generalize bs (tb (tst tm)) = r at *
    go_wp2_with fail
    refine (HO _).out.mono ?_
    rintro e w3 ⟨rfl, hb⟩
    have HR3 := Lib.hid (HR2.out.kept hb)
    have HK3 := Lib.hid (HK2.out.next hb)
    clear hb
    go_wp2_with fail
    go_ret
    exact ⟨_, q, Nat.le_of_eq HZ.out.symm, Nat.le_of_eq HZ.out, by omega, HS.out, rfl, HR3.out, HK3.out⟩
  · have HT0 := Lib.hid (BBlk.made 27 w1)
    have hax := (Below.refl _ w1).alloc (Nat.le_refl _) (.cells (u8s (zs 27)) 5)
    have HR2 := Lib.hid (HR1.out.kept hax)
    have HK2 := Lib.hid (HK1.out.next hax)
    have hne : w1.heap.size ≠ a := by have := HR1.out.lt; omega
    clear hax
    go_wp2_with fail
    generalize w1.alloc (.cells (u8s (zs 27)) 5) = w0 at *
    go_loopw [4] (fun i wr => ∃ (k q : Nat) (F : Nat → Bool), k ≤ 27 ∧ i = .int .i64 k ∧ q ≤ p + 1 + k ∧ Hid (Rd a q wr) ∧ Hid (Kp a w wr) ∧ Hid (BBlk wr w1.heap.size (part 27 k F))) (fun i _ => 27 - (intOf i).toNat)
    case atStart => exact ⟨0, p + 1, fun _ => false, by omega, rfl, by omega, HR2, HK2, HT0⟩
    case round =>
      clear HT0 HR2 HK2
      obtain ⟨k, q, F, hk, rfl, hq, HRk, HKk, HTk⟩ := hrel
      by_cases hlt2 : k < 27
      · have HC := Lib.hid (pick_any 2 HRk.out (by omega) (by omega) (by omega))
        have hl := Lib.hid (part_len 27 k F (by omega))
        go_wp2_with fail
        refine HC.out.mono ?_
        rintro e w2 ⟨b, b0, b1, rfl, hr, hk⟩
        have HR3 := Lib.hid hr
        have HK3 := Lib.hid (HKk.out.trans hk)
        have HT3 : Hid (BBlk w2 w1.heap.size (part 27 k F)) := Blk.kp HTk.out hk hne
        have HB2 := Lib.hid HK1.out.size
        clear hr hk HC
        obtain ⟨old, hc⟩ := HT3.out.some k (by rw [hl.out]; omega)
        have hf := HT3.out.free k
        have hgt : a + 1 ≤ w1.heap.size := by have := HR1.out.lt; omega
        cases hb0 : (b == 0)
        · have HP := Lib.hid (part_upd 27 k F false hlt2)
          go_wp2_with fail
          refine (specBit _ _).mono ?_
          rintro e w' ⟨rfl, rfl⟩
          go_wp2_with fail
          refine ⟨⟨k + 1, q + 1, (fun j => if j = k then false else F j), by omega, by go_num, by omega, HR3.out.keepB (Below.setCell (Below.refl (a + 1) _) (p := ⟨w1.heap.size, k, none⟩) hgt _) (by omega), HK3.out.setNew (q := ⟨w1.heap.size, k, none⟩) HB2.out _, ?_⟩, by simp [intOf]; omega⟩
          refine ?_
          show BBlk _ _ (part 27 (k + 1) (fun j => if j = k then false else F j))
          rw [← HP.out]
          exact HT3.out.set k _
        · have HP := Lib.hid (part_upd 27 k F true hlt2)
          go_wp2_with fail
          refine (specBit _ _).mono ?_
          rintro e w' ⟨rfl, rfl⟩
          go_wp2_with fail
          refine ⟨⟨k + 1, q + 1, (fun j => if j = k then true else F j), by omega, by go_num, by omega, HR3.out.keepB (Below.setCell (Below.refl (a + 1) _) (p := ⟨w1.heap.size, k, none⟩) hgt _) (by omega), HK3.out.setNew (q := ⟨w1.heap.size, k, none⟩) HB2.out _, ?_⟩, by simp [intOf]; omega⟩
          refine ?_
          show BBlk _ _ (part 27 (k + 1) (fun j => if j = k then true else F j))
          rw [← HP.out]
          exact HT3.out.set k _
      · have hk3 : k = 27 := by omega
        subst hk3
        have hv := toStr HTk.out 27 27 (part_len 27 27 _ (by omega)).symm
        rw [part_all] at hv
        have HS := Lib.hid (set27_bs F)
        have HZ : Hid ((bs (tb F)).size = 27) := by show _ = _; rw [bs_size]; exact tbn_length 27 _
        unfold tb at HS HZ
        generalize bs (tbn 27 F) = r at *
        go_wp2_with fail
        go_ret
        exact ⟨_, q, Nat.le_of_eq HZ.out.symm, Nat.le_of_eq HZ.out, by omega, HS.out, rfl, HRk.out, HKk.out⟩

theorem szl {x : Nat} (h : x = 27) : (¬ 9223372036854775807 < x + 1) ∧ (¬ 9223372036854775807 < x - 1 + 1) ∧ (¬ 9223372036854775807 < 26 + 1) := by omega
set_option maxRecDepth 100000 in
set_option maxHeartbeats 8000000 in
/-- A text of a set is spoilt, or not. -/
theorem bad2_any {a p : Nat} (t : ByteArray) (h1 : t.size = 27) {w : World} (hr : Rd a p w) (hp : p ≤ 900000) :
    Calls Tryd.prog 77 #[.pointer (some ⟨a, 0, none⟩), .string t] w (DrP a p 0 28 1 w) := by
  have HR := Lib.hid hr
  clear hr
  have C := Lib.hid (pick_any 40 HR.out (by omega) (by omega) (by omega))
  go_enter Tryd.func77, Tryd.ntmps77
  go_wp2_with fail
  refine C.out.mono ?_
  rintro e w1 ⟨k, k0, k1, rfl, hr, hk⟩
  have HR1 := Lib.hid hr
  have HK1 := Lib.hid hk
  clear hr hk C
  obtain ⟨n1, n2, n3⟩ := szl h1
  by_cases e0 : k = 0
  · subst e0
    go_wp2_with fail
    go_ret
    exact ⟨_, p + 1, Nat.zero_le _, by rw [ByteArray.size_append, h1]; decide, by omega, rfl, HR1.out, HK1.out⟩
  have g0 : (k == 0) = false := by rw [beq_eq_false_iff_ne]; exact e0
  clear e0
  by_cases e1 : k = 1
  · subst e1
    have ew : IntKind.i64.wrap ((t.size : Int) - 1) = 26 := (IntWalk.i64_in _ (by omega)).trans (by omega)
    have ew2 : (26 : Int) ≤ (t.size : Int) := by omega
    have ez : (t.extract 0 26).size = 26 := by simp [ByteArray.size_extract]; omega
    have EZ := Lib.hid ez
    clear h1
    go_wp2_with fail
    go_ret
    exact ⟨_, p + 1, Nat.zero_le _, by rw [ByteArray.size_append, EZ.out]; decide, by omega, rfl, HR1.out, HK1.out⟩
  have g1 : (k == 1) = false := by rw [beq_eq_false_iff_ne]; exact e1
  clear e1
  by_cases e2 : k = 2
  · subst e2
    go_wp2_with fail
    go_ret
    exact ⟨_, p + 1, Nat.zero_le _, by decide, by omega, rfl, HR1.out, HK1.out⟩
  have g2 : (k == 2) = false := by rw [beq_eq_false_iff_ne]; exact e2
  clear e2
  go_wp2_with fail
  go_ret
  exact ⟨_, p + 1, Nat.zero_le _, by omega, by omega, rfl, HR1.out, HK1.out⟩

set_option maxHeartbeats 4000000 in
/-- A text is drawn where a set is asked. -/
theorem open2_any {a p : Nat} {w : World} (hr : Rd a p w) (hp : p ≤ 400000) :
    Calls Tryd.prog 51 #[.pointer (some ⟨a, 0, none⟩)] w (DrP a p 0 28 81 w) := by
  have HC := Lib.hid (some_any hr hp)
  clear hr
  go_enter Tryd.func51, Tryd.ntmps51
  go_wp2_with fail
  refine HC.out.mono ?_
  rintro e w1 ⟨t, q, t1, t2, hq, hv, rfl, hr, hk⟩
  have HK1 := Lib.hid hk
  have HC := Lib.hid (bad2_any t (by omega) hr (by omega))
  clear hr hk hv
  go_wp2_with fail
  refine HC.out.mono ?_
  rintro e w2 ⟨x, q', x1, x2, hq', rfl, hr, hk⟩
  have HR2 := Lib.hid hr
  have HK2 := Lib.hid (HK1.out.trans hk)
  clear hr hk
  go_wp2_with fail
  go_ret
  exact ⟨x, q', by omega, by omega, by omega, rfl, HR2.out, HK2.out⟩

theorem or_size (p q : List UInt8) : (bs (tbn 27 (fun i => hs p i || hs q i))).size = 27 := by rw [bs_size]; exact tbn_length 27 _

set_option maxHeartbeats 4000000 in
theorem drawFS {a : Option Addr} {len cap : Nat} {zs : List Int} {w : World} (h : IsRow w a len cap zs) :
    Calls Tryd.prog 22 #[.slice a len cap] w fun e w' => ∃ t : ByteArray, t.size ≤ 28 ∧ e = .returned (.string t) ∧ Below w.heap.size w w' := by
  have HO := Lib.hid (open_any h)
  clear h
  go_enter Tryd.func22, Tryd.ntmps22
  go_wp2_with fail
  refine HO.out.mono ?_
  rintro e w1 ⟨rfl, hr, hb⟩
  have HW1 := Lib.hid hb
  have HC := Lib.hid (open2_any hr (by omega))
  clear hr hb
  go_wp2_with fail
  refine HC.out.mono ?_
  rintro e w2 ⟨t, q, t1, t2, hq, rfl, hr, hk⟩
  have HW2 := Lib.hid (HW1.out.trans (hk.below (Nat.le_refl _) HW1.out.size))
  clear hr hk
  go_wp2_with fail
  go_ret
  exact ⟨t, by omega, rfl, HW2.out⟩

end Go.Proofs.YtknjoadicdijdaaDoor

namespace Go.Proofs.YtknjoadicdijdaaDoor
open Go.RowKit

/-- The library's table in its variable. -/
def Tab32 (w : World) : Prop := ∀ j, j < 32 → w.cell? ⟨0, j, none⟩ = some (.int .u8 (Lib.deBruijn32tab.getD j 0 : Nat))
theorem Tab32.below {w w' : World} (h : Tab32 w) (hb : Below w.heap.size w w') : Tab32 w' := fun j hj => ckeep hb (h j hj)

theorem tz_key (x a : Nat) (hx : x < 4294967296) (hx0 : x ≠ 0) (hlow : x &&& (4294967296 - x) = a) :
    bits BinOp.and IntKind.u32 (x : Int) (-(x : Int) % 4294967296) * 125613361 % 4294967296 / 134217728 = ((a * 125613361 % 4294967296 / 134217728 : Nat) : Int) := by
  have e1 : -(x : Int) % 4294967296 = ((4294967296 - x : Nat) : Int) := by omega
  rw [e1, u32_and_nat x _ hx (by omega), hlow]
  omega

set_option maxHeartbeats 1000000 in
theorem tz_core (x k idx : Nat) (w : World) (hx0 : ((x : Int) == 0) = false)
    (key : bits BinOp.and IntKind.u32 (x : Int) (-(x : Int) % 4294967296) * 125613361 % 4294967296 / 134217728 = (idx : Int))
    (hi : idx < 32) (hk : k < 32) (hcell : w.cell? ⟨0, idx, none⟩ = some (.int .u8 k)) :
    Calls Tryd.prog 54 #[.int .u32 x] w fun e w' => e = .returned (.int .i64 k) ∧ w = w' := by
  go_enter Tryd.func54, Tryd.ntmps54
  go_wp2_with (simp only [key])
  go_ret
  exact ⟨rfl, rfl⟩
set_option maxHeartbeats 1000000 in
theorem tz_zero (w : World) : Calls Tryd.prog 54 #[.int .u32 0] w fun e w' => e = .returned (.int .i64 32) ∧ w = w' := by
  go_enter Tryd.func54, Tryd.ntmps54
  go_wp2_with fail
  go_ret
  exact ⟨rfl, rfl⟩

theorem tz_at (x k : Nat) (hx : x < 134217728) (hb : x.testBit k = true) (hlow : ∀ j, j < k → x.testBit j = false) (w : World) (hT : Tab32 w) :
    Calls Tryd.prog 54 #[.int .u32 x] w fun e w' => e = .returned (.int .i64 k) ∧ w = w' := by
  have hx0 : x ≠ 0 := by rintro rfl; simp at hb
  obtain ⟨hl, hk⟩ := Lib.lowest_bit 32 x hx0 (by omega)
  obtain ⟨m, hm, _⟩ := Lib.ctzFrom_spec 32 x (by omega) (by omega)
  have hc : Lib.ctz 32 x = Lib.ctzFrom 32 x := by simp [Lib.ctz, hx0]
  have he : Lib.ctz 32 x = k := by
    rw [hc]
    generalize Lib.ctzFrom 32 x = c at hm
    have hbit : ∀ i, x.testBit i = (decide (c ≤ i) && (2 * m + 1).testBit (i - c)) := fun i => by rw [hm, Nat.mul_comm, Nat.testBit_mul_two_pow]
    rcases Nat.lt_trichotomy c k with h | h | h
    · have := hlow c h
      rw [hbit] at this
      simp [Nat.testBit_zero] at this
    · exact h
    · rw [hbit] at hb
      simp at hb; omega
  rw [he] at hl hk
  obtain ⟨hi, htab⟩ := Lib.deBruijn32_at k hk
  have hcell := hT _ hi
  rw [htab] at hcell
  exact tz_core x k _ w (by simp; omega) (tz_key x _ (by omega) hx0 hl) hi hk hcell

/-- The least number of a set below 27. -/
def IsFirst (F : Nat → Bool) (k : Nat) : Prop := k < 27 ∧ F k = true ∧ ∀ j, j < k → F j = false
theorem first_or (F : Nat → Bool) : (∃ k, IsFirst F k) ∨ ∀ i, i < 27 → F i = false := by
  have h : ∀ n, (∃ k, k < n ∧ F k = true ∧ ∀ j, j < k → F j = false) ∨ ∀ i, i < n → F i = false := by
    intro n
    induction n with
    | zero => exact .inr fun i hi => by omega
    | succ n ih =>
      rcases ih with ⟨k, hk, h1, h2⟩ | h
      · exact .inl ⟨k, by omega, h1, h2⟩
      · cases hF : F n
        · refine .inr fun i hi => ?_
          by_cases e : i = n
          · rw [e]; exact hF
          · exact h i (by omega)
        · exact .inl ⟨n, by omega, hF, h⟩
  rcases h 27 with ⟨k, hk, h1, h2⟩ | h
  · exact .inl ⟨k, hk, h1, h2⟩
  · exact .inr h

set_option maxHeartbeats 1000000 in
theorem implFirst_of (p : ByteArray) (N k : Nat) (x y z : Int) (b : Bool) (w : World) (hT : Tab32 w)
    (C : ∀ (w : World), ∃ v, Calls Tryd.prog 52 #[.string p] w fun e w' => e = .returned (.tuple #[.int .u32 N, .bool v]) ∧ w = w')
    (D : ∀ (w : World), Tab32 w → Calls Tryd.prog 54 #[.int .u32 N] w fun e w' => e = .returned (.int .i64 k) ∧ w = w')
    (E : ∀ (w : World), Calls Tryd.prog 53 #[.int .i64 k] w fun e w' => e = .returned (.tuple #[.agg #[.int .i64 x, .int .i64 y, .int .i64 z], .bool b]) ∧ Below w.heap.size w w') :
    Calls Tryd.prog 23 #[.string p] w fun e w' => e = .returned (.tuple #[.agg #[.int .i64 x, .int .i64 y, .int .i64 z], .bool b]) ∧ Below w.heap.size w w' := by
  have C' := Lib.hid C
  have D' := Lib.hid D
  have E' := Lib.hid E
  have HT := Lib.hid (hT.below ((Below.refl _ w).alloc (Nat.le_refl _) (.cells #[.int .i64 0, .int .i64 0, .int .i64 0] 30)))
  have HK := Lib.hid (Blk.new w #[.int .i64 0, .int .i64 0, .int .i64 0] 30)
  clear hT C D E
  go_enter Tryd.func23, Tryd.ntmps23
  go_wp2_with fail
  obtain ⟨v, hv⟩ := C'.out (w.alloc (.cells #[.int .i64 0, .int .i64 0, .int .i64 0] 30))
  refine hv.mono ?_
  rintro e w' ⟨rfl, rfl⟩
  go_wp2_with fail
  refine (D'.out _ HT.out).mono ?_
  rintro e w' ⟨rfl, rfl⟩
  go_wp2_with fail
  refine (E'.out _).mono ?_
  rintro e w1 ⟨rfl, hb⟩
  have HB1 := Lib.hid (bbox hb)
  have t1 := HK.out.kept hb
  obtain ⟨q0, q1, q2, f0, f1, f2⟩ := t1.a3
  clear hb t1 hv
  go_wp2_with fail
  exact bodyPost_ret (v := .tuple #[.agg #[.int .i64 x, .int .i64 y, .int .i64 z], .bool b]) (by simp [results, Tryd.results23, go_sem, q0, q1, q2]) rfl ⟨rfl, by (repeat refine Below.setCell ?_ (by simp) _); exact HB1.out⟩

theorem implFirst_yes (p : ByteArray) (k : Nat) (w : World) (hT : Tab32 w) (hp : Set27 p) (hk : IsFirst (hs p.data.toList) k) :
    Calls Tryd.prog 23 #[.string p] w fun e w' => e = .returned (.tuple #[.agg #[.int .i64 (ax k), .int .i64 (ay k), .int .i64 (az k)], .bool true]) ∧ Below w.heap.size w w' := by
  have hbit : ∀ i, i < 27 → (nb 27 (hs p.data.toList)).testBit i = hs p.data.toList i := fun i hi => by rw [nb_bit]; simp [hi]
  have h27 : k < 27 := hk.1
  exact implFirst_of p _ k _ _ _ _ w hT (fun w => ⟨true, implRead_yes p w hp⟩)
    (fun w hT => tz_at (nb 27 (hs p.data.toList)) k (nb_lt27 _) (by rw [hbit k hk.1]; exact hk.2.1) (fun j hj => by rw [hbit j (by omega)]; exact hk.2.2 j hj) w hT)
    (fun w => implAt_yes k w (by omega) (by omega))
theorem implFirst_none (p : ByteArray) (w : World) (hT : Tab32 w) (hp : Set27 p) (hk : ∀ i, i < 27 → hs p.data.toList i = false) :
    Calls Tryd.prog 23 #[.string p] w fun e w' => e = .returned (.tuple #[.agg #[.int .i64 0, .int .i64 0, .int .i64 0], .bool false]) ∧ Below w.heap.size w w' :=
  implFirst_of p 0 32 _ _ _ _ w hT (fun w => ⟨true, by have h := implRead_yes p w hp; rw [nb_zero 27 hk] at h; exact h⟩) (fun w _ => tz_zero w) (fun w => implAt_no 32 w (by omega))
theorem implFirst_no (p : ByteArray) (w : World) (hT : Tab32 w) (hp : ¬ Set27 p) :
    Calls Tryd.prog 23 #[.string p] w fun e w' => e = .returned (.tuple #[.agg #[.int .i64 0, .int .i64 0, .int .i64 0], .bool false]) ∧ Below w.heap.size w w' :=
  implFirst_of p 0 32 _ _ _ _ w hT (fun w => ⟨false, implRead_no p w hp⟩) (fun w _ => tz_zero w) (fun w => implAt_no 32 w (by omega))

theorem cnt_pos {F : Nat → Bool} {n k : Nat} (hk : k < n) (h : F k = true) : 0 < cnt n F := by
  induction n with
  | zero => omega
  | succ n ih =>
    simp only [cnt]
    by_cases e : k = n
    · subst e; rw [h]; simp
    · have := ih (by omega); omega
theorem cnt_none {n : Nat} {F : Nat → Bool} (h : ∀ i, i < n → F i = false) : cnt n F = 0 := by
  induction n with
  | zero => rfl
  | succ n ih => simp only [cnt]; rw [ih (fun i hi => h i (by omega)), h n (by omega)]; rfl
theorem fnd_first {l : List UInt8} {k : Nat} (h27 : l.length = 27) (hk : IsFirst (hs l) k) : fnd l 49 = k := by
  have hk2 : k < l.length := by rw [h27]; exact hk.1
  refine fnd_hit hk2 ?_ ?_
  · have := hk.2.1
    unfold hs at this
    rw [List.getElem?_eq_getElem hk2] at this
    simpa using this
  · intro j hj e
    have := hk.2.2 j hj
    unfold hs at this
    rw [e] at this
    simp at this

set_option maxHeartbeats 1000000 in
theorem specFirst_yes (p : ByteArray) (k : Nat) (w : World) (hp : Set27 p) (hk : IsFirst (hs p.data.toList) k) :
    Calls Tryd.prog 24 #[.string p] w fun e w' => e = .returned (.tuple #[.agg #[.int .i64 (ax k), .int .i64 (ay k), .int .i64 (az k)], .bool true]) ∧ Below w.heap.size w w' := by
  have C := fun w => Lib.hid (specPredValid_yes p w hp)
  have D := fun w => Lib.hid (specCount0 p 27 w hp (by omega))
  have hsz : p.size = 27 := by have := hp.1; simpa using this
  have hF : ∀ w, Calls Tryd.prog 58 #[.string p, .int .u8 49] w fun e w' => e = .returned (.int .i64 k) ∧ w = w' := fun w => by
    have h := find_any p 49 w (by unfold maxLen; omega)
    rw [fnd_first hp.1 hk] at h
    exact h
  have hF := Lib.hid hF
  have hc := cnt_pos (n := 27) hk.1 hk.2.1
  obtain ⟨c, hcc⟩ : ∃ c, cnt 27 (hs p.data.toList) = c := ⟨_, rfl⟩
  rw [hcc] at D hc
  have hc0 : ((c : Int) == 0) = false := by rw [beq_eq_false_iff_ne]; omega
  have h27 : k < 27 := hk.1
  have E := fun w => Lib.hid (specAt0 k w (by omega) (by omega))
  clear hk hcc hc hsz
  go_enter Tryd.func24, Tryd.ntmps24
  go_wp2_with fail
  have HK := Lib.hid (Blk.new w #[.int .i64 0, .int .i64 0, .int .i64 0] 30)
  refine (C _).out.mono ?_
  rintro e w' ⟨rfl, rfl⟩
  go_wp2_with fail
  refine (D _).out.mono ?_
  rintro e w' ⟨rfl, rfl⟩
  go_wp2_with fail
  refine (hF.out _).mono ?_
  rintro e w' ⟨rfl, rfl⟩
  go_wp2_with fail
  refine (E _).out.mono ?_
  rintro e w1 ⟨rfl, hb⟩
  have HB1 := Lib.hid (bbox hb)
  have t1 := HK.out.kept hb
  obtain ⟨q0, q1, q2, f0, f1, f2⟩ := t1.a3
  clear hb t1
  go_wp2_with fail
  exact bodyPost_ret (v := .tuple #[.agg #[.int .i64 (ax k), .int .i64 (ay k), .int .i64 (az k)], .bool true]) (by simp [results, Tryd.results24, go_sem, q0, q1, q2]) rfl ⟨rfl, by (repeat refine Below.setCell ?_ (by simp) _); exact HB1.out⟩
set_option maxHeartbeats 1000000 in
theorem specFirst_none (p : ByteArray) (w : World) (hp : Set27 p) (hk : ∀ i, i < 27 → hs p.data.toList i = false) :
    Calls Tryd.prog 24 #[.string p] w fun e w' => e = .returned (.tuple #[.agg #[.int .i64 0, .int .i64 0, .int .i64 0], .bool false]) ∧ Below w.heap.size w w' := by
  have C := fun w => Lib.hid (specPredValid_yes p w hp)
  have D := fun w => Lib.hid (specCount0 p 27 w hp (by omega))
  rw [cnt_none hk] at D
  clear hk
  go_enter Tryd.func24, Tryd.ntmps24
  go_wp2_with fail
  refine (C _).out.mono ?_
  rintro e w' ⟨rfl, rfl⟩
  go_wp2_with fail
  refine (D _).out.mono ?_
  rintro e w' ⟨rfl, rfl⟩
  go_wp2_with fail
  exact bodyPost_ret (v := .tuple #[.agg #[.int .i64 0, .int .i64 0, .int .i64 0], .bool false]) (by simp [results, Tryd.results24, go_sem]) rfl ⟨rfl, (Below.refl _ _).alloc (Nat.le_refl _) _⟩
set_option maxHeartbeats 1000000 in
theorem specFirst_no (p : ByteArray) (w : World) (hp : ¬ Set27 p) (hm : p.size ≤ maxLen) :
    Calls Tryd.prog 24 #[.string p] w fun e w' => e = .returned (.tuple #[.agg #[.int .i64 0, .int .i64 0, .int .i64 0], .bool false]) ∧ Below w.heap.size w w' := by
  have C := fun w => Lib.hid (specPredValid_no p w hp hm)
  clear hp
  go_enter Tryd.func24, Tryd.ntmps24
  go_wp2_with fail
  refine (C _).out.mono ?_
  rintro e w' ⟨rfl, rfl⟩
  go_wp2_with fail
  exact bodyPost_ret (v := .tuple #[.agg #[.int .i64 0, .int .i64 0, .int .i64 0], .bool false]) (by simp [results, Tryd.results24, go_sem]) rfl ⟨rfl, (Below.refl _ _).alloc (Nat.le_refl _) _⟩
end Go.Proofs.YtknjoadicdijdaaDoor

namespace Go.Proofs.YtknjoadicdijdaaDoor
open Go.RowKit

theorem tabName : Tryd.prog.globalNamed "math/bits.deBruijn32tab" = some 0 := by kernel_rfl
theorem tabType : (Tryd.prog.globals[0]?).map (·.type) = some 88 := by kernel_rfl
theorem tabCells : Tryd.prog.cellsOf 88 = 32 := by kernel_rfl
theorem u8Cells : Tryd.prog.cellsOf 5 = 1 := by kernel_rfl

theorem mapM_some {α β : Type} {f : α → Option β} : ∀ {l : List α} {xs : List β}, l.mapM f = some xs → xs.length = l.length ∧ ∀ j (h : j < l.length) (h2 : j < xs.length), f l[j] = some xs[j] := by
  intro l
  induction l with
  | nil => intro xs h; simp at h; subst h; exact ⟨rfl, fun j h => by simp at h⟩
  | cons a l ih =>
    intro xs h
    rw [List.mapM_cons] at h
    simp only [Option.bind_eq_bind, Option.bind_eq_some_iff, Option.pure_def, Option.some.injEq] at h
    obtain ⟨y, hy, ys, hys, rfl⟩ := h
    obtain ⟨h1, h2⟩ := ih hys
    refine ⟨by simp [h1], fun j hj hj2 => ?_⟩
    cases j with
    | zero => exact hy
    | succ j => exact h2 j (by simpa using hj) (by simpa using hj2)
theorem u8_of_trod {H : Type} {enc : TypeId × Value → H} {w : World} {base : Nat} {sp : Nat → Bool} {held : Bool} {fuel : Nat} {c : Value} {y : DataW H × List MemPlace}
    (h : DataW.trod enc Tryd.prog w base sp held fuel 5 [c] = some y) : ∃ n, c = .int .u8 n ∧ y = (.lit (.int .u8 n), []) := by
  cases fuel with
  | zero => simp [DataW.trod] at h
  | succ fuel =>
    cases c <;> simp [DataW.trod, Tryd.underlying5] at h
    rename_i k' n
    obtain ⟨⟨rfl, _⟩, rfl⟩ := h
    exact ⟨n, rfl, rfl⟩

theorem tab_of_laid {W : World} (h : laidMet Tryd.prog [("math/bits.deBruijn32tab", Rows.laid_math_bits_deBruijn32tab)] W) : Tab32 W := by
  obtain ⟨ps, ⟨g, t, cs, fuel, p, q, hg, ht, hvar, hd, _, _⟩, _⟩ := h
  obtain rfl := Option.some.inj (tabName.symm.trans hg)
  obtain rfl := Option.some.inj (tabType.symm.trans ht)
  obtain ⟨l⟩ := cs
  cases fuel with
  | zero => simp [DataW.trod] at hd
  | succ fuel =>
    simp only [DataW.trod, Tryd.underlying88, tabCells, u8Cells] at hd
    split at hd
    · rename_i hl
      obtain ⟨xs, hxs, hx⟩ := Option.map_eq_some_iff.1 hd
      obtain ⟨hlen, hall⟩ := mapM_some hxs
      rw [List.length_range] at hlen
      have e0 : (Rows.laid_math_bits_deBruijn32tab : DataW Unit) = .agg (Lib.deBruijn32tab.map fun n : Nat => .lit (.int .u8 n)) := rfl
      rw [e0] at hx
      simp only [Prod.mk.injEq, DataW.agg.injEq] at hx
      intro j hj
      have hj1 : j < (List.range 32).length := by simpa using hj
      have h1 := hall j hj1 (by omega)
      have h3 : l.drop j = l[j]'(by omega) :: l.drop (j + 1) := List.drop_eq_getElem_cons (by omega)
      rw [List.getElem_range, Nat.mul_one, h3, List.take_succ_cons, List.take_zero] at h1
      obtain ⟨n, hn, hy⟩ := u8_of_trod h1
      have h4 : (xs.map fun x => x.1)[j]'(by simpa using (by omega : j < xs.length)) = .lit (.int .u8 n) := by simp [hy]
      have h5 : some (DataW.lit (H := Unit) (.int .u8 n)) = (Lib.deBruijn32tab.map fun n : Nat => DataW.lit (H := Unit) (.int .u8 n))[j]? := by
        rw [← hx.1, ← h4, List.getElem?_eq_getElem]
      have h6 : Lib.deBruijn32tab[j]? = some (Lib.deBruijn32tab.getD j 0) := by
        rw [List.getD_eq_getElem?_getD, List.getElem?_eq_getElem (show j < Lib.deBruijn32tab.length from hj)]; rfl
      rw [List.getElem?_map, h6] at h5
      simp at h5
      have hc : W.cell? ⟨0, j, none⟩ = ({ toList := l } : Array Value)[j]? := World.var?_cell hg hvar j
      rw [hc]
      show (Array.mk l)[j]? = _
      rw [Array.getElem?_eq_getElem (show j < (Array.mk l).size from by simpa using (by omega : j < l.length))]
      show some l[j] = _
      rw [hn, h5, List.getD_eq_getElem?_getD]
    · cases hd
end Go.Proofs.YtknjoadicdijdaaDoor
