/-
  Several small texts in one: Wt Pop SetC SetE PpF PpP PredOf PpT P5a P5b Dr5 PpS HasK Rf At5 P4a Dr4.
-/
import Derived.Test.YtkgdhlpmlpbbkaaGreatTopC
import Derived.Deep.MidRow
import Derived.Test.YtkgdhlpmlpbbkaaGreatSetW
import Derived.Deep.QuietTactic
import Derived.BigQuiet
import Derived.Test.YtkgdhlpmlpbbkaaGreatBlk
import Derived.Test.YtkgdhlpmlpbbkaaGreatTst
import Derived.Test.YtkgdhlpmlpbbkaaGreatSpecValid
import Derived.Test.YtkgdhlpmlpbbkaaGreatRead
import Derived.Test.YtkgdhlpmlpbbkaaGreatTopD
import Derived.Test.YtkgdhlpmlpbbkaaGreatIx0
import Derived.Test.YtkgdhlpmlpbbkaaGreatRow
import Derived.RowKit3
namespace Go.Proofs.YtkgdhlpmlpbbkaaGreat
open Go.RowKit Tm Go.Great Classical

noncomputable def wT (p : Pg) (F : Nat → Bool) : Nat → Bool := fun i => (!rL p i && !rK p i) && wF p F i
theorem wT_eq {p : Pg} (hp : p.ok false) {S : Nat → Bool} {i : Nat} (hi : i < 27) : (frS (rT p) S i && !(rL p i || rK p i)) = wT p S i := by
  unfold wT
  rw [wF_eq hp hi]
  cases rL p i <;> cases rK p i <;> simp
theorem yields_row {ops : Array Oper} {S : World → Prop} {op : Oper} {a : Act} {x : Operand} {t : TypeId} {p : Addr} {v : Value} (hw : Region.wanted op (yielded ops a.tmps) = true) (ho : op.op = .load t x) (hx : a.eval x = .pointer (some p)) (hS : ∀ w, S w → (loadVar t p).run Tryz.prog w = .ok v w) : YieldsIf Tryz.prog ops S op v a :=
  .inl ⟨hw, fun w hw' => by
    unfold execOp
    simp only [ho, hx, Instr.loadAt, Instr.sureAddr, Sem.run_bind, Sem.run_pure, Result.andThen_ok, hS w hw']⟩
theorem load_all {w : World} {g : Nat} {cs : Array Value} (h : Blk w g cs 66) (hi : (Tryz.prog.info? 66).map (·.size) = some cs.size) : (loadVar 66 ⟨g, 0, none⟩).run Tryz.prog w = .ok (.agg cs) w := by
  have := run_loadVar_mid (P := Tryz.prog) w g 0 66 cs.toList _ (fun j v hv => by rw [Nat.zero_add, h.cell j]; simpa using hv) undAll rfl (by rw [Array.length_toList]; exact hi)
  rw [Array.toArray_toList] at this
  exact this
end Go.Proofs.YtkgdhlpmlpbbkaaGreat

namespace Go.Proofs.YtkgdhlpmlpbbkaaGreat
open Go.RowKit

theorem mask8 (m : Nat) (hm : m < 4294967296) : bits .and .u32 (m : Int) 255 = ((m % 256 : Nat) : Int) := by
  rw [show (255 : Int) = ((255 : Nat) : Int) from rfl, u32_and_nat _ _ hm (by omega), nat_mask8]

def tabl : List UInt8 := (List.range 256).map fun x => UInt8.ofNat (cnt 8 x.testBit)
theorem tab_at (T : ByteArray) (hT : T.data.toList = tabl) (a : Nat) (h : a < T.size) : ((T[a]'h).toNat : Int) = (cnt 8 a.testBit : Nat) := by
  have e : T[a] = T.data.toList[a]'(by simpa using h) := rfl
  have h2 : a < tabl.length := by rw [← hT]; simpa using h
  have e2 : T[a] = tabl[a] := by rw [e]; simp only [hT]
  rw [e2]
  simp only [tabl, List.getElem_map, List.getElem_range]
  have := cnt_le 8 a.testBit
  rw [UInt8.toNat_ofNat_of_lt' (by show _ < 256; omega)]
theorem cnt_add (k m : Nat) (F : Nat → Bool) : cnt (k + m) F = cnt k F + cnt m (fun i => F (k + i)) := by
  induction m with
  | zero => rfl
  | succ m ih => rw [← Nat.add_assoc]; simp only [cnt]; rw [ih]; omega
theorem cnt_congr {k : Nat} {F G : Nat → Bool} (h : ∀ i, i < k → F i = G i) : cnt k F = cnt k G := by
  induction k with
  | zero => rfl
  | succ k ih => simp only [cnt]; rw [ih (fun i hi => h i (by omega)), h k (by omega)]
theorem cnt_zero {k : Nat} {F : Nat → Bool} (h : ∀ i, i < k → F i = false) : cnt k F = 0 := by
  induction k with
  | zero => rfl
  | succ k ih => simp only [cnt]; rw [ih (fun i hi => h i (by omega)), h k (by omega)]; rfl
theorem pop_split (n : Nat) (hn : n < 134217728) : cnt 27 n.testBit = cnt 8 (n / 16777216).testBit + cnt 8 (n / 65536 % 256).testBit + cnt 8 (n / 256 % 256).testBit + cnt 8 (n % 256).testBit := by
  have h32 : cnt 32 n.testBit = cnt 27 n.testBit := by
    rw [show (32 : Nat) = 27 + 5 from rfl, cnt_add]
    rw [cnt_zero (k := 5) (F := fun i => n.testBit (27 + i)) (fun i _ => Nat.testBit_lt_two_pow (Nat.lt_of_lt_of_le hn (Nat.pow_le_pow_right (n := 2) (by omega) (by omega : 27 ≤ 27 + i))))]
    omega
  rw [← h32, show (32 : Nat) = 8 + (8 + (8 + 8)) from rfl, cnt_add, cnt_add, cnt_add]
  rw [cnt_congr (G := (n % 256).testBit) (F := n.testBit) (fun i hi => by rw [show (256 : Nat) = 2 ^ 8 from rfl, Nat.testBit_mod_two_pow]; simp [hi])]
  rw [cnt_congr (G := (n / 256 % 256).testBit) (F := fun i => n.testBit (8 + i)) (fun i hi => by rw [show n / 256 % 256 = n / 2 ^ 8 % 2 ^ 8 from rfl, Nat.testBit_mod_two_pow, Nat.testBit_div_two_pow]; simp [hi, Nat.add_comm])]
  rw [cnt_congr (G := (n / 65536 % 256).testBit) (F := fun i => n.testBit (8 + (8 + i))) (fun i hi => by rw [show n / 65536 % 256 = n / 2 ^ 16 % 2 ^ 8 from rfl, Nat.testBit_mod_two_pow, Nat.testBit_div_two_pow]; simp [hi]; congr 1; omega)]
  rw [cnt_congr (G := (n / 16777216).testBit) (F := fun i => n.testBit (8 + (8 + (8 + i)))) (fun i hi => by rw [show n / 16777216 = n / 2 ^ 24 from rfl, Nat.testBit_div_two_pow]; congr 1; omega)]
  omega

set_option maxRecDepth 100000 in
set_option maxHeartbeats 4000000 in
theorem popAny (n : Nat) (w : World) (hn : n < 134217728) : Calls Tryz.prog 58 #[.int .u32 n] w fun e w' => e = .returned (.int .i64 (cnt 27 n.testBit : Nat)) ∧ ∃ m, w' = w.drewN m := by
  have HN := Lib.hid (pop_split n hn)
  obtain ⟨a, ha⟩ : ∃ a : Nat, n / 16777216 = a := ⟨_, rfl⟩
  obtain ⟨b, hb⟩ : ∃ a : Nat, n / 65536 % 256 = a := ⟨_, rfl⟩
  obtain ⟨c, hc⟩ : ∃ a : Nat, n / 256 % 256 = a := ⟨_, rfl⟩
  obtain ⟨d, hd⟩ : ∃ a : Nat, n % 256 = a := ⟨_, rfl⟩
  have ea : (n : Int) / 16777216 = a := by omega
  have eb : bits .and .u32 ((n : Int) / 65536) 255 = b := by rw [show (n : Int) / 65536 = ((n / 65536 : Nat) : Int) by omega, mask8 _ (by omega), hb]
  have ec : bits .and .u32 ((n : Int) / 256) 255 = c := by rw [show (n : Int) / 256 = ((n / 256 : Nat) : Int) by omega, mask8 _ (by omega), hc]
  have ed : bits .and .u32 (n : Int) 255 = d := by rw [mask8 _ (by omega), hd]
  have la : (a : Int) < 256 := by omega
  have lb : (b : Int) < 256 := by omega
  have lc : (c : Int) < 256 := by omega
  have ld : (d : Int) < 256 := by omega
  have ka : (0 : Int) ≤ a := by omega
  have kb : (0 : Int) ≤ b := by omega
  have kc : (0 : Int) ≤ c := by omega
  have kd : (0 : Int) ≤ d := by omega
  have HA := Lib.hid ha
  have HB := Lib.hid hb
  have HC := Lib.hid hc
  have HD := Lib.hid hd
  clear ha hb hc hd
  go_enter Tryz.func58, Tryz.ntmps58
  go_wp2_with fail
  go_quiet (fail)
  go_wp2_with fail
  go_ret
  refine ⟨?_, _, rfl⟩
  refine congrArg (fun z : Int => Ending.returned (.int .i64 z)) ?_
  rw [HN.out, HA.out, HB.out, HC.out, HD.out, tab_at (a := a), tab_at (a := b), tab_at (a := c), tab_at (a := d)]
  · have h1 := cnt_le 8 a.testBit
    have h2 := cnt_le 8 b.testBit
    have h3 := cnt_le 8 c.testBit
    have h4 := cnt_le 8 d.testBit
    omega
  all_goals kernel_rfl
end Go.Proofs.YtkgdhlpmlpbbkaaGreat

namespace Go.Proofs.YtkgdhlpmlpbbkaaGreat
open Go.RowKit

theorem cnt_nb (F : Nat → Bool) : cnt 27 (nb 27 F).testBit = cnt 27 F := cnt_congr fun i hi => by rw [nb_bit]; simp [hi]

set_option maxHeartbeats 1000000 in
theorem implCountP_yes (p : ByteArray) (w : World) (hp : Set27 p) : Calls Tryz.prog 19 #[.string p] w fun e w' => e = .returned (.int .i64 (cnt 27 (hs p.data.toList))) ∧ Below w.heap.size w w' := by
  have C := fun w => Lib.hid (implRead_yes p w hp)
  have E := fun w => Lib.hid (popAny (nb 27 (hs p.data.toList)) w (nb_lt27 _))
  rw [cnt_nb] at E
  go_enter Tryz.func19, Tryz.ntmps19
  go_wp2_with fail
  refine (C _).out.mono ?_
  rintro e w' ⟨rfl, rfl⟩
  go_wp2_with fail
  refine (E _).out.mono ?_
  rintro e w1 ⟨rfl, m, rfl⟩
  go_wp2_with fail
  go_ret
  exact ⟨rfl, bdrewN (Below.refl _ _) m⟩
set_option maxHeartbeats 1000000 in
theorem implCountP_no (p : ByteArray) (w : World) (hp : ¬ Set27 p) : Calls Tryz.prog 19 #[.string p] w fun e w' => e = .returned (.int .i64 (-1)) ∧ Below w.heap.size w w' := by
  have C := fun w => Lib.hid (implRead_no p w hp)
  clear hp
  go_enter Tryz.func19, Tryz.ntmps19
  go_wp2_with fail
  refine (C _).out.mono ?_
  rintro e w' ⟨rfl, rfl⟩
  go_wp2_with fail
  go_ret
  exact ⟨rfl, Below.refl _ _⟩
end Go.Proofs.YtkgdhlpmlpbbkaaGreat

namespace Go.Proofs.YtkgdhlpmlpbbkaaGreat
open Go.RowKit

theorem hs_bs (F : Nat → Bool) (i : Nat) (hi : i < 27) : hs (bs (tb F)).data.toList i = F i := by
  rw [show (bs (tb F)).data.toList = tb F by simp [bs]]
  rw [show tb F = tbn 27 F from rfl, hs_tbn]
  simp [hi]
theorem bs_hs {p : ByteArray} (h : Set27 p) : bs (tb (hs p.data.toList)) = p := by
  rw [show tb (hs p.data.toList) = tbn 27 (hs p.data.toList) from rfl, tbn_hs h]
  exact ByteArray.ext (by simp [bs])
theorem bs_ext {F G : Nat → Bool} (h : ∀ i, i < 27 → F i = G i) : bs (tb F) = bs (tb G) := by rw [tb_congr h]
theorem set27_tb (F : Nat → Bool) : Set27 (bs (tb F)) := by
  unfold Set27
  rw [show (bs (tb F)).data.toList = tb F by simp [bs]]
  exact bits_tbn 27 F
theorem bs_inj {F G : Nat → Bool} (h : bs (tb F) = bs (tb G)) (i : Nat) (hi : i < 27) : F i = G i := by
  rw [← hs_bs F i hi, ← hs_bs G i hi, h]
theorem cnt_same {n : Nat} {F G : Nat → Bool} (h : ∀ i, i < n → F i = G i) : cnt n F = cnt n G := by
  induction n with
  | zero => rfl
  | succ n ih => unfold cnt; rw [ih (fun i hi => h i (by omega)), h n (by omega)]
theorem cnt_not (n : Nat) (F : Nat → Bool) : cnt n F + cnt n (fun i => !F i) = n := by
  induction n with
  | zero => rfl
  | succ n ih => unfold cnt; cases h : F n <;> simp [h] <;> omega
theorem cnt_and_or (n : Nat) (F G : Nat → Bool) : cnt n (fun i => F i && G i) + cnt n (fun i => F i || G i) = cnt n F + cnt n G := by
  induction n with
  | zero => rfl
  | succ n ih => unfold cnt; cases h : F n <;> cases h2 : G n <;> simp [h, h2] <;> omega
theorem cnt_nil {n : Nat} {F : Nat → Bool} : cnt n F = 0 ↔ ∀ i, i < n → F i = false := by
  induction n with
  | zero => exact ⟨fun _ i hi => by omega, fun _ => rfl⟩
  | succ n ih =>
    unfold cnt
    constructor
    · intro h i hi
      have h1 : cnt n F = 0 := by omega
      by_cases e : i = n
      · subst e; cases hF : F i <;> simp [hF] at h ⊢
      · exact ih.1 h1 i (by omega)
    · intro h
      rw [ih.2 (fun i hi => h i (by omega)), h n (by omega)]; rfl
theorem wi_congr {n : Nat} {F G F' G' : Nat → Bool} (h : ∀ i, i < n → F i = F' i) (h' : ∀ i, i < n → G i = G' i) : wi n F G = wi n F' G' := by
  rw [Bool.eq_iff_iff, wi_iff, wi_iff]
  exact ⟨fun k i hi => by rw [← h i hi, ← h' i hi]; exact k i hi, fun k i hi => by rw [h i hi, h' i hi]; exact k i hi⟩
theorem wi_not (n : Nat) (F G : Nat → Bool) : wi n (fun i => !G i) (fun i => !F i) = wi n F G := by
  rw [Bool.eq_iff_iff, wi_iff, wi_iff]
  exact ⟨fun k i hi => by have := k i hi; cases h : F i <;> cases h2 : G i <;> simp_all, fun k i hi => by have := k i hi; cases h : F i <;> cases h2 : G i <;> simp_all⟩
end Go.Proofs.YtkgdhlpmlpbbkaaGreat

namespace Go.Proofs.YtkgdhlpmlpbbkaaGreat
open Go.RowKit

set_option maxHeartbeats 1000000 in
theorem ppNot_of (p q : ByteArray) (b : Bool) (C : ∀ w, Hid (Calls Tryz.prog 76 #[.string p] w fun e w' => e = .returned (.tuple #[.string q, .bool b]) ∧ Below w.heap.size w w')) (w : World) :
    Calls Tryz.prog 25 #[.string p] w fun e w' => e = .returned (.string q) ∧ Below w.heap.size w w' := by
  go_enter Tryz.func25, Tryz.ntmps25
  go_wp2_with fail
  refine (C _).out.mono ?_
  rintro e w1 ⟨rfl, hb⟩
  have HB := Lib.hid hb
  clear hb
  go_wp2_with fail
  go_ret
  exact ⟨rfl, HB.out⟩
set_option maxHeartbeats 1000000 in
theorem ppAnd_of (p p2 q : ByteArray) (b : Bool) (C : ∀ w, Hid (Calls Tryz.prog 75 #[.string p, .string p2] w fun e w' => e = .returned (.tuple #[.string q, .bool b]) ∧ Below w.heap.size w w')) (w : World) :
    Calls Tryz.prog 24 #[.string p, .string p2] w fun e w' => e = .returned (.string q) ∧ Below w.heap.size w w' := by
  go_enter Tryz.func24, Tryz.ntmps24
  go_wp2_with fail
  refine (C _).out.mono ?_
  rintro e w1 ⟨rfl, hb⟩
  have HB := Lib.hid hb
  clear hb
  go_wp2_with fail
  go_ret
  exact ⟨rfl, HB.out⟩
set_option maxHeartbeats 1000000 in
theorem ppOr_of (p p2 q : ByteArray) (b : Bool) (C : ∀ w, Hid (Calls Tryz.prog 85 #[.string p, .string p2] w fun e w' => e = .returned (.tuple #[.string q, .bool b]) ∧ Below w.heap.size w w')) (w : World) :
    Calls Tryz.prog 34 #[.string p, .string p2] w fun e w' => e = .returned (.string q) ∧ Below w.heap.size w w' := by
  go_enter Tryz.func34, Tryz.ntmps34
  go_wp2_with fail
  refine (C _).out.mono ?_
  rintro e w1 ⟨rfl, hb⟩
  have HB := Lib.hid hb
  clear hb
  go_wp2_with fail
  go_ret
  exact ⟨rfl, HB.out⟩
set_option maxHeartbeats 1000000 in
theorem ppSet_of (p q : ByteArray) (b : Bool) (C : ∀ w, Hid (Calls Tryz.prog 77 #[.string p] w fun e w' => e = .returned (.tuple #[.string q, .bool b]) ∧ Below w.heap.size w w')) (w : World) :
    Calls Tryz.prog 26 #[.string p] w fun e w' => e = .returned (.string q) ∧ Below w.heap.size w w' := by
  go_enter Tryz.func26, Tryz.ntmps26
  go_wp2_with fail
  refine (C _).out.mono ?_
  rintro e w1 ⟨rfl, hb⟩
  have HB := Lib.hid hb
  clear hb
  go_wp2_with fail
  go_ret
  exact ⟨rfl, HB.out⟩
end Go.Proofs.YtkgdhlpmlpbbkaaGreat

namespace Go.Proofs.YtkgdhlpmlpbbkaaGreat
open Go.RowKit

set_option maxHeartbeats 1000000 in
theorem ppPost_of (p p2 q : ByteArray) (b : Bool) (C : ∀ w, Hid (Calls Tryz.prog 29 #[.string p, .string p2] w fun e w' => e = .returned (.tuple #[.string q, .bool b]) ∧ Below w.heap.size w w')) (w : World) :
    Calls Tryz.prog 27 #[.string p, .string p2] w fun e w' => e = .returned (.string q) ∧ Below w.heap.size w w' := by
  go_enter Tryz.func27, Tryz.ntmps27
  go_wp2_with fail
  refine (C _).out.mono ?_
  rintro e w1 ⟨rfl, hb⟩
  have HB := Lib.hid hb
  clear hb
  go_wp2_with fail
  go_ret
  exact ⟨rfl, HB.out⟩
end Go.Proofs.YtkgdhlpmlpbbkaaGreat

namespace Go.Proofs.YtkgdhlpmlpbbkaaGreat
open Go.RowKit Tm

set_option maxHeartbeats 1000000 in
theorem implPredOf_yes (s : ByteArray) (w : World) {t : Tm} (ht : Ok false true t) (he : s.data.toList = t.ser) (hl : s.size ≤ 200) :
    Calls Tryz.prog 77 #[.string s] w fun e w' => e = .returned (.tuple #[.string (bs (tb (tst t))), .bool true]) ∧ Below w.heap.size w w' := by
  have HC := fun w => Lib.hid (read_yes true s w ht he hl)
  have HX := fun w => Lib.hid (implText (tst t) w)
  clear he
  go_enter Tryz.func77, Tryz.ntmps77
  go_wp2_with fail
  refine (HC _).out.mono ?_
  rintro e w1 ⟨xc, ya, yn, ym, rfl, hr, hb⟩
  have HB := Lib.hid (bput hb (.cells #[.int .u8 xc, .slice ya yn ym] 90))
  have HR := Lib.hid (hr.below ((Below.refl _ w1).alloc (Nat.le_refl _) (.cells #[.int .u8 xc, .slice ya yn ym] 90)))
  clear hb hr
  go_wp2_with fail
  refine (implStates t w.heap.size xc ya yn ym _ ht HR.out).mono ?_
  rintro e w2 ⟨rfl, hb⟩
  have HB2 := Lib.hid (bnext HB.out hb)
  clear hb
  go_wp2_with fail
  refine (HX _).out.mono ?_
  rintro e w3 ⟨rfl, hb⟩
  have HB3 := Lib.hid (bnext HB2.out hb)
  clear hb
  go_wp2_with fail
  go_ret2
  exact ⟨rfl, HB3.out⟩

set_option maxHeartbeats 1000000 in
theorem implPredOf_no (s : ByteArray) (w : World) (h : ¬ (Valid false true s.data.toList ∧ s.size ≤ 200)) :
    Calls Tryz.prog 77 #[.string s] w fun e w' => e = .returned (.tuple #[.string (bs []), .bool false]) ∧ Below w.heap.size w w' := by
  have HC := fun w => Lib.hid (read_no true s w h)
  clear h
  go_enter Tryz.func77, Tryz.ntmps77
  go_wp2_with fail
  refine (HC _).out.mono ?_
  rintro e w1 ⟨rfl, hb⟩
  have HB := Lib.hid (bput hb (.cells #[.int .u8 0, .slice none 0 0] 90))
  clear hb
  go_wp2_with fail
  go_ret2
  exact ⟨rfl, HB.out⟩

end Go.Proofs.YtkgdhlpmlpbbkaaGreat

namespace Go.Proofs.YtkgdhlpmlpbbkaaGreat
open Go.RowKit Tm

theorem ppAll (w : World) : Calls Tryz.prog 26 #[.string ⟨#[116]⟩] w fun e w' => e = .returned (.string (bs (tb fun _ => true))) ∧ Below w.heap.size w w' := by
  have h := ppSet_of ⟨#[116]⟩ _ true (fun w => Lib.hid (implPredOf_yes ⟨#[116]⟩ w (t := .leaf 116) (by rfl) rfl (by decide))) w
  rw [show bs (tb (tst (.leaf 116))) = bs (tb fun _ => true) from bs_ext fun i _ => rfl] at h
  exact h
end Go.Proofs.YtkgdhlpmlpbbkaaGreat

namespace Go.Proofs.YtkgdhlpmlpbbkaaGreat
open Go.RowKit Tm Go.Great Classical

theorem fin_any (M : Mdl) : ∀ (p : Pg) (i : Nat), ¬ Lps M p i → ¬ Stk M p i → ∃ j, Fin M p i j
  | .skip, i, _, _ => ⟨i, rfl⟩
  | .asg v e, i, _, _ => ⟨M.a v e i, rfl⟩
  | .seq p q, i, hL, hK => by
    obtain ⟨m, hm⟩ := fin_any M p i (fun h => hL (.inl h)) (fun h => hK (.inl h))
    obtain ⟨j, hj⟩ := fin_any M q m (fun h => hL (.inr ⟨m, hm, h⟩)) (fun h => hK (.inr ⟨m, hm, h⟩))
    exact ⟨j, m, hm, hj⟩
  | .ite t p q, i, hL, hK => by
    have hL' : ¬ (if M.t t i = true then Lps M p i else Lps M q i) := hL
    have hK' : ¬ (if M.t t i = true then Stk M p i else Stk M q i) := hK
    have e : ∀ j, Fin M (.ite t p q) i j ↔ if M.t t i = true then Fin M p i j else Fin M q i j := fun j => Iff.rfl
    by_cases h : M.t t i = true
    · rw [if_pos h] at hL' hK'
      obtain ⟨j, hj⟩ := fin_any M p i hL' hK'
      exact ⟨j, (e j).2 (by rw [if_pos h]; exact hj)⟩
    · rw [if_neg h] at hL' hK'
      obtain ⟨j, hj⟩ := fin_any M q i hL' hK'
      exact ⟨j, (e j).2 (by rw [if_neg h]; exact hj)⟩
  | .whl t p, i, hL, hK => by
    refine Classical.byContradiction fun hn => ?_
    have key : ∀ u, Star (fun u v => M.t t u = true ∧ Fin M p u v) i u → M.t t u = true := by
      intro u hu
      cases h : M.t t u
      · exact absurd ⟨u, hu, h⟩ hn
      · rfl
    refine hL ⟨i, .refl _, key i (.refl _), .inr ⟨Star (fun u v => M.t t u = true ∧ Fin M p u v) i, .refl _, fun u hu => ⟨key u hu, ?_⟩⟩⟩
    obtain ⟨v, hv⟩ := fin_any M p u (fun h => hL ⟨u, hu, key u hu, .inl h⟩) (fun h => hK ⟨u, hu, key u hu, h⟩)
    exact ⟨v, hv, hu.tail ⟨key u hu, hv⟩⟩
  | .cho p q, i, hL, hK => by
    obtain ⟨j, hj⟩ := fin_any M p i (fun h => hL (.inl h)) (fun h => hK (.inl h))
    exact ⟨j, .inl hj⟩
  | .asm t, i, hL, hK => by
    have hK' : ¬ M.t t i = false := hK
    exact ⟨i, by simpa using hK', rfl⟩

theorem hs_all (i : Nat) (hi : i < 27) : hs (bs (tb fun _ => true)).data.toList i = true := hs_bs _ i hi
theorem wF_all {p : Pg} {i : Nat} : wF p (fun _ => true) i = true := wF_iff.2 fun _ _ => rfl
theorem wT_congr {p : Pg} (hp : p.ok false) {F G : Nat → Bool} (h : ∀ i, i < 27 → F i = G i) {i : Nat} (hi : i < 27) : wT p F i = wT p G i := by
  unfold wT
  rw [wF_congr hp h hi]
theorem wT_all {p : Pg} {i : Nat} : wT p (fun _ => true) i = (!rL p i && !rK p i) := by
  unfold wT
  rw [wF_all, Bool.and_true]
theorem wT_none {p : Pg} {i : Nat} : wT p (fun _ => false) i = false := by
  unfold wT
  cases hL : rL p i
  · cases hK : rK p i
    · have h1 : ¬ Lps mdl p i := by unfold rL at hL; simpa using hL
      have h2 : ¬ Stk mdl p i := by unfold rK at hK; simpa using hK
      obtain ⟨j, hj⟩ := fin_any mdl p i h1 h2
      cases h : wF p (fun _ => false) i
      · rfl
      · have := wF_iff.1 h j hj
        cases this
    · rfl
  · rfl
theorem wtot_facts {p : Pg} (hp : p.ok false) (q : ByteArray) : ∃ (W S N Fr T E : ByteArray), Set27 S ∧ Set27 N ∧ Set27 Fr ∧ Set27 T ∧ Set27 E ∧ bs (tb (wT p (hs q.data.toList))) = W ∧ bs (tb (fun i => !rL p i && !rK p i)) = S ∧ bs (tb (fun _ => true)) = T ∧ bs (tb (fun i => !hs T.data.toList i)) = E ∧
    bs (tb (wT p (hs E.data.toList))) = N ∧ bs (tb (wT p (hs T.data.toList))) = S ∧ bs (tb (wF p (hs q.data.toList))) = Fr ∧ bs (tb (fun i => hs Fr.data.toList i && hs S.data.toList i)) = W ∧ cnt 27 (hs N.data.toList) = 0 := by
  refine ⟨_, _, _, _, _, _, set27_tb _, set27_tb _, set27_tb _, set27_tb _, set27_tb _, rfl, rfl, rfl, rfl, rfl, ?_, rfl, ?_, ?_⟩
  · exact bs_ext fun i hi => by rw [wT_congr hp (G := fun _ => true) hs_all hi, wT_all]
  · refine bs_ext fun i hi => ?_
    rw [hs_bs _ i hi, hs_bs _ i hi]
    unfold wT
    rw [Bool.and_comm]
  · rw [cnt_nil]
    intro i hi
    rw [hs_bs _ i hi, wT_congr hp (G := fun _ => false) (fun j hj => by rw [hs_bs _ j hj, hs_all j hj]; rfl) hi, wT_none]
end Go.Proofs.YtkgdhlpmlpbbkaaGreat

namespace Go.Proofs.YtkgdhlpmlpbbkaaGreat
open Go.RowKit Tm Go.Great Classical

theorem rT_i {p : Pg} {i j : Nat} : rT p i j = true ↔ Fin mdl p i j := by unfold rT; exact decide_eq_true_iff
theorem poS_iff {p : Pg} {S : Nat → Bool} {j : Nat} : poS p S j = true ↔ ∃ i, i < 27 ∧ S i = true ∧ Fin mdl p i j := by
  unfold poS
  rw [upto_iff]
  exact ⟨fun ⟨i, hi, h⟩ => by rw [Bool.and_eq_true, rT_i] at h; exact ⟨i, hi, h⟩, fun ⟨i, hi, h⟩ => ⟨i, hi, by rw [Bool.and_eq_true, rT_i]; exact h⟩⟩
/-- A set lies within the weakest one exactly if its final states lie within the other one. -/
theorem adj {p : Pg} (hp : p.ok false) (S F : Nat → Bool) : wi 27 S (wF p F) = wi 27 (poS p S) F := by
  rw [Bool.eq_iff_iff, wi_iff, wi_iff]
  constructor
  · intro h j _ hj
    obtain ⟨i, hi, h1, h2⟩ := poS_iff.1 hj
    exact wF_iff.1 (h i hi h1) j h2
  · intro h i hi h1
    exact wF_iff.2 fun j hj => h j (fin_lt hp hi hj) (poS_iff.2 ⟨i, hi, h1, hj⟩)
theorem free_one {p : Pg} (hp : p.ok false) (F : Nat → Bool) {i : Nat} (hi : i < 27) : wF p F i = wi 27 (rT p i) F := by
  rw [Bool.eq_iff_iff, wi_iff, wF_iff]
  exact ⟨fun h j _ hj => h j (rT_i.1 hj), fun h j hj => h j (fin_lt hp hi hj) (rT_i.2 hj)⟩
theorem poS_congr {p : Pg} {S S' : Nat → Bool} (h : ∀ i, i < 27 → S i = S' i) (j : Nat) : poS p S j = poS p S' j := by
  rw [Bool.eq_iff_iff, poS_iff, poS_iff]
  exact ⟨fun ⟨i, hi, h1, h2⟩ => ⟨i, hi, by rw [← h i hi]; exact h1, h2⟩, fun ⟨i, hi, h1, h2⟩ => ⟨i, hi, by rw [h i hi]; exact h1, h2⟩⟩
theorem poS_or {p : Pg} {S S' : Nat → Bool} (j : Nat) : poS p (fun i => S i || S' i) j = (poS p S j || poS p S' j) := by
  rw [Bool.eq_iff_iff, Bool.or_eq_true, poS_iff, poS_iff, poS_iff]
  constructor
  · rintro ⟨i, hi, h1, h2⟩
    rw [Bool.or_eq_true] at h1
    exact h1.elim (fun h => .inl ⟨i, hi, h, h2⟩) (fun h => .inr ⟨i, hi, h, h2⟩)
  · rintro (⟨i, hi, h1, h2⟩ | ⟨i, hi, h1, h2⟩)
    · exact ⟨i, hi, by rw [h1]; rfl, h2⟩
    · exact ⟨i, hi, by rw [h1, Bool.or_true], h2⟩
theorem wF_and {p : Pg} {F G : Nat → Bool} {i : Nat} : wF p (fun j => F j && G j) i = (wF p F i && wF p G i) := by
  rw [Bool.eq_iff_iff, Bool.and_eq_true, wF_iff, wF_iff, wF_iff]
  constructor
  · intro h
    exact ⟨fun j hj => ((Bool.and_eq_true _ _).mp (h j hj)).1, fun j hj => ((Bool.and_eq_true _ _).mp (h j hj)).2⟩
  · rintro ⟨h1, h2⟩ j hj
    rw [h1 j hj, h2 j hj]; rfl
/-- The weakest set of a loop is kept by it, and what leaves it is in the other set. -/
theorem whl_kept (t : Tm) (p : Pg) (F : Nat → Bool) : kpS t p (wF (.whl t p) F) = true := by
  unfold kpS
  rw [wi_iff]
  intro i hi h
  rw [Bool.and_eq_true] at h
  exact wF_iff.2 fun m hm => wF_iff.2 fun j hj => wF_iff.1 h.1 j ⟨.head ⟨h.2, hm⟩ hj.1, hj.2⟩
theorem whl_out {t : Tm} {p : Pg} {F : Nat → Bool} {i : Nat} (h : wF (.whl t p) F i = true) (ht : tst t i = false) : F i = true := wF_iff.1 h i ⟨.refl i, ht⟩
theorem kpS_congr {t : Tm} {p : Pg} (hp : p.ok false) {F G : Nat → Bool} (h : ∀ i, i < 27 → F i = G i) : kpS t p F = kpS t p G := by
  unfold kpS
  exact wi_congr (fun i hi => by rw [h i hi]) fun i hi => wF_congr hp h hi
theorem kpS_iff {t : Tm} {p : Pg} {F : Nat → Bool} : kpS t p F = true ↔ ∀ i, i < 27 → F i = true → tst t i = true → ∀ j, Fin mdl p i j → F j = true := by
  unfold kpS
  rw [wi_iff]
  exact ⟨fun h i hi h1 h2 => wF_iff.1 (h i hi (by rw [h1, h2]; rfl)), fun h i hi h1 => by rw [Bool.and_eq_true] at h1; exact wF_iff.2 (h i hi h1.1 h1.2)⟩
theorem kpS_star {t : Tm} {p : Pg} (_hp : p.ok false) {F : Nat → Bool} (h : kpS t p F = true) {i j : Nat} (hi : i < 27) (hF : F i = true) (hs : Star (HR (tst t) (rT p)) i j) : F j = true := by
  induction hs with
  | refl => exact hF
  | head hr _ ih => exact ih hr.2.1 (kpS_iff.1 h _ hr.1 hF hr.2.2.1 _ (rT_i.1 hr.2.2.2))
theorem kpS_heads {t : Tm} {p : Pg} (hp : p.ok false) {F : Nat → Bool} : kpS t p F = true ↔ ∀ i, i < 27 → F i = true → wi 27 (hdS (tst t) (rT p) i) F = true := by
  constructor
  · intro h i hi hF
    rw [wi_iff]
    exact fun j _ hj => kpS_star hp h hi hF (hdS_iff.1 hj)
  · intro h
    rw [kpS_iff]
    intro i hi hF ht j hj
    have h1 := h i hi hF
    rw [wi_iff] at h1
    have hj27 := fin_lt hp hi hj
    exact h1 j hj27 (hdS_iff.2 (Star.one ⟨hi, hj27, ht, rT_i.2 hj⟩))
theorem kpS_post {t : Tm} {p : Pg} (hp : p.ok false) (F : Nat → Bool) : kpS t p F = wi 27 (poS p (fun i => F i && tst t i)) F := adj hp _ _
theorem st_kept {t : Tm} {p : Pg} (hp : p.ok false) (S : Nat → Bool) : kpS t p (stS (tst t) (rT p) S) = true := by
  rw [kpS_iff]
  intro i hi h ht j hj
  obtain ⟨q, hq, h1, h2⟩ := stS_iff.1 h
  exact stS_iff.2 ⟨q, hq, h1, h2.tail ⟨hi, fin_lt hp hi hj, ht, rT_i.2 hj⟩⟩
theorem st_in {F : Nat → Bool} {B : Nat → Nat → Bool} {S : Nat → Bool} {j : Nat} (hj : j < 27) (h : S j = true) : stS F B S j = true := stS_iff.2 ⟨j, hj, h, .refl _⟩
theorem st_st {F : Nat → Bool} {B : Nat → Nat → Bool} {S : Nat → Bool} {j : Nat} : stS F B (stS F B S) j = stS F B S j := by
  rw [Bool.eq_iff_iff, stS_iff]
  constructor
  · rintro ⟨q, hq, h1, h2⟩
    obtain ⟨r, hr, h3, h4⟩ := stS_iff.1 h1
    exact stS_iff.2 ⟨r, hr, h3, h4.trans h2⟩
  · intro h
    obtain ⟨r, hr, h3, h4⟩ := stS_iff.1 h
    have hj : j < 27 := by
      clear h h3
      induction h4 with
      | refl => exact hr
      | head hr2 _ ih => exact ih hr2.2.1
    exact ⟨j, hj, h, .refl _⟩
theorem st_congr {F : Nat → Bool} {B : Nat → Nat → Bool} {S S' : Nat → Bool} (h : ∀ i, i < 27 → S i = S' i) (j : Nat) : stS F B S j = stS F B S' j := by
  rw [Bool.eq_iff_iff, stS_iff, stS_iff]
  exact ⟨fun ⟨q, hq, h1, h2⟩ => ⟨q, hq, by rw [← h q hq]; exact h1, h2⟩, fun ⟨q, hq, h1, h2⟩ => ⟨q, hq, by rw [h q hq]; exact h1, h2⟩⟩
/-- The strongest invariant lies within the weakest one exactly if the triple holds. -/
theorem st_weak {t : Tm} {p : Pg} (hp : p.ok false) (S F : Nat → Bool) : wi 27 S (wF (.whl t p) F) = wi 27 (stS (tst t) (rT p) S) (wF (.whl t p) F) := by
  rw [Bool.eq_iff_iff, wi_iff, wi_iff]
  constructor
  · intro h j hj hs
    obtain ⟨q, hq, h1, h2⟩ := stS_iff.1 hs
    exact kpS_star hp (whl_kept t p F) hq (h q hq h1) h2
  · exact fun h i hi hS => h i hi (st_in hi hS)
/-- A kept set lies between the strongest and the weakest invariant exactly if it proves the loop. -/
theorem inv_eq {t : Tm} {p : Pg} (hp : p.ok false) (S I F : Nat → Bool) : (kpS t p I && wi 27 S I && wi 27 (fun i => I i && !tst t i) F) = (wi 27 (stS (tst t) (rT p) S) I && wi 27 I (wF (.whl t p) F) && kpS t p I) := by
  cases hk : kpS t p I
  · simp
  · rw [Bool.true_and, Bool.and_true, Bool.eq_iff_iff, Bool.and_eq_true, Bool.and_eq_true, wi_iff, wi_iff, wi_iff, wi_iff]
    constructor
    · rintro ⟨h1, h2⟩
      refine ⟨fun j hj hs => ?_, fun i hi hI => ?_⟩
      · obtain ⟨q, hq, h3, h4⟩ := stS_iff.1 hs
        exact kpS_star hp hk hq (h1 q hq h3) h4
      · rw [wF_iff]
        rintro j ⟨hs, hj⟩
        have hs2 := (star_hr hp hi).2 hs
        have hIj := kpS_star hp hk hi hI hs2
        have hj27 : j < 27 := by
          clear hIj hs hj
          induction hs2 with
          | refl => exact hi
          | head hr2 _ ih => exact ih hr2.2.1 (kpS_iff.1 hk _ hr2.1 hI hr2.2.2.1 _ (rT_i.1 hr2.2.2.2))
        have hj' : tst t j = false := hj
        exact h2 j hj27 (by rw [hIj, hj']; rfl)
    · rintro ⟨h1, h2⟩
      refine ⟨fun i hi hS => h1 i hi (st_in hi hS), fun i hi h => ?_⟩
      rw [Bool.and_eq_true, Bool.not_eq_true'] at h
      exact whl_out (h2 i hi h.1) h.2
theorem wi_refl (n : Nat) (F : Nat → Bool) : wi n F F = true := by rw [wi_iff]; exact fun _ _ h => h
end Go.Proofs.YtkgdhlpmlpbbkaaGreat

namespace Go.Proofs.YtkgdhlpmlpbbkaaGreat
open Go.RowKit

theorem IsRow.kept {w w' : World} {a : Option Addr} {len cap : Nat} {zs : List Int} (h : IsRow w a len cap zs) (hb : Below w.heap.size w w') : IsRow w' a len cap zs := by
  rcases h with h | ⟨x, rfl, hl, hm, hz, hc, hw⟩
  · exact .inl h
  · exact .inr ⟨x, rfl, hl, hm, hz, fun i hi => by
      have h1 := hc i hi
      have hlt := World.block_lt_of_cell? w _ h1
      exact (hb.cell hlt).trans h1, hw⟩
set_option maxRecDepth 100000 in
set_option maxHeartbeats 4000000 in
theorem dPostOf {ar : Option Addr} {len cap : Nat} {zs : List Int} {w : World} (h : IsRow w ar len cap zs) :
    Calls Tryz.prog 28 #[.slice ar len cap] w fun e w' => ∃ t v : ByteArray, t.size ≤ 153 ∧ v.size ≤ 28 ∧ e = .returned (.tuple #[.string t, .string v]) ∧ Below w.heap.size w w' := by
  have HO := Lib.hid (open_any h)
  clear h
  go_enter Tryz.func28, Tryz.ntmps28
  go_wp2_with fail
  refine HO.out.mono ?_
  rintro e w1 ⟨rfl, hr, hb⟩
  have HW1 := Lib.hid hb
  have HR1 := Lib.hid hr
  have HK1 := Lib.hid (Kp.refl w.heap.size w1)
  clear hr hb HO
  have HC := Lib.hid (open3 HR1.out (by omega))
  go_wp2_with fail
  refine HC.out.mono ?_
  rintro e w2 ⟨t, q1, t1, t2, hq1, rfl, hr, hk⟩
  have HR2 := Lib.hid hr
  have HK2 := Lib.hid (HK1.out.trans hk)
  clear hr hk HC
  have HC := Lib.hid (open2_any HR2.out (by omega))
  go_wp2_with fail
  refine HC.out.mono ?_
  rintro e w3 ⟨v, q2, v1, v2, hq2, rfl, hr, hk⟩
  have HR3 := Lib.hid hr
  have HK3 := Lib.hid (HK2.out.trans hk)
  clear hr hk HC
  go_wp2_with fail
  go_ret2
  exact ⟨t, v, by omega, by omega, rfl, HW1.out.trans (HK3.out.below (Nat.le_refl _) HW1.out.size)⟩
theorem setle (F : Nat → Bool) : (bs (tb F)).size ≤ 28 := by
  rw [bs_size, show (tb F).length = 27 from tbn_length 27 F]; omega
theorem set27z (F : Nat → Bool) : (bs (tb F)).size = 27 := by
  rw [bs_size, show (tb F).length = 27 from tbn_length 27 F]
theorem results_tmp5 {fn : Func} {t u v x y : Tmp} (h : fn.results = #[.tmp t, .tmp u, .tmp v, .tmp x, .tmp y]) (tmps : Array Value) (P : Program) (w : World) :
    (results fn tmps).run P w = .ok (.tuple #[tmps.getD t undef, tmps.getD u undef, tmps.getD v undef, tmps.getD x undef, tmps.getD y undef]) w := by
  simp [results, h]
end Go.Proofs.YtkgdhlpmlpbbkaaGreat

namespace Go.Proofs.YtkgdhlpmlpbbkaaGreat
open Go.RowKit

theorem infoState : (Tryz.prog.info? 33).map (fun i => (i.zero, i.size, i.bytes)) = some (some (.agg #[.int .i64 0, .int .i64 0, .int .i64 0]), 3, 24) := by kernel_rfl

/-- The cells of the first k states. -/
def stC : Nat → List Value
  | 0 => []
  | k + 1 => stC k ++ [.int .i64 (ax k), .int .i64 (ay k), .int .i64 (az k)]
theorem stC_len (k : Nat) : (stC k).length = k * 3 := by
  induction k with
  | zero => rfl
  | succ k ih => unfold stC; rw [List.length_append, ih]; simp; omega
theorem stC_get (n k : Nat) (h : k < n) : (stC n)[k * 3]? = some (.int .i64 (ax k)) ∧ (stC n)[k * 3 + 1]? = some (.int .i64 (ay k)) ∧ (stC n)[k * 3 + 2]? = some (.int .i64 (az k)) := by
  induction n with
  | zero => omega
  | succ n ih =>
    unfold stC
    by_cases e : k = n
    · subst e
      refine ⟨?_, ?_, ?_⟩ <;> rw [List.getElem?_append_right (by rw [stC_len]; omega), stC_len]
      · rw [show k * 3 - k * 3 = 0 by omega]; rfl
      · rw [show k * 3 + 1 - k * 3 = 1 by omega]; rfl
      · rw [show k * 3 + 2 - k * 3 = 2 by omega]; rfl
    · obtain ⟨h1, h2, h3⟩ := ih (by omega)
      refine ⟨?_, ?_, ?_⟩ <;> rw [List.getElem?_append_left (by rw [stC_len]; omega)] <;> assumption

/-- The list of all states lies at block g. -/
def Sts (w : World) (g : Nat) : Prop := ∀ k, k < 27 → w.cell? ⟨g, k * 3, none⟩ = some (.int .i64 (ax k)) ∧ w.cell? ⟨g, k * 3 + 1, none⟩ = some (.int .i64 (ay k)) ∧ w.cell? ⟨g, k * 3 + 2, none⟩ = some (.int .i64 (az k))
theorem Sts.kept {w w' : World} {g : Nat} (h : Sts w g) (hb : Below w.heap.size w w') : Sts w' g := fun k hk => by
  obtain ⟨h1, h2, h3⟩ := h k hk
  exact ⟨ckeep hb h1, ckeep hb h2, ckeep hb h3⟩

set_option maxRecDepth 100000 in
set_option maxHeartbeats 4000000 in
theorem states_any (w : World) : Calls Tryz.prog 16 #[] w fun e w' => ∃ g cap, 27 ≤ cap ∧ g < w'.heap.size ∧ e = .returned (.slice (some ⟨g, 0, none⟩) 27 cap) ∧ Sts w' g ∧ Below w.heap.size w w' := by
  obtain ⟨i0, hi0, hz0, hz1, hz2⟩ := info_parts infoState
  have HB : Hid (Below w.heap.size w (w.alloc (.cells #[] 33))) := (Below.refl _ _).alloc (Nat.le_refl _) _
  have HR : Hid ((w.alloc (.cells #[] 33)).ownsRow w.heap.size 33 3 (.slice (some ⟨w.heap.size, 0, none⟩) 0 0) 0 (stC 0)) :=
    ⟨rfl, .inr ⟨w.heap.size, 0, #[], rfl, Nat.le_refl _, Blk.new w #[] 33, Nat.le_refl _, by unfold maxLen; omega, rfl, rfl⟩⟩
  go_enter Tryz.func16, Tryz.ntmps16
  go_wp2_with fail
  generalize w.alloc (.cells #[] 33) = w0 at *
  go_loopw [1, 2] (fun v i wr => ∃ k : Nat, k ≤ 27 ∧ i = .int .i64 k ∧ Hid (wr.ownsRow w.heap.size 33 3 v k (stC k)) ∧ Hid (Below w.heap.size w wr)) (fun _ i _ => 27 - (intOf i).toNat)
  case atStart => exact ⟨0, by omega, rfl, HR, HB⟩
  case round =>
    clear HR HB
    obtain ⟨k, hk, rfl, HR, HB⟩ := hrel
    by_cases hlt : k < 27
    · have hlt2 : (k : Int) < 27 := by omega
      go_wp2_with (at_builtin; refine wpList_append_lies _ (by rfl) _ _ _ (by rfl) w.heap.size 33 i0 _ 3 24 Tryz.underlying26 hi0 hz0 hz1 hz2 rfl (by omega) _ _ _ (by rfl) (World.ownsRow.alloc HR.out _) ⟨wr.heap.size, 0, none⟩ 1 1 [.int .i64 ((k : Int) % 3), .int .i64 ((k : Int) / 3 % 3), .int .i64 ((k : Int) / 9)] (by rfl) (by rfl) (World.news_of_block (cs := #[.int .i64 ((k : Int) % 3), .int .i64 ((k : Int) / 3 % 3), .int .i64 ((k : Int) / 9)]) (t := 33) (fr := (0, 0)) (heap_alloc_new wr _)) (by simp [Value.oneCell']) (by omega) (by unfold maxLen; omega) (by omega) (by have := HB.out.size; simp; omega) (wr.heap.size + 1) (by simp) ?_; intro g3 cap3 w3 hown hgrow hat hlt3)
      have hb3 := (HB.out.alloc HB.out.size _).grown hgrow (by have := HB.out.size; simp; omega) (fun k hk => (World.ownsRow.lt HR.out k hk).1)
      exact ⟨⟨k + 1, by omega, by go_num, hown, hb3⟩, by simp [intOf]; omega⟩
    · have hk2 : k = 27 := by omega
      subst hk2
      obtain ⟨g, cap, rfl, hg, hglt⟩ := HR.out.form (by omega)
      have hcap : 27 ≤ cap := by
        rcases HR.out.2 with ⟨h, _⟩ | ⟨g', cap', cur, h, _, _, hc, _⟩
        · simp at h
        · simp at h; omega
      have HS : Hid (Sts wr g) := fun k hk => by
        obtain ⟨h1, h2, h3⟩ := stC_get 27 k hk
        refine ⟨?_, ?_, ?_⟩
        · rw [← h1]; exact World.ownsRow.cellAt HR.out _ (by omega)
        · rw [← h2]; exact World.ownsRow.cellAt HR.out _ (by omega)
        · rw [← h3]; exact World.ownsRow.cellAt HR.out _ (by omega)
      clear HR
      go_wp2_with fail
      go_ret
      exact ⟨g, cap, hcap, hglt, rfl, HS.out, HB.out⟩
end Go.Proofs.YtkgdhlpmlpbbkaaGreat

namespace Go.Proofs.YtkgdhlpmlpbbkaaGreat
open Go.RowKit

theorem ixn_at {k : Nat} (hk : k < 27) : ixn (ax k) (ay k) (az k) = k := by
  unfold ixn ax ay az; omega
theorem has_at (p : ByteArray) (hp : Set27 p) (k : Nat) (hk : k < 27) (w : World) : Calls Tryz.prog 18 #[.string p, .agg #[.int .i64 (ax k), .int .i64 (ay k), .int .i64 (az k)]] w fun e w' => e = .returned (.bool (hs p.data.toList k)) ∧ Below w.heap.size w w' := by
  have h := implHasS_yes p (ax k) (ay k) (az k) w hp (at_st3 (i := (k : Int)) (by omega) (by omega))
  rwa [ixn_at hk] at h
end Go.Proofs.YtkgdhlpmlpbbkaaGreat

namespace Go.Proofs.YtkgdhlpmlpbbkaaGreat
open Go.RowKit Tm Go.Great

theorem ixh_at {k : Nat} (hk : k < 27) : ixh (ax k) (ay k) (az k) = k := by
  unfold ixh ax ay az; omega
theorem FlowOk.box {w w' : World} {B g : Nat} {sp : Value} {st : Nat} {G : List Stp} (h : FlowOk w B sp st G) (h0 : w.cell? ⟨g, 0, none⟩ = some (.slice none 0 0)) (hg : g < B)
    (hc : ∀ b o v, b ≠ g → w.cell? ⟨b, o, none⟩ = some v → w'.cell? ⟨b, o, none⟩ = some v) : FlowOk w' B sp st G where
  fl := by
    obtain ⟨rb, cap, h1, h2, h3⟩ := h.fl
    refine ⟨rb, cap, h1, h2, fun k s hs => ?_⟩
    obtain ⟨x, y, hx, hy, hS⟩ := h3 k s hs
    have hrb : rb ≠ g := by
      rintro rfl
      have hlt : 0 < G.length := Nat.lt_of_le_of_lt (Nat.zero_le _) h.lt
      obtain ⟨x0, y0, hx0, hy0, hS0⟩ := h3 0 _ (List.getElem?_eq_getElem hlt)
      rw [Nat.zero_mul, h0] at hx0
      obtain rfl : Value.slice none 0 0 = x0 := Option.some.inj hx0
      generalize G[0] = s0 at hS0
      obtain ⟨d, nx⟩ := s0
      cases d with
      | none => exact absurd hS0.1 (by simp)
      | some p => obtain ⟨T, u, e⟩ := StV.forms hS0.1; cases e
    refine ⟨x, y, hc _ _ _ hrb hx, hc _ _ _ hrb hy, ?_⟩
    obtain ⟨d, nx⟩ := s
    cases d with
    | none => exact hS
    | some p =>
      obtain ⟨q1, b, q2, q3⟩ := hS
      refine ⟨StV.keep (fun b o v hb => hc b o v (by omega)) (Nat.le_refl _) q1, b, q2, fun j n hj => ?_⟩
      refine hc _ _ _ ?_ (q3 j n hj)
      rintro rfl
      have hn : 0 < nx.length := by
        rcases Nat.eq_zero_or_pos nx.length with h | h
        · rw [List.length_eq_zero_iff] at h; rw [show (⟨some p, nx⟩ : Stp).nx = nx from rfl, h] at hj; cases hj
        · exact h
      have := q3 0 _ (List.getElem?_eq_getElem hn)
      rw [h0] at this
      cases this
  ok := h.ok
  top := h.top
  sm := h.sm
  lt := h.lt
  bd := h.bd
def StartPost (p : Pg) (i : Nat) (w : World) (e : Ending) (w' : World) : Prop := ∃ B rb cap, e = .returned (.tuple #[.agg #[.slice (some ⟨rb, 0, none⟩) (flG p).length cap, .int .i64 (flS p : Nat)], .int .i64 i, .bool true]) ∧ FlowOk w' B (.slice (some ⟨rb, 0, none⟩) (flG p).length cap) (flS p) (flG p) ∧ Below w.heap.size w w'
set_option maxRecDepth 100000 in
set_option maxHeartbeats 8000000 in
theorem readStart_yes (s : ByteArray) {p : Pg} (hp : p.ok false) (he : s.data.toList = p.ser) (hl : s.size ≤ 200) (x y z : Int) (hst : st3 x y z = true) (w : World) : Calls Tryz.prog 51 #[.string s, .agg #[.int .i64 x, .int .i64 y, .int .i64 z]] w (StartPost p (ixh x y z) w) := by
  have CR := fun w => Lib.hid (prog_yes s w hp he hl)
  have hal : p.all.length ≤ 900 := by have := p.all_le; have := ser_200 he hl; omega
  have CF := fun B v w hv => Lib.hid (flowOf_any p B v w hv hp hal)
  have hi := ixh_lt hst
  have V := fun w => Lib.hid (implStateValid x y z w)
  rw [hst] at V
  have I := fun w => Lib.hid (implIx_yes x y z w hst)
  rw [← hi.2] at I
  have P0 := Lib.hid ((Blk.new w #[.int .i64 x, .int .i64 y, .int .i64 z] 33).alloc (.cells #[.slice none 0 0, .int .i64 0] 70))
  have R0 := Lib.hid (Blk.new (w.alloc (.cells #[.int .i64 x, .int .i64 y, .int .i64 z] 33)) #[.slice none 0 0, .int .i64 0] 70)
  have ka := (Below.refl w.heap.size w).alloc (Nat.le_refl _) (.cells #[.int .i64 x, .int .i64 y, .int .i64 z] 33)
  have KB := Lib.hid (ka.alloc ka.size (.cells #[.slice none 0 0, .int .i64 0] 70))
  have hgz : (w.alloc (.cells #[.int .i64 x, .int .i64 y, .int .i64 z] 33)).heap.size = w.heap.size + 1 := by simp
  rw [hgz] at R0
  clear hp he hl hal hst hi ka hgz
  go_enter Tryz.func51, Tryz.ntmps51
  go_wp2_with fail
  have HZ := Lib.hid R0.out.lt
  generalize (w.alloc (.cells #[.int .i64 x, .int .i64 y, .int .i64 z] 33)).alloc (.cells #[.slice none 0 0, .int .i64 0] 70) = w0 at *
  refine (CR _).out.mono ?_
  rintro e w1 ⟨T, u, rfl, hst, hb⟩
  replace P0 := Lib.hid (P0.out.kept hb)
  replace R0 := Lib.hid (R0.out.kept hb)
  replace KB := Lib.hid (bnext KB.out hb)
  have HS := Lib.hid hst
  clear hb hst
  obtain ⟨p0, p1, p2⟩ := P0.out.c3
  go_wp2_with fail
  clear p0 p1 p2
  refine (V _).out.mono ?_
  rintro e w2 ⟨rfl, hb⟩
  replace P0 := Lib.hid (P0.out.kept hb)
  replace R0 := Lib.hid (R0.out.kept hb)
  replace HS := Lib.hid (StV.below hb HS.out)
  replace KB := Lib.hid (bnext KB.out hb)
  clear hb
  obtain ⟨p0, p1, p2⟩ := P0.out.c3
  go_wp2_with fail
  have CS := Lib.hid (fun w' (hb : Below w2.heap.size w2 w') => (CF _ _ w' (StV.below hb HS.out)).out)
  have r0 := R0.out.cell 0
  have r1 := R0.out.cell 1
  have f0 := R0.out.free 0
  have f1 := R0.out.free 1
  have hlt := R0.out.lt
  have hBz := (Below.refl w2.heap.size w2)
  have hB' := hBz.drew
  have HG : Hid (w.heap.size + 1 < w0.heap.size) := HZ
  clear CF HS P0 R0 V CR
  go_region_with (first
    | (go_at_call 67; (with_reducible refine (CS.out _ hB').mono ?_); rintro e w3 ⟨rb, cap, rfl, hF, hq⟩;
       have p0 := ckeep hq p0; have p1 := ckeep hq p1; have p2 := ckeep hq p2;
       have r0 := ckeep hq r0; have r1 := ckeep hq r1; have f0 := (hq.frozen (p := ⟨w.heap.size + 1, 0, none⟩) hlt).trans f0; have f1 := (hq.frozen (p := ⟨w.heap.size + 1, 1, none⟩) hlt).trans f1;
       have hlt2 := cell_lt r0; have hB2 := hB'.trans (hq.mono hB'.size))
    | (go_at_call 57; (with_reducible refine (I _).out.mono ?_); rintro e w4 ⟨rfl, hq2⟩;
       have h0 := r0;
       have r0 := ckeep hq2 r0; have r1 := ckeep hq2 r1; have f0 := (hq2.frozen (p := ⟨w.heap.size + 1, 0, none⟩) hlt2).trans f0; have f1 := (hq2.frozen (p := ⟨w.heap.size + 1, 1, none⟩) hlt2).trans f1;
       have hB3 := hB2.trans (hq2.mono hB2.size)))
  all_goals
    go_wp2_with fail
    simp only [Act.put]
    have a0 : ((w4.setCell ⟨w.heap.size + 1, 0, none⟩ (.slice (some ⟨rb, 0, none⟩) (flG p).length cap)).setCell ⟨w.heap.size + 1, 1, none⟩ (.int .i64 (flS p : Nat))).cell? ⟨w.heap.size + 1, 0, none⟩ = some (.slice (some ⟨rb, 0, none⟩) (flG p).length cap) := by simp [go_sem, r0]
    have a1 : ((w4.setCell ⟨w.heap.size + 1, 0, none⟩ (.slice (some ⟨rb, 0, none⟩) (flG p).length cap)).setCell ⟨w.heap.size + 1, 1, none⟩ (.int .i64 (flS p : Nat))).cell? ⟨w.heap.size + 1, 1, none⟩ = some (.int .i64 (flS p : Nat)) := by simp [go_sem, r1]
    have hF2 : FlowOk ((w4.setCell ⟨w.heap.size + 1, 0, none⟩ (.slice (some ⟨rb, 0, none⟩) (flG p).length cap)).setCell ⟨w.heap.size + 1, 1, none⟩ (.int .i64 (flS p : Nat))) w0.heap.size (.slice (some ⟨rb, 0, none⟩) (flG p).length cap) (flS p) (flG p) :=
      FlowOk.box hF h0 HG.out fun b o v hne hv => by
        have hv2 := ckeep hq2 hv
        have hne2 : ¬ w.heap.size + 1 = b := fun h => hne h.symm
        simp [go_sem, hv2]
    exact bodyPost_ret (v := .tuple #[.agg #[.slice (some ⟨rb, 0, none⟩) (flG p).length cap, .int .i64 (flS p : Nat)], .int .i64 (ixh x y z), .bool true]) (by simp [results, Tryz.results51, go_sem, a0, a1]) rfl
      ⟨_, rb, cap, rfl, hF2, ((bnext KB.out hB3).setCell (p := ⟨w.heap.size + 1, 0, none⟩) (Nat.le_succ _) _).setCell (p := ⟨w.heap.size + 1, 1, none⟩) (Nat.le_succ _) _⟩
def RunPost (p : Pg) (i : Nat) (w : World) (e : Ending) (w' : World) : Prop := e = .returned (.tuple #[.agg #[.string (bs (tb (rT p i))), .bool (rL p i), .bool (rK p i)], .bool true]) ∧ Below w.heap.size w w'
set_option maxRecDepth 100000 in
set_option maxHeartbeats 8000000 in
theorem implRunsFrom_yes (s : ByteArray) {p : Pg} (hp : p.ok false) (he : s.data.toList = p.ser) (hl : s.size ≤ 200) (x y z : Int) (hst : st3 x y z = true) (w : World) : Calls Tryz.prog 17 #[.string s, .agg #[.int .i64 x, .int .i64 y, .int .i64 z]] w (RunPost p (ixh x y z) w) := by
  have CR := fun w => Lib.hid (readStart_yes s hp he hl x y z hst w)
  have CO := fun {w1 : World} {B : Nat} {sp : Value} (hF : FlowOk w1 B sp (flS p) (flG p)) (w : World) (hb : Below w1.heap.size w1 w) => Lib.hid (outcome_p hF (ixh x y z) (ixh_lt hst).1 w hb)
  clear hp he hl hst
  have R0 := Lib.hid (Blk.new (w.alloc (.cells #[.int .i64 x, .int .i64 y, .int .i64 z] 33)) #[.string (bs []), .bool false, .bool false] 29)
  have ka := (Below.refl w.heap.size w).alloc (Nat.le_refl _) (.cells #[.int .i64 x, .int .i64 y, .int .i64 z] 33)
  have KB := Lib.hid (ka.alloc ka.size (.cells #[.string (bs []), .bool false, .bool false] 29))
  have hgz : (w.alloc (.cells #[.int .i64 x, .int .i64 y, .int .i64 z] 33)).heap.size = w.heap.size + 1 := by simp
  rw [hgz] at R0
  clear ka hgz
  go_enter Tryz.func17, Tryz.ntmps17
  go_wp2_with fail
  generalize hw0 : (w.alloc (.cells #[.int .i64 x, .int .i64 y, .int .i64 z] 33)).alloc (.cells #[.string ⟨#[]⟩, .bool false, .bool false] 29) = w0
  rw [show bs [] = ⟨#[]⟩ from rfl, hw0] at R0 KB
  clear hw0
  refine (CR _).out.mono ?_
  rintro e w1 ⟨B, rb, cap, rfl, hF, hb⟩
  replace R0 := Lib.hid (R0.out.kept hb)
  replace KB := Lib.hid (bnext KB.out hb)
  have HF := Lib.hid hF
  clear hb hF CR
  go_wp2_with fail
  have hax := (Below.refl w1.heap.size w1).alloc (Nat.le_refl _) (.cells #[.slice (some ⟨rb, 0, none⟩) (flG p).length cap, .int .i64 (flS p : Nat)] 70)
  replace R0 := Lib.hid (R0.out.kept hax)
  replace KB := Lib.hid (bnext KB.out hax)
  refine (CO HF.out _ hax).out.mono ?_
  rintro e w2 ⟨rfl, hb⟩
  replace R0 := Lib.hid (R0.out.kept hb)
  replace KB := Lib.hid (bnext KB.out hb)
  clear hb hax CO HF
  unfold outV
  obtain ⟨F, hF⟩ : ∃ F, rT p (ixh x y z) = F := ⟨_, rfl⟩
  obtain ⟨lo, hlo⟩ : ∃ lo, rL p (ixh x y z) = lo := ⟨_, rfl⟩
  obtain ⟨bl, hbl⟩ : ∃ bl, rK p (ixh x y z) = bl := ⟨_, rfl⟩
  rw [hF, hlo, hbl]
  have EF := Lib.hid hF
  have EL := Lib.hid hlo
  have EK := Lib.hid hbl
  clear hF hlo hbl
  have M0 := Lib.hid (Blk.new w2 #[.int .u32 (nb 27 F), .bool lo, .bool bl] 59)
  have hax := (Below.refl w2.heap.size w2).alloc (Nat.le_refl _) (.cells #[.int .u32 (nb 27 F), .bool lo, .bool bl] 59)
  replace R0 := Lib.hid (R0.out.kept hax)
  replace KB := Lib.hid (bnext KB.out hax)
  have CT := fun w => Lib.hid (implText F w)
  clear hax
  go_wp2_with fail
  generalize w2.alloc (.cells #[.int .u32 (nb 27 F), .bool lo, .bool bl] 59) = wx at *
  obtain ⟨g, hg⟩ : ∃ g, w2.heap.size = g := ⟨_, rfl⟩
  rw [hg] at M0 ⊢
  clear hg
  obtain ⟨m0, m1, m2⟩ := M0.out.c3
  obtain ⟨r0, r1, r2⟩ := R0.out.c3
  have f0 := R0.out.free 0
  have f1 := R0.out.free 1
  have f2 := R0.out.free 2
  have hlt := R0.out.lt
  have hB' := (Below.refl wx.heap.size wx).drew
  clear M0 R0
  go_region_with ((go_at_call 53; (with_reducible refine (CT _).out.mono ?_); rintro e w3 ⟨rfl, hq⟩; have m0 := ckeep hq m0; have m1 := ckeep hq m1; have m2 := ckeep hq m2; have r0 := ckeep hq r0; have r1 := ckeep hq r1; have r2 := ckeep hq r2; have f0 := (hq.frozen (p := ⟨w.heap.size + 1, 0, none⟩) hlt).trans f0; have f1 := (hq.frozen (p := ⟨w.heap.size + 1, 1, none⟩) hlt).trans f1; have f2 := (hq.frozen (p := ⟨w.heap.size + 1, 2, none⟩) hlt).trans f2; have hB3 := hB'.trans (hq.mono hB'.size)))
  all_goals
    go_wp2_with fail
    try simp only [Act.put]
    have a0 : (((w3.setCell ⟨w.heap.size + 1, 0, none⟩ (.string (bs (tb F)))).setCell ⟨w.heap.size + 1, 1, none⟩ (.bool lo)).setCell ⟨w.heap.size + 1, 2, none⟩ (.bool bl)).cell? ⟨w.heap.size + 1, 0, none⟩ = some (.string (bs (tb F))) := by simp [go_sem, r0]
    have a1 : (((w3.setCell ⟨w.heap.size + 1, 0, none⟩ (.string (bs (tb F)))).setCell ⟨w.heap.size + 1, 1, none⟩ (.bool lo)).setCell ⟨w.heap.size + 1, 2, none⟩ (.bool bl)).cell? ⟨w.heap.size + 1, 1, none⟩ = some (.bool lo) := by simp [go_sem, r1]
    have a2 : (((w3.setCell ⟨w.heap.size + 1, 0, none⟩ (.string (bs (tb F)))).setCell ⟨w.heap.size + 1, 1, none⟩ (.bool lo)).setCell ⟨w.heap.size + 1, 2, none⟩ (.bool bl)).cell? ⟨w.heap.size + 1, 2, none⟩ = some (.bool bl) := by simp [go_sem, r2]
    exact bodyPost_ret (v := .tuple #[.agg #[.string (bs (tb F)), .bool lo, .bool bl], .bool true]) (by simp [results, Tryz.results17, go_sem, a0, a1, a2]) rfl
      ⟨by rw [EF.out, EL.out, EK.out], (((bnext KB.out hB3).setCell (p := ⟨w.heap.size + 1, 0, none⟩) (Nat.le_succ _) _).setCell (p := ⟨w.heap.size + 1, 1, none⟩) (Nat.le_succ _) _).setCell (p := ⟨w.heap.size + 1, 2, none⟩) (Nat.le_succ _) _⟩
end Go.Proofs.YtkgdhlpmlpbbkaaGreat

namespace Go.Proofs.YtkgdhlpmlpbbkaaGreat
open Go.RowKit Tm

theorem head_at (s b : ByteArray) {t : Tm} {p : Pg} (ht : Ok false true t) (hs0 : s.data.toList = t.ser) (hl : s.size ≤ 200) (hp : p.ok false) (he : b.data.toList = p.ser) (hl2 : b.size ≤ 200) (k : Nat) (hk : k < 27) (w : World) : Calls Tryz.prog 22 #[.string s, .string b, .agg #[.int .i64 (ax k), .int .i64 (ay k), .int .i64 (az k)]] w fun e w' => e = .returned (.tuple #[.string (bs (tb (hdS (tst t) (rT p) k))), .bool true]) ∧ Below w.heap.size w w' := by
  have h := implHead_yes s b ht hs0 hl hp he hl2 (ax k) (ay k) (az k) (at_st3 (i := (k : Int)) (by omega) (by omega)) w
  rwa [ixh_at hk] at h
theorem runs_at (s : ByteArray) {p : Pg} (hp : p.ok false) (he : s.data.toList = p.ser) (hl : s.size ≤ 200) (k : Nat) (hk : k < 27) (w : World) : Calls Tryz.prog 17 #[.string s, .agg #[.int .i64 (ax k), .int .i64 (ay k), .int .i64 (az k)]] w fun e w' => e = .returned (.tuple #[.agg #[.string (bs (tb (rT p k))), .bool (rL p k), .bool (rK p k)], .bool true]) ∧ Below w.heap.size w w' := by
  have h := implRunsFrom_yes s hp he hl (ax k) (ay k) (az k) (at_st3 (i := (k : Int)) (by omega) (by omega)) w
  rw [ixh_at hk] at h
  exact h
end Go.Proofs.YtkgdhlpmlpbbkaaGreat

namespace Go.Proofs.YtkgdhlpmlpbbkaaGreat
open Go.RowKit Tm Go.Great Classical

theorem rL_i {p : Pg} {i : Nat} : rL p i = true ↔ Lps mdl p i := by unfold rL; exact decide_eq_true_iff
theorem rK_i {p : Pg} {i : Nat} : rK p i = true ↔ Stk mdl p i := by unfold rK; exact decide_eq_true_iff
/-- The program that a loop is: its body and the loop, or nothing. -/
abbrev unf (t : Tm) (p : Pg) : Pg := .ite t (.seq p (.whl t p)) .skip
theorem unf_fin (M : Mdl) (t : Tm) (p : Pg) (i j : Nat) : Fin M (unf t p) i j ↔ Fin M (.whl t p) i j := by
  have e : Fin M (unf t p) i j ↔ if M.t t i = true then (∃ m, Fin M p i m ∧ Fin M (.whl t p) m j) else j = i := Iff.rfl
  rw [e]
  constructor
  · intro h
    by_cases ht : M.t t i = true
    · rw [if_pos ht] at h
      obtain ⟨m, h1, h2, h3⟩ := h
      exact ⟨.head ⟨ht, h1⟩ h2, h3⟩
    · rw [if_neg ht] at h
      subst h
      exact ⟨.refl _, by simpa using ht⟩
  · rintro ⟨h1, h2⟩
    cases h1 with
    | refl => rw [if_neg (by rw [h2]; simp)]
    | head hr h3 => rw [if_pos hr.1]; exact ⟨_, hr.2, h3, h2⟩
theorem unf_stk (M : Mdl) (t : Tm) (p : Pg) (i : Nat) : Stk M (unf t p) i ↔ Stk M (.whl t p) i := by
  have e : Stk M (unf t p) i ↔ if M.t t i = true then (Stk M p i ∨ ∃ m, Fin M p i m ∧ Stk M (.whl t p) m) else False := Iff.rfl
  rw [e]
  constructor
  · intro h
    by_cases ht : M.t t i = true
    · rw [if_pos ht] at h
      rcases h with h | ⟨m, h1, j, h2, h3, h4⟩
      · exact ⟨i, .refl _, ht, h⟩
      · exact ⟨j, .head ⟨ht, h1⟩ h2, h3, h4⟩
    · rw [if_neg ht] at h; exact h.elim
  · rintro ⟨j, h1, h2, h3⟩
    cases h1 with
    | refl => rw [if_pos h2]; exact .inl h3
    | head hr h4 => rw [if_pos hr.1]; exact .inr ⟨_, hr.2, j, h4, h2, h3⟩
theorem unf_lps (M : Mdl) (t : Tm) (p : Pg) (i : Nat) : Lps M (unf t p) i ↔ Lps M (.whl t p) i := by
  have e : Lps M (unf t p) i ↔ if M.t t i = true then (Lps M p i ∨ ∃ m, Fin M p i m ∧ Lps M (.whl t p) m) else False := Iff.rfl
  rw [e]
  constructor
  · intro h
    by_cases ht : M.t t i = true
    · rw [if_pos ht] at h
      rcases h with h | ⟨m, h1, j, h2, h3, h4⟩
      · exact ⟨i, .refl _, ht, .inl h⟩
      · exact ⟨j, .head ⟨ht, h1⟩ h2, h3, h4⟩
    · rw [if_neg ht] at h; exact h.elim
  · rintro ⟨j, h1, h2, h3⟩
    cases h1 with
    | refl =>
      rw [if_pos h2]
      rcases h3 with h3 | ⟨S, h3, h4⟩
      · exact .inl h3
      · obtain ⟨_, v, h5, h6⟩ := h4 _ h3
        exact .inr ⟨v, h5, v, .refl _, (h4 v h6).1, .inr ⟨S, h6, h4⟩⟩
    | head hr h4 => rw [if_pos hr.1]; exact .inr ⟨_, hr.2, j, h4, h2, h3⟩
theorem unf_rT (t : Tm) (p : Pg) (i : Nat) : rT (unf t p) i = rT (.whl t p) i := by
  funext j
  rw [Bool.eq_iff_iff, rT_i, rT_i, unf_fin]
theorem unf_rL (t : Tm) (p : Pg) (i : Nat) : rL (unf t p) i = rL (.whl t p) i := by rw [Bool.eq_iff_iff, rL_i, rL_i, unf_lps]
theorem unf_rK (t : Tm) (p : Pg) (i : Nat) : rK (unf t p) i = rK (.whl t p) i := by rw [Bool.eq_iff_iff, rK_i, rK_i, unf_stk]
/-- The final states of a loop are its heads in which the test is false. -/
theorem whl_rT {t : Tm} {p : Pg} (hp : p.ok false) {i : Nat} (hi : i < 27) (j : Nat) : rT (.whl t p) i j = (hdS (tst t) (rT p) i j && !tst t j) := by
  rw [Bool.eq_iff_iff, Bool.and_eq_true, Bool.not_eq_true', rT_i, hdS_iff, star_hr hp hi]
  exact Iff.rfl
theorem may_facts {p : Pg} (hp : p.ok false) : ∃ (E L K S : ByteArray) (Fk : Nat → ByteArray) (N : Nat → Nat), Set27 E ∧ Set27 L ∧ Set27 K ∧ Set27 S ∧ bs (tb fun i => upto 27 (rT p i)) = E ∧ bs (tb (rL p)) = L ∧ bs (tb (rK p)) = K ∧ bs (tb fun i => !rL p i && !rK p i) = S ∧ wi 27 (hs S.data.toList) (hs E.data.toList) = true ∧
    ∀ k, k < 27 → Set27 (Fk k) ∧ bs (tb (rT p k)) = Fk k ∧ cnt 27 (hs (Fk k).data.toList) = N k ∧ N k ≤ 27 ∧ hs E.data.toList k = decide ((0 : Int) < (N k : Nat)) ∧ hs L.data.toList k = rL p k ∧ hs K.data.toList k = rK p k ∧ hs S.data.toList k = (!rL p k && !rK p k) ∧ (N k = 0 → rL p k = false → rK p k = false → False) := by
  have hpos : ∀ k, k < 27 → (0 < cnt 27 (hs (bs (tb (rT p k))).data.toList) ↔ upto 27 (rT p k) = true) := by
    intro k _
    rw [Nat.pos_iff_ne_zero, Ne, cnt_nil, upto_iff]
    constructor
    · intro h
      refine Classical.byContradiction fun hn => h fun i hi => ?_
      rw [hs_bs _ i hi]
      cases he : rT p k i
      · rfl
      · exact absurd ⟨i, hi, he⟩ hn
    · rintro ⟨i, hi, he⟩ h
      have := h i hi
      rw [hs_bs _ i hi, he] at this
      cases this
  have hany : ∀ k, k < 27 → rL p k = false → rK p k = false → upto 27 (rT p k) = true := by
    intro k hk hL hK
    have h1 : ¬ Lps mdl p k := by rw [← rL_i, hL]; simp
    have h2 : ¬ Stk mdl p k := by rw [← rK_i, hK]; simp
    obtain ⟨j, hj⟩ := fin_any mdl p k h1 h2
    exact upto_iff.2 ⟨j, fin_lt hp hk hj, rT_i.2 hj⟩
  refine ⟨_, _, _, _, fun k => bs (tb (rT p k)), fun k => cnt 27 (hs (bs (tb (rT p k))).data.toList), set27_tb _, set27_tb _, set27_tb _, set27_tb _, rfl, rfl, rfl, rfl, ?_, fun k hk => ⟨set27_tb _, rfl, rfl, cnt_le 27 _, ?_, hs_bs _ k hk, hs_bs _ k hk, hs_bs _ k hk, fun h0 hL hK => ?_⟩⟩
  · rw [wi_iff]
    intro i hi h
    rw [hs_bs _ i hi] at h ⊢
    rw [Bool.and_eq_true, Bool.not_eq_true', Bool.not_eq_true'] at h
    exact hany i hi h.1 h.2
  · rw [hs_bs _ k hk, Bool.eq_iff_iff, ← hpos k hk, decide_eq_true_eq]
    exact Int.natCast_pos.symm
  · have h1 := (hpos k hk).2 (hany k hk hL hK)
    have h2 : cnt 27 (hs (bs (tb (rT p k))).data.toList) = 0 := h0
    omega
theorem unf_ser {s b : ByteArray} {t : Tm} {p : Pg} (hs : s.data.toList = t.ser) (he : b.data.toList = p.ser) : ((⟨#[63]⟩ : ByteArray) ++ s ++ ⟨#[59]⟩ ++ b ++ ((⟨#[64]⟩ : ByteArray) ++ s ++ b) ++ ⟨#[115]⟩).data.toList = (unf t p).ser := by
  simp only [ByteArray.data_append, Array.toList_append, hs, he, Pg.ser]
  simp
theorem unf_size (s b : ByteArray) : ((⟨#[63]⟩ : ByteArray) ++ s ++ ⟨#[59]⟩ ++ b ++ ((⟨#[64]⟩ : ByteArray) ++ s ++ b) ++ ⟨#[115]⟩).size = 2 * s.size + 2 * b.size + 4 := by
  simp only [ByteArray.size_append]
  show 1 + s.size + 1 + b.size + (1 + s.size + b.size) + 1 = _
  omega
theorem unf_facts (t : Tm) {p : Pg} (hp : p.ok false) {i : Nat} (hi : i < 27) : ∃ (H Z S N C P : ByteArray), Set27 H ∧ Set27 S ∧ Set27 N ∧ Set27 C ∧ Set27 P ∧ bs (tb (hdS (tst t) (rT p) i)) = H ∧ bs (tb (rT (.whl t p) i)) = Z ∧ bs (tb (tst t)) = S ∧ bs (tb fun j => !hs S.data.toList j) = N ∧ bs (tb fun j => hs H.data.toList j && hs N.data.toList j) = Z ∧
    bs (tb fun j => hs H.data.toList j && hs S.data.toList j) = C ∧ bs (tb (poS p (hs C.data.toList))) = P ∧ wi 27 (hs P.data.toList) (hs H.data.toList) = true ∧ hs H.data.toList i = true := by
  refine ⟨_, _, _, _, _, _, set27_tb _, set27_tb _, set27_tb _, set27_tb _, set27_tb _, rfl, rfl, rfl, rfl, ?_, rfl, rfl, ?_, ?_⟩
  · refine bs_ext fun j hj => ?_
    rw [hs_bs _ j hj, hs_bs (fun j => !hs (bs (tb (tst t))).data.toList j) j hj, hs_bs _ j hj, whl_rT hp hi]
  · rw [wi_iff]
    intro j hj h
    rw [hs_bs _ j hj] at h ⊢
    obtain ⟨k, hk, h1, h2⟩ := poS_iff.1 h
    rw [hs_bs _ k hk, hs_bs _ k hk, hs_bs _ k hk, Bool.and_eq_true] at h1
    exact hdS_iff.2 ((hdS_iff.1 h1.1).tail ⟨hk, hj, h1.2, rT_i.2 h2⟩)
  · rw [hs_bs _ i hi]
    exact hdS_iff.2 (.refl _)
end Go.Proofs.YtkgdhlpmlpbbkaaGreat

namespace Go.Proofs.YtkgdhlpmlpbbkaaGreat
open Go.RowKit

set_option maxHeartbeats 4000000 in
theorem dMayEnd {a : Option Addr} {len cap : Nat} {zs : List Int} {w : World} (h : IsRow w a len cap zs) :
    Calls Tryz.prog 8 #[.slice a len cap] w fun e w' => ∃ t : ByteArray, t.size ≤ 153 ∧ e = .returned (.string t) ∧ Below w.heap.size w w' := by
  have HO := Lib.hid (open_any h)
  clear h
  go_enter Tryz.func8, Tryz.ntmps8
  go_wp2_with fail
  refine HO.out.mono ?_
  rintro e w1 ⟨rfl, hr, hb⟩
  have HW1 := Lib.hid hb
  have HC := Lib.hid (open3 hr (by omega))
  clear hr hb
  go_wp2_with fail
  refine HC.out.mono ?_
  rintro e w2 ⟨t, q, t1, t2, hq, rfl, hr, hk⟩
  have HW2 := Lib.hid (HW1.out.trans (hk.below (Nat.le_refl _) HW1.out.size))
  clear hr hk
  go_wp2_with fail
  go_ret
  exact ⟨t, t2, rfl, HW2.out⟩
set_option maxRecDepth 100000 in
set_option maxHeartbeats 8000000 in
theorem dHeadSt {a : Option Addr} {len cap : Nat} {zs : List Int} {w : World} (h : IsRow w a len cap zs) :
    Calls Tryz.prog 21 #[.slice a len cap] w fun e w' => ∃ (t b : ByteArray) (x y z : Int), t.size ≤ 40 ∧ b.size ≤ 153 ∧ e = .returned (.tuple #[.string t, .string b, .agg #[.int .i64 x, .int .i64 y, .int .i64 z]]) ∧ Below w.heap.size w w' := by
  have h0 : IsRow (w.alloc (.cells #[.int .i64 0, .int .i64 0, .int .i64 0] 33)) a len cap zs := h.kept ((Below.refl _ w).alloc (Nat.le_refl _) _)
  have HO := Lib.hid (open_any h0)
  have HB0 := Lib.hid (Blk.new w #[.int .i64 0, .int .i64 0, .int .i64 0] 33)
  have HW0 := Lib.hid ((Below.refl _ w).alloc (Nat.le_refl _) (.cells #[.int .i64 0, .int .i64 0, .int .i64 0] 33))
  clear h h0
  go_enter Tryz.func21, Tryz.ntmps21
  go_wp2_with fail
  generalize w.alloc (.cells #[.int .i64 0, .int .i64 0, .int .i64 0] 33) = w0 at *
  refine HO.out.mono ?_
  rintro e w1 ⟨rfl, hr, hb⟩
  have hlt : w.heap.size < w0.heap.size := HB0.out.lt
  have hne : w.heap.size ≠ w0.heap.size := by omega
  have HB1 := Lib.hid (HB0.out.kept hb)
  have HW1 := Lib.hid (bnext HW0.out hb)
  have HC := Lib.hid (dT_2 ⟨#[120, 121, 122]⟩ (by decide) (by decide) hr (by omega))
  clear hr hb
  go_wp2_with fail
  refine HC.out.mono ?_
  rintro e w2 ⟨t0, q1, t1, t2, hq1, rfl, hr, hk⟩
  have hz := hr.lt
  have HB2 := Lib.hid (HB1.out.kp hk hne)
  have HW2 := Lib.hid (HW1.out.trans (hk.below (by omega) HW1.out.size))
  have HC := Lib.hid (bad_any t0 t1 (by omega) hr (by omega))
  clear hr hk
  go_wp2_with fail
  refine HC.out.mono ?_
  rintro e w3 ⟨t, q2, u1, u2, hq2, rfl, hr, hk⟩
  have HB3 := Lib.hid (HB2.out.kp hk hne)
  have HW3 := Lib.hid (HW2.out.trans (hk.below (by omega) HW2.out.size))
  have HC := Lib.hid (open3 hr (by omega))
  clear hr hk
  go_wp2_with fail
  refine HC.out.mono ?_
  rintro e w4 ⟨b, q3, b1, b2, hq3, rfl, hr, hk⟩
  have HB4 := Lib.hid (HB3.out.kp hk hne)
  have HW4 := Lib.hid (HW3.out.trans (hk.below (by omega) HW3.out.size))
  have HC := Lib.hid (spot_any hr (by omega))
  clear hr hk
  go_wp2_with fail
  refine HC.out.mono ?_
  rintro e w5 ⟨x, y, z, _, _, _, rfl, hr, hk⟩
  have HB5 := Lib.hid (HB4.out.kp hk hne)
  have HW5 := Lib.hid (HW4.out.trans (hk.below (by omega) HW4.out.size))
  have HR5 := Lib.hid hr
  clear hr hk
  go_wp2_with fail
  refine (badSpot_any HR5.out (by omega)).mono ?_
  rintro e w6 ⟨x', z', _, _, rfl, ⟨p', _, hr⟩, hk⟩
  have HB6 := Lib.hid (HB5.out.kp hk hne)
  have HW6 := Lib.hid (HW5.out.trans (hk.below (by omega) HW5.out.size))
  clear hr hk
  obtain ⟨q0, q1', q2', f0, f1, f2⟩ := HB6.out.a3
  go_wp2_with fail
  exact bodyPost_ret (v := .tuple #[.string t, .string b, .agg #[.int .i64 x', .int .i64 y, .int .i64 z']]) (by simp [results, Tryz.results21, go_sem, q0, q1', q2']) rfl ⟨t, b, x', y, z', by omega, by omega, rfl, by (repeat refine Below.setCell ?_ (by simp) _); exact HW6.out⟩
end Go.Proofs.YtkgdhlpmlpbbkaaGreat
