/-
  The model's functions on sets: HasState, AndPred, OrPred, NotPred, PredWithin, CountPred.
-/
import Derived.Test.YtbicokobbpmgnaaSetS
import Derived.Test.YtbicokobbpmgnaaIx0
namespace Go.Proofs.Ytbicokobbpmgnaa
open Go.RowKit

theorem set27_size {p : ByteArray} (h : Set27 p) : p.size = 27 := by have := h.1; simpa using this

set_option maxHeartbeats 1000000 in
theorem specAnd_yes (p q : ByteArray) (w : World) (hp : Set27 p) (hq : Set27 q) : Calls Try.prog 15 #[.string p, .string q] w fun e w' => e = .returned (.tuple #[.string (bs (tb (fun i => hs p.data.toList i && hs q.data.toList i))), .bool true]) ∧ Below w.heap.size w w' := by
  have C := fun w => Lib.hid (specPredValid_yes p w hp)
  have D := fun w => Lib.hid (specPredValid_yes q w hq)
  have E := fun w => Lib.hid (specAnd0 p q 27 w (set27_size hp) (set27_size hq) (by omega))
  go_enter Try.func15, Try.ntmps15
  go_wp2_with fail
  refine (C _).out.mono ?_
  rintro e w' ⟨rfl, rfl⟩
  go_wp2_with fail
  refine (D _).out.mono ?_
  rintro e w' ⟨rfl, rfl⟩
  go_wp2_with fail
  refine (E _).out.mono ?_
  rintro e w1 ⟨rfl, hb⟩
  have HB := Lib.hid hb
  clear hb
  go_wp2_with fail
  go_ret2
  exact ⟨rfl, HB.out⟩
set_option maxHeartbeats 1000000 in
theorem specAnd_p (p q : ByteArray) (w : World) (hp : ¬ Set27 p) (hm : p.size ≤ maxLen) : Calls Try.prog 15 #[.string p, .string q] w fun e w' => e = .returned (.tuple #[.string (bs []), .bool false]) ∧ Below w.heap.size w w' := by
  have C := fun w => Lib.hid (specPredValid_no p w hp hm)
  clear hp
  go_enter Try.func15, Try.ntmps15
  go_wp2_with fail
  refine (C _).out.mono ?_
  rintro e w' ⟨rfl, rfl⟩
  go_wp2_with fail
  go_ret2
  exact ⟨rfl, Below.refl _ _⟩
set_option maxHeartbeats 1000000 in
theorem specAnd_q (p q : ByteArray) (w : World) (hp : Set27 p) (hq : ¬ Set27 q) (hm : q.size ≤ maxLen) : Calls Try.prog 15 #[.string p, .string q] w fun e w' => e = .returned (.tuple #[.string (bs []), .bool false]) ∧ Below w.heap.size w w' := by
  have C := fun w => Lib.hid (specPredValid_yes p w hp)
  have D := fun w => Lib.hid (specPredValid_no q w hq hm)
  clear hq
  go_enter Try.func15, Try.ntmps15
  go_wp2_with fail
  refine (C _).out.mono ?_
  rintro e w' ⟨rfl, rfl⟩
  go_wp2_with fail
  refine (D _).out.mono ?_
  rintro e w' ⟨rfl, rfl⟩
  go_wp2_with fail
  go_ret2
  exact ⟨rfl, Below.refl _ _⟩
theorem specAnd_no (p q : ByteArray) (w : World) (h : ¬ (Set27 p ∧ Set27 q)) (hm : p.size ≤ maxLen) (hm2 : q.size ≤ maxLen) : Calls Try.prog 15 #[.string p, .string q] w fun e w' => e = .returned (.tuple #[.string (bs []), .bool false]) ∧ Below w.heap.size w w' := by
  by_cases hp : Set27 p
  · exact specAnd_q p q w hp (fun hq => h ⟨hp, hq⟩) hm2
  · exact specAnd_p p q w hp hm

set_option maxHeartbeats 1000000 in
theorem specOr_yes (p q : ByteArray) (w : World) (hp : Set27 p) (hq : Set27 q) : Calls Try.prog 17 #[.string p, .string q] w fun e w' => e = .returned (.tuple #[.string (bs (tb (fun i => hs p.data.toList i || hs q.data.toList i))), .bool true]) ∧ Below w.heap.size w w' := by
  have C := fun w => Lib.hid (specPredValid_yes p w hp)
  have D := fun w => Lib.hid (specPredValid_yes q w hq)
  have E := fun w => Lib.hid (specOr0 p q 27 w (set27_size hp) (set27_size hq) (by omega))
  go_enter Try.func17, Try.ntmps17
  go_wp2_with fail
  refine (C _).out.mono ?_
  rintro e w' ⟨rfl, rfl⟩
  go_wp2_with fail
  refine (D _).out.mono ?_
  rintro e w' ⟨rfl, rfl⟩
  go_wp2_with fail
  refine (E _).out.mono ?_
  rintro e w1 ⟨rfl, hb⟩
  have HB := Lib.hid hb
  clear hb
  go_wp2_with fail
  go_ret2
  exact ⟨rfl, HB.out⟩
set_option maxHeartbeats 1000000 in
theorem specOr_p (p q : ByteArray) (w : World) (hp : ¬ Set27 p) (hm : p.size ≤ maxLen) : Calls Try.prog 17 #[.string p, .string q] w fun e w' => e = .returned (.tuple #[.string (bs []), .bool false]) ∧ Below w.heap.size w w' := by
  have C := fun w => Lib.hid (specPredValid_no p w hp hm)
  clear hp
  go_enter Try.func17, Try.ntmps17
  go_wp2_with fail
  refine (C _).out.mono ?_
  rintro e w' ⟨rfl, rfl⟩
  go_wp2_with fail
  go_ret2
  exact ⟨rfl, Below.refl _ _⟩
set_option maxHeartbeats 1000000 in
theorem specOr_q (p q : ByteArray) (w : World) (hp : Set27 p) (hq : ¬ Set27 q) (hm : q.size ≤ maxLen) : Calls Try.prog 17 #[.string p, .string q] w fun e w' => e = .returned (.tuple #[.string (bs []), .bool false]) ∧ Below w.heap.size w w' := by
  have C := fun w => Lib.hid (specPredValid_yes p w hp)
  have D := fun w => Lib.hid (specPredValid_no q w hq hm)
  clear hq
  go_enter Try.func17, Try.ntmps17
  go_wp2_with fail
  refine (C _).out.mono ?_
  rintro e w' ⟨rfl, rfl⟩
  go_wp2_with fail
  refine (D _).out.mono ?_
  rintro e w' ⟨rfl, rfl⟩
  go_wp2_with fail
  go_ret2
  exact ⟨rfl, Below.refl _ _⟩
theorem specOr_no (p q : ByteArray) (w : World) (h : ¬ (Set27 p ∧ Set27 q)) (hm : p.size ≤ maxLen) (hm2 : q.size ≤ maxLen) : Calls Try.prog 17 #[.string p, .string q] w fun e w' => e = .returned (.tuple #[.string (bs []), .bool false]) ∧ Below w.heap.size w w' := by
  by_cases hp : Set27 p
  · exact specOr_q p q w hp (fun hq => h ⟨hp, hq⟩) hm2
  · exact specOr_p p q w hp hm
set_option maxHeartbeats 1000000 in
theorem specNotP_yes (p : ByteArray) (w : World) (hp : Set27 p) : Calls Try.prog 19 #[.string p] w fun e w' => e = .returned (.tuple #[.string (bs (tb (fun i => !hs p.data.toList i))), .bool true]) ∧ Below w.heap.size w w' := by
  have C := fun w => Lib.hid (specPredValid_yes p w hp)
  have E := fun w => Lib.hid (specNot0 p 27 w (set27_size hp) hp (by omega))
  go_enter Try.func19, Try.ntmps19
  go_wp2_with fail
  refine (C _).out.mono ?_
  rintro e w' ⟨rfl, rfl⟩
  go_wp2_with fail
  refine (E _).out.mono ?_
  rintro e w1 ⟨rfl, hb⟩
  have HB := Lib.hid hb
  clear hb
  go_wp2_with fail
  go_ret2
  exact ⟨rfl, HB.out⟩
set_option maxHeartbeats 1000000 in
theorem specNotP_no (p : ByteArray) (w : World) (hp : ¬ Set27 p) (hm : p.size ≤ maxLen) : Calls Try.prog 19 #[.string p] w fun e w' => e = .returned (.tuple #[.string (bs []), .bool false]) ∧ Below w.heap.size w w' := by
  have C := fun w => Lib.hid (specPredValid_no p w hp hm)
  clear hp
  go_enter Try.func19, Try.ntmps19
  go_wp2_with fail
  refine (C _).out.mono ?_
  rintro e w' ⟨rfl, rfl⟩
  go_wp2_with fail
  go_ret2
  exact ⟨rfl, Below.refl _ _⟩

theorem wi_eq (p q : ByteArray) (hp : Set27 p) : ((bs (tb (fun i => hs p.data.toList i && hs q.data.toList i))).toList == p.toList) = wi 27 (hs p.data.toList) (hs q.data.toList) := by
  rw [bytes_eq, Bool.eq_iff_iff, decide_eq_true_eq, wi_iff]
  have e : bs p.data.toList = p := by apply ByteArray.ext; simp [bs]
  constructor
  · intro h i hi hF
    have h2 : tb (fun i => hs p.data.toList i && hs q.data.toList i) = tbn 27 (hs p.data.toList) := by
      rw [tbn_hs hp]
      have := congrArg (fun b : ByteArray => b.data.toList) h
      simpa [bs] using this
    have h3 := tbn_inj h2 i hi
    simpa [hF] using h3
  · intro h
    rw [show tb (fun i => hs p.data.toList i && hs q.data.toList i) = tbn 27 (hs p.data.toList) from tbn_congr fun i hi => by
      cases hF : hs p.data.toList i
      · rfl
      · simp [h i hi hF], tbn_hs hp, e]

set_option maxHeartbeats 1000000 in
theorem specPWithin_yes (p q : ByteArray) (w : World) (hp : Set27 p) (hq : Set27 q) : Calls Try.prog 21 #[.string p, .string q] w fun e w' => e = .returned (.bool (wi 27 (hs p.data.toList) (hs q.data.toList))) ∧ Below w.heap.size w w' := by
  have C := fun w => Lib.hid (specPredValid_yes p w hp)
  have D := fun w => Lib.hid (specPredValid_yes q w hq)
  have E := fun w => Lib.hid (specAnd0 p q 27 w (set27_size hp) (set27_size hq) (by omega))
  have H := Lib.hid (wi_eq p q hp)
  go_enter Try.func21, Try.ntmps21
  go_wp2_with fail
  refine (C _).out.mono ?_
  rintro e w' ⟨rfl, rfl⟩
  go_wp2_with fail
  refine (D _).out.mono ?_
  rintro e w' ⟨rfl, rfl⟩
  go_wp2_with fail
  refine (E _).out.mono ?_
  rintro e w1 ⟨rfl, hb⟩
  have HB := Lib.hid hb
  clear hb
  go_wp2_with fail
  go_ret
  exact ⟨by rw [← H.out]; rfl, HB.out⟩
set_option maxHeartbeats 1000000 in
theorem specPWithin_no (p q : ByteArray) (w : World) (h : ¬ (Set27 p ∧ Set27 q)) (hm : p.size ≤ maxLen) (hm2 : q.size ≤ maxLen) : Calls Try.prog 21 #[.string p, .string q] w fun e w' => e = .returned (.bool false) ∧ Below w.heap.size w w' := by
  by_cases hp : Set27 p
  · have C := fun w => Lib.hid (specPredValid_yes p w hp)
    have D := fun w => Lib.hid (specPredValid_no q w (fun hq => h ⟨hp, hq⟩) hm2)
    clear h
    go_enter Try.func21, Try.ntmps21
    go_wp2_with fail
    refine (C _).out.mono ?_
    rintro e w' ⟨rfl, rfl⟩
    go_wp2_with fail
    refine (D _).out.mono ?_
    rintro e w' ⟨rfl, rfl⟩
    go_wp2_with fail
    go_ret
    exact ⟨rfl, Below.refl _ _⟩
  · have C := fun w => Lib.hid (specPredValid_no p w hp hm)
    clear h hp
    go_enter Try.func21, Try.ntmps21
    go_wp2_with fail
    refine (C _).out.mono ?_
    rintro e w' ⟨rfl, rfl⟩
    go_wp2_with fail
    go_ret
    exact ⟨rfl, Below.refl _ _⟩

set_option maxHeartbeats 1000000 in
theorem specCountP_yes (p : ByteArray) (w : World) (hp : Set27 p) : Calls Try.prog 23 #[.string p] w fun e w' => e = .returned (.int .i64 (cnt 27 (hs p.data.toList))) ∧ w = w' := by
  have C := fun w => Lib.hid (specPredValid_yes p w hp)
  have E := fun w => Lib.hid (specCount0 p 27 w hp (by omega))
  go_enter Try.func23, Try.ntmps23
  go_wp2_with fail
  refine (C _).out.mono ?_
  rintro e w' ⟨rfl, rfl⟩
  go_wp2_with fail
  refine (E _).out.mono ?_
  rintro e w' ⟨rfl, rfl⟩
  go_wp2_with fail
  go_ret
  exact ⟨rfl, rfl⟩
set_option maxHeartbeats 1000000 in
theorem specCountP_no (p : ByteArray) (w : World) (hp : ¬ Set27 p) (hm : p.size ≤ maxLen) : Calls Try.prog 23 #[.string p] w fun e w' => e = .returned (.int .i64 (-1)) ∧ w = w' := by
  have C := fun w => Lib.hid (specPredValid_no p w hp hm)
  clear hp
  go_enter Try.func23, Try.ntmps23
  go_wp2_with fail
  refine (C _).out.mono ?_
  rintro e w' ⟨rfl, rfl⟩
  go_wp2_with fail
  go_ret
  exact ⟨rfl, rfl⟩

/-- The number of a state. -/
def ixs (x y z : Int) : Nat := (x + 3 * y + 9 * z).toNat
theorem ixs_lt {x y z : Int} (h : st3 x y z = true) : ixs x y z < 27 ∧ ((ixs x y z : Nat) : Int) = x + 3 * y + 9 * z := by
  have h := st3_bd h
  unfold ixs; omega

set_option maxHeartbeats 1000000 in
theorem specHasS_yes (p : ByteArray) (x y z : Int) (w : World) (hp : Set27 p) (h : st3 x y z = true) : Calls Try.prog 12 #[.string p, .agg #[.int .i64 x, .int .i64 y, .int .i64 z]] w fun e w' => e = .returned (.bool (hs p.data.toList (ixs x y z))) ∧ Below w.heap.size w w' := by
  have C := fun w => Lib.hid (specPredValid_yes p w hp)
  have V := fun w => Lib.hid (specStateValid x y z w)
  rw [h] at V
  have hi := ixs_lt h
  have I := fun w => Lib.hid (specIx0 x y z w h)
  rw [← hi.2] at I
  have hlt := hi.1
  have hsz := set27_size hp
  have hlt2 : ixs x y z < p.size := by omega
  have H := Lib.hid (hs_int p (ixs x y z) hlt2)
  clear hi h hsz
  go_enter Try.func12, Try.ntmps12
  go_wp2_with fail
  have HT0 := Lib.hid (Blk.new w #[.int .i64 x, .int .i64 y, .int .i64 z] 26)
  have HB0 := Lib.hid ((Below.refl _ w).alloc (Nat.le_refl _) (.cells #[.int .i64 x, .int .i64 y, .int .i64 z] 26))
  generalize w.alloc (.cells #[.int .i64 x, .int .i64 y, .int .i64 z] 26) = w0 at *
  refine (C _).out.mono ?_
  rintro e w' ⟨rfl, rfl⟩
  obtain ⟨q0, q1, q2⟩ := HT0.out.c3
  go_wp2_with fail
  clear q0 q1 q2
  refine (V _).out.mono ?_
  rintro e w1 ⟨rfl, hb⟩
  have HB1 := Lib.hid (bnext HB0.out hb)
  have HT1 := Lib.hid (HT0.out.kept hb)
  clear hb
  obtain ⟨q0, q1, q2⟩ := HT1.out.c3
  go_wp2_with fail
  clear q0 q1 q2
  refine (I _).out.mono ?_
  rintro e w2 ⟨rfl, hb⟩
  have HB2 := Lib.hid (bnext HB1.out hb)
  clear hb
  go_wp2_with fail
  go_ret
  exact ⟨by rw [H.out]; rfl, HB2.out⟩
set_option maxHeartbeats 1000000 in
theorem specHasS_st (p : ByteArray) (x y z : Int) (w : World) (hp : Set27 p) (h : st3 x y z = false) : Calls Try.prog 12 #[.string p, .agg #[.int .i64 x, .int .i64 y, .int .i64 z]] w fun e w' => e = .returned (.bool false) ∧ Below w.heap.size w w' := by
  have C := fun w => Lib.hid (specPredValid_yes p w hp)
  have V := fun w => Lib.hid (specStateValid x y z w)
  rw [h] at V
  clear h
  go_enter Try.func12, Try.ntmps12
  go_wp2_with fail
  have HT0 := Lib.hid (Blk.new w #[.int .i64 x, .int .i64 y, .int .i64 z] 26)
  have HB0 := Lib.hid ((Below.refl _ w).alloc (Nat.le_refl _) (.cells #[.int .i64 x, .int .i64 y, .int .i64 z] 26))
  generalize w.alloc (.cells #[.int .i64 x, .int .i64 y, .int .i64 z] 26) = w0 at *
  refine (C _).out.mono ?_
  rintro e w' ⟨rfl, rfl⟩
  obtain ⟨q0, q1, q2⟩ := HT0.out.c3
  go_wp2_with fail
  clear q0 q1 q2
  refine (V _).out.mono ?_
  rintro e w1 ⟨rfl, hb⟩
  have HB1 := Lib.hid (bnext HB0.out hb)
  clear hb
  go_wp2_with fail
  go_ret
  exact ⟨rfl, HB1.out⟩
set_option maxHeartbeats 1000000 in
theorem specHasS_no (p : ByteArray) (x y z : Int) (w : World) (hp : ¬ Set27 p) (hm : p.size ≤ maxLen) : Calls Try.prog 12 #[.string p, .agg #[.int .i64 x, .int .i64 y, .int .i64 z]] w fun e w' => e = .returned (.bool false) ∧ Below w.heap.size w w' := by
  have C := fun w => Lib.hid (specPredValid_no p w hp hm)
  clear hp
  go_enter Try.func12, Try.ntmps12
  go_wp2_with fail
  refine (C _).out.mono ?_
  rintro e w' ⟨rfl, rfl⟩
  go_wp2_with fail
  go_ret
  exact ⟨rfl, (Below.refl _ _).alloc (Nat.le_refl _) _⟩
end Go.Proofs.Ytbicokobbpmgnaa
