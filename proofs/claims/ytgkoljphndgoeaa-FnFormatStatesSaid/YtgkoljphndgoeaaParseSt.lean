/-
  ParseState of the program and of the model.
-/
import Derived.Test.YtgkoljphndgoeaaStIx
import Derived.IntWalk
namespace Go.Proofs.Ytgkoljphndgoeaa
open Go.RowKit

/-- The text of the state with a number. -/
def txtAt (i : Int) : ByteArray := txt3 (ax i) (ay i) (az i)
def IsTxt (t : ByteArray) : Prop := ∃ i : Nat, i < 27 ∧ t = txtAt i

theorem dgt_inj {a b : Int} (ha : val3 a = true) (hb : val3 b = true) (h : dgt a = dgt b) : a = b := by
  have h1 := val3_bd ha
  have h2 := val3_bd hb
  have e1 : a = 0 ∨ a = 1 ∨ a = 2 := by omega
  have e2 : b = 0 ∨ b = 1 ∨ b = 2 := by omega
  rcases e1 with rfl | rfl | rfl <;> rcases e2 with rfl | rfl | rfl <;> first | rfl | (exact absurd h (by decide))

theorem txt3_inj {x y z x' y' z' : Int} (h : st3 x y z = true) (h' : st3 x' y' z' = true) (e : txt3 x y z = txt3 x' y' z') : x = x' ∧ y = y' ∧ z = z' := by
  unfold st3 at h h'
  simp only [Bool.and_eq_true] at h h'
  have e2 := congrArg (fun b : ByteArray => b.data.toList) e
  simp [txt3, bs] at e2
  exact ⟨dgt_inj h.1.1 h'.1.1 e2.1, dgt_inj h.1.2 h'.1.2 e2.2.1, dgt_inj h.2 h'.2 e2.2.2⟩

theorem txtAt_inj {i j : Nat} (hi : i < 27) (hj : j < 27) (e : txtAt i = txtAt j) : i = j := by
  obtain ⟨h1, h2, h3⟩ := txt3_inj (at_st3 (i := (i : Int)) (by omega) (by omega)) (at_st3 (i := (j : Int)) (by omega) (by omega)) e
  have a := at_ix (i : Int)
  have b := at_ix (j : Int)
  rw [h1, h2, h3] at a
  omega

theorem istxt_cases {t : ByteArray} (h : t.size = 3) : ∃ a b c : UInt8, t = bs [a, b, c] := by
  obtain ⟨⟨l⟩⟩ := t
  match l, h with
  | [a, b, c], _ => exact ⟨a, b, c, rfl⟩

set_option maxHeartbeats 1000000 in
theorem implParse_len (t : ByteArray) (w : World) (h : t.size ≠ 3) : Calls Try.prog 10 #[.string t] w fun e w' => e = .returned (.tuple #[.agg #[.int .i64 0, .int .i64 0, .int .i64 0], .bool false]) ∧ Below w.heap.size w w' := by
  have hs : ((t.size : Int) == 3) = false := by rw [beq_eq_false_iff_ne]; omega
  have hs2 : ((t.size : Int) != 3) = true := by rw [bne_iff_ne]; omega
  clear h
  go_enter Try.func10, Try.ntmps10
  go_wp2_with fail
  exact bodyPost_ret (v := .tuple #[.agg #[.int .i64 0, .int .i64 0, .int .i64 0], .bool false]) (by simp [results, Try.results10, go_sem]) rfl ⟨rfl, (Below.refl _ _).alloc (Nat.le_refl _) _⟩

theorem wb (a b : UInt8) (h : b = a) : wrap64 (wrap64 (b.toNat : Int) - 48) = (a.toNat : Int) - 48 := by
  subst h
  have := b.toNat_lt
  unfold wrap64
  omega

set_option maxRecDepth 100000 in
set_option maxHeartbeats 1000000 in
theorem implParse_3 (a b c : UInt8) (w : World) (v : Bool) (h : st3 ((a.toNat : Int) - 48) ((b.toNat : Int) - 48) ((c.toNat : Int) - 48) = v) : Calls Try.prog 10 #[.string (bs [a, b, c])] w fun e w' =>
    e = .returned (.tuple #[if v then .agg #[.int .i64 ((a.toNat : Int) - 48), .int .i64 ((b.toNat : Int) - 48), .int .i64 ((c.toNat : Int) - 48)] else .agg #[.int .i64 0, .int .i64 0, .int .i64 0], .bool v]) ∧ Below w.heap.size w w' := by
  have C := fun w => Lib.hid (implStateValid ((a.toNat : Int) - 48) ((b.toNat : Int) - 48) ((c.toNat : Int) - 48) w)
  rw [h] at C
  clear h
  have a0 : (0 : Int) ≤ (a.toNat : Int) := by omega
  have b0 : (0 : Int) ≤ (b.toNat : Int) := by omega
  have c0 : (0 : Int) ≤ (c.toNat : Int) := by omega
  have a1 : (a.toNat : Int) < 256 := by have := a.toNat_lt; omega
  have b1 : (b.toNat : Int) < 256 := by have := b.toNat_lt; omega
  have c1 : (c.toNat : Int) < 256 := by have := c.toNat_lt; omega
  have G0 := Lib.hid (wb a ((ByteArray.mk #[a, b, c])[0]'(by show 0 < 3; omega)) rfl)
  have G1 := Lib.hid (wb b ((ByteArray.mk #[a, b, c])[1]'(by show 1 < 3; omega)) rfl)
  have G2 := Lib.hid (wb c ((ByteArray.mk #[a, b, c])[2]'(by show 2 < 3; omega)) rfl)
  unfold bs
  go_enter Try.func10, Try.ntmps10
  go_wp2_with fail
  go_region
  go_wp2_with fail
  rw [G0.out, G1.out, G2.out]
  have t1 := (Blk.new w #[.int .i64 0, .int .i64 0, .int .i64 0] 28).alloc (.cells #[.int .i64 ((a.toNat : Int) - 48), .int .i64 ((b.toNat : Int) - 48), .int .i64 ((c.toNat : Int) - 48)] 28)
  have t2 := Blk.new (w.alloc (.cells #[.int .i64 0, .int .i64 0, .int .i64 0] 28)) #[.int .i64 ((a.toNat : Int) - 48), .int .i64 ((b.toNat : Int) - 48), .int .i64 ((c.toNat : Int) - 48)] 28
  have hB := ((Below.refl _ w).alloc (Nat.le_refl _) (.cells #[.int .i64 0, .int .i64 0, .int .i64 0] 28)).alloc (by simp) (.cells #[.int .i64 ((a.toNat : Int) - 48), .int .i64 ((b.toNat : Int) - 48), .int .i64 ((c.toNat : Int) - 48)] 28)
  rw [show (w.alloc (.cells #[.int .i64 0, .int .i64 0, .int .i64 0] 28)).heap.size = w.heap.size + 1 by simp] at t2
  generalize (w.alloc (.cells #[.int .i64 0, .int .i64 0, .int .i64 0] 28)).alloc (.cells #[.int .i64 ((a.toNat : Int) - 48), .int .i64 ((b.toNat : Int) - 48), .int .i64 ((c.toNat : Int) - 48)] 28) = W0 at *
  cases v
  · refine (C _).out.mono ?_
    rintro e w1 ⟨rfl, hb⟩
    have hb1 := bnext hB.drew hb
    have t3 := t1.drew.kept hb
    have HB := Lib.hid hb1
    obtain ⟨q0, q1, q2, f0, f1, f2⟩ := t3.a3
    clear hb hb1 hB t1 t2 t3
    go_wp2_with fail
    exact bodyPost_ret (v := .tuple #[.agg #[.int .i64 0, .int .i64 0, .int .i64 0], .bool false]) (by simp [results, Try.results10, go_sem, q0, q1, q2]) rfl ⟨rfl, by (repeat refine Below.setCell ?_ (by simp) _); exact HB.out⟩
  · refine (C _).out.mono ?_
    rintro e w1 ⟨rfl, hb⟩
    have hb1 := bnext hB.drew hb
    have t3 := t1.drew.kept hb
    have t4 := t2.drew.kept hb
    have HB := Lib.hid hb1
    obtain ⟨q0, q1, q2, f0, f1, f2⟩ := t3.a3
    obtain ⟨r0, r1, r2⟩ := t4.c3
    clear hb hb1 hB t1 t2 t3 t4
    go_wp2_with fail
    exact bodyPost_ret (v := .tuple #[.agg #[.int .i64 ((a.toNat : Int) - 48), .int .i64 ((b.toNat : Int) - 48), .int .i64 ((c.toNat : Int) - 48)], .bool true]) (by simp [results, Try.results10, go_sem, q0, q1, q2]) rfl ⟨rfl, by (repeat refine Below.setCell ?_ (by simp) _); exact HB.out⟩

theorem dgt_of {a : UInt8} (h : val3 ((a.toNat : Int) - 48) = true) : a = dgt ((a.toNat : Int) - 48) := by
  have hb := val3_bd h
  have h3 : a.toNat = 48 ∨ a.toNat = 49 ∨ a.toNat = 50 := by omega
  rcases h3 with h3 | h3 | h3
  · obtain rfl : a = 48 := UInt8.toNat_inj.1 h3
    rfl
  · obtain rfl : a = 49 := UInt8.toNat_inj.1 h3
    rfl
  · obtain rfl : a = 50 := UInt8.toNat_inj.1 h3
    rfl
theorem of_dgt {n : Int} (h : val3 n = true) : ((dgt n).toNat : Int) - 48 = n := by
  have hb := val3_bd h
  have h3 : n = 0 ∨ n = 1 ∨ n = 2 := by omega
  rcases h3 with rfl | rfl | rfl <;> rfl

theorem implParse_yes (i : Nat) (hi : i < 27) (w : World) : Calls Try.prog 10 #[.string (txtAt i)] w fun e w' => e = .returned (.tuple #[.agg #[.int .i64 (ax i), .int .i64 (ay i), .int .i64 (az i)], .bool true]) ∧ Below w.heap.size w w' := by
  have h := at_st3 (i := (i : Int)) (by omega) (by omega)
  have h2 := h
  unfold st3 at h2
  simp only [Bool.and_eq_true] at h2
  have e0 := of_dgt h2.1.1; have e1 := of_dgt h2.1.2; have e2 := of_dgt h2.2
  have k := implParse_3 (dgt (ax i)) (dgt (ay i)) (dgt (az i)) w true (by rw [e0, e1, e2]; exact h)
  rw [e0, e1, e2] at k
  exact k

theorem implParse_no (t : ByteArray) (h : ¬ IsTxt t) (w : World) : Calls Try.prog 10 #[.string t] w fun e w' => e = .returned (.tuple #[.agg #[.int .i64 0, .int .i64 0, .int .i64 0], .bool false]) ∧ Below w.heap.size w w' := by
  by_cases hs : t.size = 3
  · obtain ⟨a, b, c, rfl⟩ := istxt_cases hs
    refine implParse_3 a b c w false ?_
    cases hv : st3 ((a.toNat : Int) - 48) ((b.toNat : Int) - 48) ((c.toNat : Int) - 48)
    · rfl
    · refine absurd ?_ h
      have bd := st3_lt hv
      have hx := ix_at hv
      refine ⟨(((a.toNat : Int) - 48) + 3 * ((b.toNat : Int) - 48) + 9 * ((c.toNat : Int) - 48)).toNat, by omega, ?_⟩
      rw [txtAt, Int.toNat_of_nonneg (by omega), hx.1, hx.2.1, hx.2.2, txt3]
      unfold st3 at hv
      simp only [Bool.and_eq_true] at hv
      rw [← dgt_of hv.1.1, ← dgt_of hv.1.2, ← dgt_of hv.2]
  · exact implParse_len t w hs

end Go.Proofs.Ytgkoljphndgoeaa
