/-
  spec.l1Fold: the expression that begins at an index with what has no variables computed.
-/
import Derived.Test.YtpdepihggpfmiaaDoorFold
import Derived.Test.YtpdepihggpfmiaaDoorShowS
import Derived.Test.YtpdepihggpfmiaaDoorSpecVars
import Derived.Test.YtpdepihggpfmiaaDoorDec
namespace Go.Proofs.YtpdepihggpfmiaaDoor
open Go.RowKit Tm

theorem dec_any (n : Int) (h0 : 0 ≤ n) (h2 : n ≤ 2) (w : World) : Calls Tryd.prog 66 #[.int .i64 n] w fun e w' => e = .returned (.string (bs [dl n])) ∧ Below w.heap.size w w' := by
  have h : n = 0 ∨ n = 1 ∨ n = 2 := by omega
  rcases h with rfl | rfl | rfl
  · exact dec_0 w
  · exact dec_1 w
  · exact dec_2 w

set_option maxHeartbeats 2000000 in
theorem spf_leaf (s : ByteArray) (a : Nat) (w : World) (hs : s.size ≤ 1000000) (ha : a < s.size) (hc : ¬ isOpB s[a] = true) :
    Calls Tryd.prog 52 #[.string s, .int .i64 a] w fun e w' => e = .returned (.tuple #[.string (bs [s[a]]), .int .i64 (a + 1)]) ∧ Below w.heap.size w w' := by
  have h0 : (0 : Int) ≤ (a : Int) := by omega
  have h1 : (a : Int) < (s.size : Int) := by omega
  have K := fun w => Lib.hid (op_find s[a] (-1) w (fnd_no (fun h => hc ((op_fnd s[a]).1 h))))
  have X := Lib.hid (extract_one s a ha)
  clear hc
  go_enter Tryd.func52, Tryd.ntmps52
  go_wp2_with fail
  refine (K _).out.mono ?_
  rintro e' w' ⟨rfl, rfl⟩
  go_wp2_with fail
  go_ret2
  exact ⟨by rw [← X.out]; rfl, Below.refl _ _⟩

set_option maxHeartbeats 4000000 in
theorem spf_long1 (s s1 s2 : ByteArray) (a n1 n2 : Nat) (w : World) (hs : s.size ≤ 1000000) (ha : a < s.size) (hc : isOpB s[a] = true) (hs1 : s1.size ≤ 1000000) (hs2 : s2.size ≤ 1000000) (hz : s1.size ≠ 1)
    (c1 : ∀ w, Calls Tryd.prog 52 #[.string s, .int .i64 (a + 1)] w fun e' w' => e' = .returned (.tuple #[.string s1, .int .i64 n1]) ∧ Below w.heap.size w w')
    (c2 : ∀ w, Calls Tryd.prog 52 #[.string s, .int .i64 n1] w fun e' w' => e' = .returned (.tuple #[.string s2, .int .i64 n2]) ∧ Below w.heap.size w w') :
    Calls Tryd.prog 52 #[.string s, .int .i64 a] w fun e w' => e = .returned (.tuple #[.string (bs [s[a]] ++ s1 ++ s2), .int .i64 n2]) ∧ Below w.heap.size w w' := by
  have h0 : (0 : Int) ≤ (a : Int) := by omega
  have h1 : (a : Int) < (s.size : Int) := by omega
  obtain ⟨n, hn⟩ := fnd_yes ((op_fnd s[a]).2 hc)
  have hn0 : (0 : Int) ≤ (n : Int) := by omega
  have K := fun w => Lib.hid (op_find s[a] n w hn)
  have X := Lib.hid (extract_one s a ha)
  have C1 := Lib.hid c1
  have C2 := Lib.hid c2
  have z1 : ((s1.size : Int) == 1) = false := by rw [beq_eq_false_iff_ne]; omega
  clear hc hn c1 c2 hz
  go_enter Tryd.func52, Tryd.ntmps52
  go_wp2_with fail
  refine (K _).out.mono ?_
  rintro e' w' ⟨rfl, rfl⟩
  go_wp2_with fail
  refine (C1.out _).mono ?_
  rintro e' w1 ⟨rfl, hb⟩
  have HB := Lib.hid hb
  clear hb
  go_wp2_with fail
  refine (C2.out _).mono ?_
  rintro e' w2 ⟨rfl, hb⟩
  have HB2 := Lib.hid (HB.out.trans (hb.mono HB.out.size))
  clear hb
  go_wp2_with fail
  go_ret2
  exact ⟨by rw [← X.out]; rfl, HB2.out⟩

set_option maxHeartbeats 4000000 in
theorem spf_long2 (s s1 s2 : ByteArray) (a n1 n2 : Nat) (w : World) (hs : s.size ≤ 1000000) (ha : a < s.size) (hc : isOpB s[a] = true) (hs1 : s1.size ≤ 1000000) (hs2 : s2.size ≤ 1000000) (hy : s1.size = 1) (hz : s2.size ≠ 1)
    (c1 : ∀ w, Calls Tryd.prog 52 #[.string s, .int .i64 (a + 1)] w fun e' w' => e' = .returned (.tuple #[.string s1, .int .i64 n1]) ∧ Below w.heap.size w w')
    (c2 : ∀ w, Calls Tryd.prog 52 #[.string s, .int .i64 n1] w fun e' w' => e' = .returned (.tuple #[.string s2, .int .i64 n2]) ∧ Below w.heap.size w w') :
    Calls Tryd.prog 52 #[.string s, .int .i64 a] w fun e w' => e = .returned (.tuple #[.string (bs [s[a]] ++ s1 ++ s2), .int .i64 n2]) ∧ Below w.heap.size w w' := by
  have h0 : (0 : Int) ≤ (a : Int) := by omega
  have h1 : (a : Int) < (s.size : Int) := by omega
  obtain ⟨n, hn⟩ := fnd_yes ((op_fnd s[a]).2 hc)
  have hn0 : (0 : Int) ≤ (n : Int) := by omega
  have K := fun w => Lib.hid (op_find s[a] n w hn)
  have X := Lib.hid (extract_one s a ha)
  have C1 := Lib.hid c1
  have C2 := Lib.hid c2
  have z0 : ((s1.size : Int) == 1) = true := by rw [beq_iff_eq]; omega
  have z1 : ((s2.size : Int) == 1) = false := by rw [beq_eq_false_iff_ne]; omega
  clear hc hn c1 c2 hz hy
  go_enter Tryd.func52, Tryd.ntmps52
  go_wp2_with fail
  refine (K _).out.mono ?_
  rintro e' w' ⟨rfl, rfl⟩
  go_wp2_with fail
  refine (C1.out _).mono ?_
  rintro e' w1 ⟨rfl, hb⟩
  have HB := Lib.hid hb
  clear hb
  go_wp2_with fail
  refine (C2.out _).mono ?_
  rintro e' w2 ⟨rfl, hb⟩
  have HB2 := Lib.hid (HB.out.trans (hb.mono HB.out.size))
  clear hb
  go_wp2_with fail
  go_ret2
  exact ⟨by rw [← X.out]; rfl, HB2.out⟩

theorem app2 (x y : UInt8) : (bs [x] ++ bs [y]).data.toList = [x, y] := by rw [bs_append]; rfl
theorem vlist_D (x y : UInt8) (hx : x = 48 ∨ x = 49 ∨ x = 50) (hy : y = 48 ∨ y = 49 ∨ y = 50) : vlist (nm true).data.toList [x, y] = [] := by
  rcases hx with rfl | rfl | rfl <;> rcases hy with rfl | rfl | rfl <;> rfl
theorem vlist_V (x y : UInt8) (hx : (isVarB false x || isDigB x) = true) (hy : (isVarB false y || isDigB y) = true) (h : (isDigB x && isDigB y) = false) : ∃ c l, vlist (nm true).data.toList [x, y] = c :: l := by
  rcases leaf_cases hx with rfl | rfl | rfl | rfl | rfl | rfl <;> rcases leaf_cases hy with rfl | rfl | rfl | rfl | rfl | rfl <;> first | exact ⟨_, _, rfl⟩ | (exact absurd h (by decide))

set_option maxHeartbeats 4000000 in
theorem spf_V (s : ByteArray) (x y : UInt8) (a n1 n2 : Nat) (w : World) (hs : s.size ≤ 1000000) (ha : a < s.size) (hc : isOpB s[a] = true) (hx : (isVarB false x || isDigB x) = true) (hy : (isVarB false y || isDigB y) = true) (h : (isDigB x && isDigB y) = false) (s1 s2 : ByteArray) (e1 : s1 = bs [x]) (e2 : s2 = bs [y])
    (c1 : ∀ w, Calls Tryd.prog 52 #[.string s, .int .i64 (a + 1)] w fun e' w' => e' = .returned (.tuple #[.string s1, .int .i64 n1]) ∧ Below w.heap.size w w')
    (c2 : ∀ w, Calls Tryd.prog 52 #[.string s, .int .i64 n1] w fun e' w' => e' = .returned (.tuple #[.string s2, .int .i64 n2]) ∧ Below w.heap.size w w') :
    Calls Tryd.prog 52 #[.string s, .int .i64 a] w fun e w' => e = .returned (.tuple #[.string (bs [s[a]] ++ s1 ++ s2), .int .i64 n2]) ∧ Below w.heap.size w w' := by
  have h0 : (0 : Int) ≤ (a : Int) := by omega
  have h1 : (a : Int) < (s.size : Int) := by omega
  obtain ⟨n, hn⟩ := fnd_yes ((op_fnd s[a]).2 hc)
  have hn0 : (0 : Int) ≤ (n : Int) := by omega
  have K := fun w => Lib.hid (op_find s[a] n w hn)
  have X := Lib.hid (extract_one s a ha)
  have C1 := Lib.hid c1
  have C2 := Lib.hid c2
  obtain ⟨c, l, hcl⟩ := vlist_V x y hx hy h
  have V : Hid (∀ w, Calls Tryd.prog 47 #[.string (s1 ++ s2), .bool true] w fun e w' => e = .returned (.string (bs (c :: l))) ∧ w' = w) := fun w => by
    have h := specVars true (s1 ++ s2) w (by rw [e1, e2, bs_append, bs_size]; simp [maxLen])
    rw [show (s1 ++ s2).data.toList = [x, y] by rw [e1, e2]; exact app2 x y, hcl] at h
    exact h
  have y1 : (s1.size : Int) = 1 := by rw [e1, bs_size]; rfl
  have y2 : (s2.size : Int) = 1 := by rw [e2, bs_size]; rfl
  have z0 : ((s1.size : Int) == 1) = true := by rw [beq_iff_eq]; omega
  have z1 : ((s2.size : Int) == 1) = true := by rw [beq_iff_eq]; omega
  have hs1 : s1.size ≤ 1000000 := by omega
  have hs2 : s2.size ≤ 1000000 := by omega
  have R0 : (bs (c :: l)).toList.isEmpty = false := by simp [bs]
  clear hc hn c1 c2 e1 e2 hcl y1 y2 hx hy h
  go_enter Tryd.func52, Tryd.ntmps52
  go_wp2_with fail
  refine (K _).out.mono ?_
  rintro e' w' ⟨rfl, rfl⟩
  go_wp2_with fail
  refine (C1.out _).mono ?_
  rintro e' w1 ⟨rfl, hb⟩
  have HB := Lib.hid hb
  clear hb
  go_wp2_with fail
  refine (C2.out _).mono ?_
  rintro e' w2 ⟨rfl, hb⟩
  have HB2 := Lib.hid (HB.out.trans (hb.mono HB.out.size))
  clear hb
  go_wp2_with fail
  refine (V.out _).mono ?_
  rintro e' w' ⟨rfl, rfl⟩
  go_wp2_with fail
  go_ret2
  exact ⟨by rw [← X.out]; rfl, HB2.out⟩

theorem val_dig (c x y : UInt8) (hx : x = 48 ∨ x = 49 ∨ x = 50) (hy : y = 48 ∨ y = 49 ∨ y = 50) : val (fun _ => 0) (.bin c (.leaf x) (.leaf y)) = cmp3 c (x.toNat - 48) (y.toNat - 48) := by
  rcases hx with rfl | rfl | rfl <;> rcases hy with rfl | rfl | rfl <;> rfl

set_option maxHeartbeats 4000000 in
theorem spf_D (s : ByteArray) (x y : UInt8) (a n1 n2 : Nat) (w : World) (hs : s.size ≤ 1000000) (ha : a < s.size) (hc : isOpB s[a] = true) (hx : x = 48 ∨ x = 49 ∨ x = 50) (hy : y = 48 ∨ y = 49 ∨ y = 50) (s1 s2 : ByteArray) (e1 : s1 = bs [x]) (e2 : s2 = bs [y])
    (c1 : ∀ w, Calls Tryd.prog 52 #[.string s, .int .i64 (a + 1)] w fun e' w' => e' = .returned (.tuple #[.string s1, .int .i64 n1]) ∧ Below w.heap.size w w')
    (c2 : ∀ w, Calls Tryd.prog 52 #[.string s, .int .i64 n1] w fun e' w' => e' = .returned (.tuple #[.string s2, .int .i64 n2]) ∧ Below w.heap.size w w') :
    Calls Tryd.prog 52 #[.string s, .int .i64 a] w fun e w' => e = .returned (.tuple #[.string (bs [dl (cmp3 s[a] (x.toNat - 48) (y.toNat - 48))]), .int .i64 n2]) ∧ Below w.heap.size w w' := by
  have h0 : (0 : Int) ≤ (a : Int) := by omega
  have h1 : (a : Int) < (s.size : Int) := by omega
  obtain ⟨n, hn⟩ := fnd_yes ((op_fnd s[a]).2 hc)
  have hn0 : (0 : Int) ≤ (n : Int) := by omega
  have K := fun w => Lib.hid (op_find s[a] n w hn)
  have X := Lib.hid (extract_one s a ha)
  have C1 := Lib.hid c1
  have C2 := Lib.hid c2
  have V : Hid (∀ w, Calls Tryd.prog 47 #[.string (s1 ++ s2), .bool true] w fun e w' => e = .returned (.string ⟨#[]⟩) ∧ w' = w) := fun w => by
    have h := specVars true (s1 ++ s2) w (by rw [e1, e2, bs_append, bs_size]; simp [maxLen])
    rw [show (s1 ++ s2).data.toList = [x, y] by rw [e1, e2]; exact app2 x y, vlist_D x y hx hy] at h
    exact h
  have bx : 48 ≤ x.toNat ∧ x.toNat ≤ 50 := by rcases hx with rfl | rfl | rfl <;> decide
  have by_ : 48 ≤ y.toNat ∧ y.toNat ≤ 50 := by rcases hy with rfl | rfl | rfl <;> decide
  have hv := cmp3_bd s[a] (a := (x.toNat : Int) - 48) (b := (y.toNat : Int) - 48) (by omega) (by omega)
  have L : Hid (∀ w, Calls Tryd.prog 41 #[.string (s.extract a (a + 1) ++ s1 ++ s2), .int .i64 0, .agg #[.int .i64 0, .int .i64 0, .int .i64 0, .int .i64 0, .int .i64 0, .int .i64 0]] w fun e w' => e = .returned (.tuple #[.int .i64 (cmp3 s[a] (x.toNat - 48) (y.toNat - 48)), .int .i64 3]) ∧ Below w.heap.size w w') := fun w => by
    have hd : (isVarB true x || isDigB x) = true ∧ (isVarB true y || isDigB y) = true := by rcases hx with rfl | rfl | rfl <;> rcases hy with rfl | rfl | rfl <;> decide
    have ht : Ok true false (.bin s[a] (.leaf x) (.leaf y)) := by
      refine ⟨false, false, ?_, ?_, ?_⟩
      · rw [opk_e, if_neg, if_pos hc]
        rcases op_cases hc with h | h | h <;> rw [h] <;> decide
      · simp only [Ok, opk_e]; rw [if_pos hd.1]
      · simp only [Ok, opk_e]; rw [if_pos hd.2]
    have h := spv_any (fun _ => 0) (fun _ => by decide) (s.extract a (a + 1) ++ s1 ++ s2) (by rw [X.out, e1, e2, bs_append, bs_append, bs_size]; simp) (.bin s[a] (.leaf x) (.leaf y)) 0 [] w ht (by rw [X.out, e1, e2, bs_append, bs_append]; rfl)
    rw [val_dig s[a] x y hx hy] at h
    exact h
  have y1 : (s1.size : Int) = 1 := by rw [e1, bs_size]; rfl
  have y2 : (s2.size : Int) = 1 := by rw [e2, bs_size]; rfl
  have z0 : ((s1.size : Int) == 1) = true := by rw [beq_iff_eq]; omega
  have z1 : ((s2.size : Int) == 1) = true := by rw [beq_iff_eq]; omega
  have hs1 : s1.size ≤ 1000000 := by omega
  have hs2 : s2.size ≤ 1000000 := by omega
  have HV := Lib.hid hv
  clear hc hn c1 c2 e1 e2 y1 y2 hx hy hv
  go_enter Tryd.func52, Tryd.ntmps52
  go_wp2_with fail
  refine (K _).out.mono ?_
  rintro e' w' ⟨rfl, rfl⟩
  go_wp2_with fail
  refine (C1.out _).mono ?_
  rintro e' w1 ⟨rfl, hb⟩
  have HB := Lib.hid hb
  clear hb
  go_wp2_with fail
  refine (C2.out _).mono ?_
  rintro e' w2 ⟨rfl, hb⟩
  have HB2 := Lib.hid (HB.out.trans (hb.mono HB.out.size))
  clear hb
  go_wp2_with fail
  refine (V.out _).mono ?_
  rintro e' w' ⟨rfl, rfl⟩
  go_wp2_with fail
  refine (L.out _).mono ?_
  rintro e' w3 ⟨rfl, hb⟩
  have HB3 := Lib.hid (HB2.out.trans (hb.mono HB2.out.size))
  clear hb
  go_wp2_with fail
  refine (dec_any _ HV.out.1 HV.out.2 _).mono ?_
  rintro e' w4 ⟨rfl, hb⟩
  have HB4 := Lib.hid (HB3.out.trans (hb.mono HB3.out.size))
  clear hb
  go_wp2_with fail
  go_ret2
  exact ⟨rfl, HB4.out⟩
end Go.Proofs.YtpdepihggpfmiaaDoor
