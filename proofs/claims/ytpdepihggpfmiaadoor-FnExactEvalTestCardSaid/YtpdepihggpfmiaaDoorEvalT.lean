/-
  EvalTest, of the program and of the model: the truth and true where the text is a test and the state is valid; false and false elsewhere.
-/
import Derived.Test.YtpdepihggpfmiaaDoorHolds
import Derived.Test.YtpdepihggpfmiaaDoorEvalE
namespace Go.Proofs.YtpdepihggpfmiaaDoor
open Go.RowKit Tm

theorem holds_any (E : Nat → Int) (he : ∀ i, 0 ≤ E i ∧ E i ≤ 2) : ∀ (t : Tm) (B : Nat) (x y : Value) (w : World), Ok true true t → RepT w B t x y →
    Calls Tryd.prog 46 #[.agg #[x, y], .agg #[.int .i64 (E 0), .int .i64 (E 1), .int .i64 (E 2), .int .i64 (E 3), .int .i64 (E 4), .int .i64 (E 5)]] w fun e w' => e = .returned (.bool (tru E t)) ∧ Below w.heap.size w w' := by
  intro t
  induction t with
  | leaf c =>
    intro B x y w ht hr
    obtain ⟨rfl, a, n, rfl⟩ := hr
    rcases ok_test ht with ⟨c', e1, hc⟩ | ⟨_, e1, _⟩ | ⟨_, _, _, e1, _⟩ | ⟨_, _, _, e1, _⟩
    · cases e1; exact holds_leaf c E w hc a n
    · cases e1
    · cases e1
    · cases e1
  | un c a iha =>
    intro B x y w ht hr
    rcases ok_test ht with ⟨c', e1, hc⟩ | ⟨_, e1, oa⟩ | ⟨_, _, _, e1, _⟩ | ⟨_, _, _, e1, _⟩
    · cases e1
    · cases e1
      obtain ⟨rfl, b, n, x1, y1, rfl, _, k0, k1, r1⟩ := hr
      obtain ⟨z1, p1, m1, n1, rfl, rfl⟩ := r1.forms
      exact holds_not 33 _ E w rfl b n z1 p1 m1 n1 k0 k1 (fun w' h => iha B _ _ w' oa (r1.below h))
    · cases e1
    · cases e1
  | bin c a d iha ihd =>
    intro B x y w ht hr
    rcases ok_test ht with ⟨c', e1, hc⟩ | ⟨_, e1, _⟩ | ⟨_, _, _, e1, hc, oa, od⟩ | ⟨_, _, _, e1, hc, oa, od⟩
    · cases e1
    · cases e1
    · cases e1
      obtain ⟨rfl, b, n, x1, y1, x2, y2, rfl, _, k0, k1, k2, k3, r1, r2⟩ := hr
      obtain ⟨z1, p1, m1, n1, rfl, rfl⟩ := r1.forms
      obtain ⟨z2, p2, m2, n2, rfl, rfl⟩ := r2.forms
      have e2 : tru E (.bin c a d) = if c = 61 then val E a == val E d else decide (val E a < val E d) := by
        rcases hc with rfl | rfl <;> rfl
      rw [e2]
      exact holds_cmp c _ _ E w hc b n z1 z2 p1 p2 m1 m2 n1 n2 k0 k1 k2 k3 (fun w' h => value_any E he a B _ _ w' oa (r1.below h)) (fun w' h => value_any E he d B _ _ w' od (r2.below h))
    · cases e1
      obtain ⟨rfl, b, n, x1, y1, x2, y2, rfl, _, k0, k1, k2, k3, r1, r2⟩ := hr
      obtain ⟨z1, p1, m1, n1, rfl, rfl⟩ := r1.forms
      obtain ⟨z2, p2, m2, n2, rfl, rfl⟩ := r2.forms
      have c1 : ∀ w', Below w.heap.size w w' → _ := fun w' h => iha B _ _ w' oa (r1.below h)
      have c2 : ∀ w', Below w.heap.size w w' → _ := fun w' h => ihd B _ _ w' od (r2.below h)
      rcases hc with rfl | rfl
      · have e2 : tru E (.bin 38 a d) = (tru E a && tru E d) := rfl
        rw [e2]
        cases hv : tru E a
        · rw [hv] at c1
          exact holds_andF 38 false E w rfl b n z1 z2 p1 p2 m1 m2 n1 n2 k0 k1 k2 k3 rfl c1
        · rw [hv] at c1
          exact holds_andT 38 true _ E w rfl b n z1 z2 p1 p2 m1 m2 n1 n2 k0 k1 k2 k3 rfl c1 c2
      · have e2 : tru E (.bin 124 a d) = (tru E a || tru E d) := rfl
        rw [e2]
        cases hv : tru E a
        · rw [hv] at c1
          exact holds_orF 124 false _ E w rfl b n z1 z2 p1 p2 m1 m2 n1 n2 k0 k1 k2 k3 rfl c1 c2
        · rw [hv] at c1
          exact holds_orT 124 true E w rfl b n z1 z2 p1 p2 m1 m2 n1 n2 k0 k1 k2 k3 rfl c1

set_option maxHeartbeats 2000000 in
theorem sph_leaf (e : Nat → Int) (s : ByteArray) (a : Nat) (w : World) (hs : s.size ≤ 1000000) (ha : a < s.size) (hc : s[a] = 116 ∨ s[a] = 102) :
    Calls Tryd.prog 45 #[.string s, .int .i64 a, envV e] w fun e' w' => e' = .returned (.tuple #[.bool (s[a] == 116), .int .i64 (a + 1)]) ∧ Below w.heap.size w w' := by
  have h0 : (0 : Int) ≤ (a : Int) := by omega
  have h1 : (a : Int) < (s.size : Int) := by omega
  unfold envV
  rcases hc with hc | hc
  · have hcn : s[a].toNat = 116 := by rw [hc]; rfl
    have V : Hid ((s[a] == 116) = true) := by rw [hc]; rfl
    clear hc
    go_enter Tryd.func45, Tryd.ntmps45
    go_wp2_with fail
    go_ret2
    exact ⟨by rw [V.out]; rfl, (Below.refl _ _).alloc (Nat.le_refl _) _⟩
  · have hcn : s[a].toNat = 102 := by rw [hc]; rfl
    have V : Hid ((s[a] == 116) = false) := by rw [hc]; rfl
    clear hc
    go_enter Tryd.func45, Tryd.ntmps45
    go_wp2_with fail
    go_ret2
    exact ⟨by rw [V.out]; rfl, (Below.refl _ _).alloc (Nat.le_refl _) _⟩

set_option maxRecDepth 100000 in
set_option maxHeartbeats 4000000 in
theorem sph_cmp (e : Nat → Int) (s : ByteArray) (a n1 n2 : Nat) (va vb : Int) (w : World) (hs : s.size ≤ 1000000) (ha : a < s.size) (r : Bool) (hr : (if s[a] = 61 then va == vb else decide (va < vb)) = r) (hc : s[a] = 61 ∨ s[a] = 60)
    (c1 : ∀ w, Calls Tryd.prog 41 #[.string s, .int .i64 (a + 1), envV e] w fun e' w' => e' = .returned (.tuple #[.int .i64 va, .int .i64 n1]) ∧ Below w.heap.size w w')
    (c2 : ∀ w, Calls Tryd.prog 41 #[.string s, .int .i64 n1, envV e] w fun e' w' => e' = .returned (.tuple #[.int .i64 vb, .int .i64 n2]) ∧ Below w.heap.size w w') :
    Calls Tryd.prog 45 #[.string s, .int .i64 a, envV e] w fun e' w' => e' = .returned (.tuple #[.bool r, .int .i64 n2]) ∧ Below w.heap.size w w' := by
  have h0 : (0 : Int) ≤ (a : Int) := by omega
  have h1 : (a : Int) < (s.size : Int) := by omega
  have C1 := Lib.hid c1
  have C2 := Lib.hid c2
  have HR := Lib.hid hr
  clear c1 c2 hr
  unfold envV at *
  rcases hc with hc | hc
  · have hcn : s[a].toNat = 61 := by rw [hc]; rfl
    have hcc : Hid (s[a] = 61) := hc
    clear hc
    have V : Hid ((va == vb) = r) := by rw [← HR.out, hcc.out]; rfl
    cases ht : (va == vb)
    all_goals
      have T := Lib.hid ht
      skip
      go_enter Tryd.func45, Tryd.ntmps45
      go_wp2_with fail
      have bx := Box6.new w e
      have hB := (Below.refl w.heap.size w).alloc (Nat.le_refl _) (.cells #[.int .i64 (e 0), .int .i64 (e 1), .int .i64 (e 2), .int .i64 (e 3), .int .i64 (e 4), .int .i64 (e 5)] 47)
      generalize w.alloc (.cells #[.int .i64 (e 0), .int .i64 (e 1), .int .i64 (e 2), .int .i64 (e 3), .int .i64 (e 4), .int .i64 (e 5)] 47) = w0 at *
      refine (C1.out _).mono ?_
      rintro e' w1 ⟨rfl, hq⟩
      have q0 := cell_keep hq (bx 0 (by omega)); have q1 := cell_keep hq (bx 1 (by omega)); have q2 := cell_keep hq (bx 2 (by omega))
      have q3 := cell_keep hq (bx 3 (by omega)); have q4 := cell_keep hq (bx 4 (by omega)); have q5 := cell_keep hq (bx 5 (by omega))
      have HB := Lib.hid (hB.trans (hq.mono hB.size))
      clear hq hB bx
      go_wp2_with fail
      refine (C2.out _).mono ?_
      rintro e' w2 ⟨rfl, hq⟩
      have HB2 := Lib.hid (HB.out.trans (hq.mono HB.out.size))
      clear hq q0 q1 q2 q3 q4 q5
      go_wp2_with fail
      go_ret2
      exact ⟨by first | (rw [← V.out, T.out]; rfl) | (rw [← V.out]; rfl), HB2.out⟩
  · have hcn : s[a].toNat = 60 := by rw [hc]; rfl
    have hcc : Hid (s[a] = 60) := hc
    clear hc
    have V : Hid ((decide (va < vb)) = r) := by rw [← HR.out, hcc.out]; rfl
    cases ht : (decide (va < vb))
    all_goals
      have T := Lib.hid ht
      simp only [decide_eq_false_iff_not, decide_eq_true_eq] at ht
      go_enter Tryd.func45, Tryd.ntmps45
      go_wp2_with fail
      have bx := Box6.new w e
      have hB := (Below.refl w.heap.size w).alloc (Nat.le_refl _) (.cells #[.int .i64 (e 0), .int .i64 (e 1), .int .i64 (e 2), .int .i64 (e 3), .int .i64 (e 4), .int .i64 (e 5)] 47)
      generalize w.alloc (.cells #[.int .i64 (e 0), .int .i64 (e 1), .int .i64 (e 2), .int .i64 (e 3), .int .i64 (e 4), .int .i64 (e 5)] 47) = w0 at *
      refine (C1.out _).mono ?_
      rintro e' w1 ⟨rfl, hq⟩
      have q0 := cell_keep hq (bx 0 (by omega)); have q1 := cell_keep hq (bx 1 (by omega)); have q2 := cell_keep hq (bx 2 (by omega))
      have q3 := cell_keep hq (bx 3 (by omega)); have q4 := cell_keep hq (bx 4 (by omega)); have q5 := cell_keep hq (bx 5 (by omega))
      have HB := Lib.hid (hB.trans (hq.mono hB.size))
      clear hq hB bx
      go_wp2_with fail
      refine (C2.out _).mono ?_
      rintro e' w2 ⟨rfl, hq⟩
      have HB2 := Lib.hid (HB.out.trans (hq.mono HB.out.size))
      clear hq q0 q1 q2 q3 q4 q5
      go_wp2_with fail
      go_ret2
      exact ⟨by first | (rw [← V.out, T.out]; rfl) | (rw [← V.out]; rfl), HB2.out⟩

set_option maxRecDepth 100000 in
set_option maxHeartbeats 4000000 in
theorem sph_bin (e : Nat → Int) (s : ByteArray) (a n1 n2 : Nat) (va vb : Bool) (w : World) (hs : s.size ≤ 1000000) (ha : a < s.size) (r : Bool) (hr : (if s[a] = 38 then va && vb else va || vb) = r) (hc : s[a] = 38 ∨ s[a] = 124)
    (c1 : ∀ w, Calls Tryd.prog 45 #[.string s, .int .i64 (a + 1), envV e] w fun e' w' => e' = .returned (.tuple #[.bool va, .int .i64 n1]) ∧ Below w.heap.size w w')
    (c2 : ∀ w, Calls Tryd.prog 45 #[.string s, .int .i64 n1, envV e] w fun e' w' => e' = .returned (.tuple #[.bool vb, .int .i64 n2]) ∧ Below w.heap.size w w') :
    Calls Tryd.prog 45 #[.string s, .int .i64 a, envV e] w fun e' w' => e' = .returned (.tuple #[.bool r, .int .i64 n2]) ∧ Below w.heap.size w w' := by
  have h0 : (0 : Int) ≤ (a : Int) := by omega
  have h1 : (a : Int) < (s.size : Int) := by omega
  have C1 := Lib.hid c1
  have C2 := Lib.hid c2
  have HR := Lib.hid hr
  clear c1 c2 hr
  unfold envV at *
  rcases hc with hc | hc
  · have hcn : s[a].toNat = 38 := by rw [hc]; rfl
    have hcc : Hid (s[a] = 38) := hc
    clear hc
    have V : Hid ((va && vb) = r) := by rw [← HR.out, hcc.out]; rfl
    cases va <;> cases vb
    all_goals
      go_enter Tryd.func45, Tryd.ntmps45
      go_wp2_with fail
      have bx := Box6.new w e
      have hB := (Below.refl w.heap.size w).alloc (Nat.le_refl _) (.cells #[.int .i64 (e 0), .int .i64 (e 1), .int .i64 (e 2), .int .i64 (e 3), .int .i64 (e 4), .int .i64 (e 5)] 47)
      generalize w.alloc (.cells #[.int .i64 (e 0), .int .i64 (e 1), .int .i64 (e 2), .int .i64 (e 3), .int .i64 (e 4), .int .i64 (e 5)] 47) = w0 at *
      refine (C1.out _).mono ?_
      rintro e' w1 ⟨rfl, hq⟩
      have q0 := cell_keep hq (bx 0 (by omega)); have q1 := cell_keep hq (bx 1 (by omega)); have q2 := cell_keep hq (bx 2 (by omega))
      have q3 := cell_keep hq (bx 3 (by omega)); have q4 := cell_keep hq (bx 4 (by omega)); have q5 := cell_keep hq (bx 5 (by omega))
      have HB := Lib.hid (hB.trans (hq.mono hB.size))
      clear hq hB bx
      go_wp2_with fail
      refine (C2.out _).mono ?_
      rintro e' w2 ⟨rfl, hq⟩
      have HB2 := Lib.hid (HB.out.trans (hq.mono HB.out.size))
      clear hq q0 q1 q2 q3 q4 q5
      go_wp2_with fail
      go_ret2
      exact ⟨by rw [← V.out]; rfl, HB2.out⟩
  · have hcn : s[a].toNat = 124 := by rw [hc]; rfl
    have hcc : Hid (s[a] = 124) := hc
    clear hc
    have V : Hid ((va || vb) = r) := by rw [← HR.out, hcc.out]; rfl
    cases va <;> cases vb
    all_goals
      go_enter Tryd.func45, Tryd.ntmps45
      go_wp2_with fail
      have bx := Box6.new w e
      have hB := (Below.refl w.heap.size w).alloc (Nat.le_refl _) (.cells #[.int .i64 (e 0), .int .i64 (e 1), .int .i64 (e 2), .int .i64 (e 3), .int .i64 (e 4), .int .i64 (e 5)] 47)
      generalize w.alloc (.cells #[.int .i64 (e 0), .int .i64 (e 1), .int .i64 (e 2), .int .i64 (e 3), .int .i64 (e 4), .int .i64 (e 5)] 47) = w0 at *
      refine (C1.out _).mono ?_
      rintro e' w1 ⟨rfl, hq⟩
      have q0 := cell_keep hq (bx 0 (by omega)); have q1 := cell_keep hq (bx 1 (by omega)); have q2 := cell_keep hq (bx 2 (by omega))
      have q3 := cell_keep hq (bx 3 (by omega)); have q4 := cell_keep hq (bx 4 (by omega)); have q5 := cell_keep hq (bx 5 (by omega))
      have HB := Lib.hid (hB.trans (hq.mono hB.size))
      clear hq hB bx
      go_wp2_with fail
      refine (C2.out _).mono ?_
      rintro e' w2 ⟨rfl, hq⟩
      have HB2 := Lib.hid (HB.out.trans (hq.mono HB.out.size))
      clear hq q0 q1 q2 q3 q4 q5
      go_wp2_with fail
      go_ret2
      exact ⟨by rw [← V.out]; rfl, HB2.out⟩

set_option maxRecDepth 100000 in
set_option maxHeartbeats 4000000 in
theorem sph_not (e : Nat → Int) (s : ByteArray) (a n1 : Nat) (va : Bool) (w : World) (hs : s.size ≤ 1000000) (ha : a < s.size) (hc : s[a] = 33)
    (c1 : ∀ w, Calls Tryd.prog 45 #[.string s, .int .i64 (a + 1), envV e] w fun e' w' => e' = .returned (.tuple #[.bool va, .int .i64 n1]) ∧ Below w.heap.size w w') :
    Calls Tryd.prog 45 #[.string s, .int .i64 a, envV e] w fun e' w' => e' = .returned (.tuple #[.bool (!va), .int .i64 n1]) ∧ Below w.heap.size w w' := by
  have h0 : (0 : Int) ≤ (a : Int) := by omega
  have h1 : (a : Int) < (s.size : Int) := by omega
  have C1 := Lib.hid c1
  clear c1
  unfold envV at *
  · have hcn : s[a].toNat = 33 := by rw [hc]; rfl
    clear hc
    go_enter Tryd.func45, Tryd.ntmps45
    go_wp2_with fail
    have bx := Box6.new w e
    have hB := (Below.refl w.heap.size w).alloc (Nat.le_refl _) (.cells #[.int .i64 (e 0), .int .i64 (e 1), .int .i64 (e 2), .int .i64 (e 3), .int .i64 (e 4), .int .i64 (e 5)] 47)
    generalize w.alloc (.cells #[.int .i64 (e 0), .int .i64 (e 1), .int .i64 (e 2), .int .i64 (e 3), .int .i64 (e 4), .int .i64 (e 5)] 47) = w0 at *
    refine (C1.out _).mono ?_
    rintro e' w1 ⟨rfl, hq⟩
    have HB := Lib.hid (hB.trans (hq.mono hB.size))
    clear hq hB bx
    go_wp2_with fail
    go_ret2
    exact ⟨rfl, HB.out⟩

/-- spec.l1Holds at an index where a test begins: its truth, and where it ends. -/
theorem sph_any (e : Nat → Int) (he : ∀ i, 0 ≤ e i ∧ e i ≤ 2) (s : ByteArray) (hs : s.size ≤ 1000000) : ∀ (t : Tm) (a : Nat) (r : List UInt8) (w : World), Ok true true t → s.data.toList.drop a = t.ser ++ r →
    Calls Tryd.prog 45 #[.string s, .int .i64 a, envV e] w fun e' w' => e' = .returned (.tuple #[.bool (tru e t), .int .i64 ((a + t.ser.length : Nat) : Int)]) ∧ Below w.heap.size w w' := by
  intro t
  induction t with
  | leaf c =>
    intro a r w ht hd
    rcases ok_test ht with ⟨c', e1, hc⟩ | ⟨_, e1, _⟩ | ⟨_, _, _, e1, _⟩ | ⟨_, _, _, e1, _⟩
    · cases e1
      obtain ⟨hl, rfl⟩ := byte_at hd
      exact sph_leaf e s a w hs hl hc
    · cases e1
    · cases e1
    · cases e1
  | un c x ihx =>
    intro a r w ht hd
    rcases ok_test ht with ⟨c', e1, hc⟩ | ⟨_, e1, oa⟩ | ⟨_, _, _, e1, _⟩ | ⟨_, _, _, e1, _⟩
    · cases e1
    · cases e1
      have hd0 : s.data.toList.drop a = 33 :: (x.ser ++ r) := by rw [hd]; simp [ser]
      obtain ⟨hl, hc⟩ := byte_at hd0
      have hd1 : s.data.toList.drop (a + 1) = x.ser ++ r := drop_next hd0
      have e2 : a + (Tm.un 33 x).ser.length = a + 1 + x.ser.length := by simp [ser]; omega
      rw [e2]
      exact sph_not e s a (a + 1 + x.ser.length) _ w hs hl hc (fun w => ihx (a + 1) _ w oa hd1)
    · cases e1
    · cases e1
  | bin c x y ihx ihy =>
    intro a r w ht hd
    have hd0 : s.data.toList.drop a = c :: (x.ser ++ (y.ser ++ r)) := by rw [hd]; simp [ser]
    obtain ⟨hl, rfl⟩ := byte_at hd0
    have hd1 : s.data.toList.drop (a + 1) = x.ser ++ (y.ser ++ r) := drop_next hd0
    have hd2 : s.data.toList.drop (a + 1 + x.ser.length) = y.ser ++ r := by rw [← List.drop_drop, hd1, List.drop_left' rfl]
    have e2 : a + (Tm.bin s[a] x y).ser.length = a + 1 + x.ser.length + y.ser.length := by simp [ser]; omega
    rw [e2]
    rcases ok_test ht with ⟨c', e1, hc⟩ | ⟨_, e1, oa⟩ | ⟨c', x', y', e1, hc, ox, oy⟩ | ⟨c', x', y', e1, hc, ox, oy⟩
    · cases e1
    · cases e1
    · injection e1 with e3 e4 e5
      subst e4 e5
      rw [← e3] at hc
      have e6 : tru e (.bin s[a] x y) = if s[a] = 61 then val e x == val e y else decide (val e x < val e y) := by
        rcases hc with h | h <;> rw [h] <;> rfl
      rw [e6]
      exact sph_cmp e s a (a + 1 + x.ser.length) (a + 1 + x.ser.length + y.ser.length) (val e x) (val e y) w hs hl _ rfl hc (fun w => spv_any e he s hs x (a + 1) _ w ox hd1) (fun w => spv_any e he s hs y _ _ w oy hd2)
    · injection e1 with e3 e4 e5
      subst e4 e5
      rw [← e3] at hc
      have e6 : tru e (.bin s[a] x y) = if s[a] = 38 then tru e x && tru e y else tru e x || tru e y := by
        rcases hc with h | h <;> rw [h] <;> rfl
      rw [e6]
      exact sph_bin e s a (a + 1 + x.ser.length) (a + 1 + x.ser.length + y.ser.length) (tru e x) (tru e y) w hs hl _ rfl hc (fun w => ihx (a + 1) _ w ox hd1) (fun w => ihy _ _ w oy hd2)
set_option maxHeartbeats 2000000 in
theorem specEvalT_yes (s : ByteArray) (x y z : Int) (w : World) {t : Tm} (ht : Ok false true t) (hs : s.data.toList = t.ser) (hl : s.size ≤ 200) (hst : st3 x y z = true) :
    Calls Tryd.prog 21 #[.string s, .agg #[.int .i64 x, .int .i64 y, .int .i64 z]] w fun e w' => e = .returned (.tuple #[.bool (tru (one x y z) t), .bool true]) ∧ Below w.heap.size w w' := by
  have HC := fun w => Lib.hid (specTest_yes s w ⟨t, ht, hs⟩ hl)
  have HV := fun w => Lib.hid (sph_any (one x y z) (one_bd hst) s (by omega) t 0 [] w (ok_wide ht) (by simp [hs]))
  clear hs
  go_enter Tryd.func21, Tryd.ntmps21
  go_wp2_with fail
  have t3 := Box3.new w x y z 27
  have hB := (Below.refl w.heap.size w).alloc (Nat.le_refl _) (.cells #[.int .i64 x, .int .i64 y, .int .i64 z] 27)
  generalize w.alloc (.cells #[.int .i64 x, .int .i64 y, .int .i64 z] 27) = w0 at *
  refine (HC _).out.mono ?_
  rintro e w1 ⟨rfl, n, rfl⟩
  have q0 := t3.1; have q1 := t3.2.1; have q2 := t3.2.2
  clear t3
  go_wp2_with fail
  refine (specStateValid _ _ _ _).mono ?_
  rintro e w3 ⟨rfl, hb⟩
  have n0 := cell_keep hb q0; have n1 := cell_keep hb q1; have n2 := cell_keep hb q2
  have HB3 := Lib.hid ((below_of_drewN hB n).trans (hb.mono hB.size))
  clear hb q0 q1 q2 hB
  go_wp2_with fail
  refine (specOne _ _ _ _).mono ?_
  rintro e w4 ⟨rfl, hb⟩
  have HB4 := Lib.hid (HB3.out.trans (hb.mono HB3.out.size))
  clear hb
  go_wp2_with fail
  refine (HV _).out.mono ?_
  rintro e w5 ⟨rfl, hb⟩
  have HB5 := Lib.hid (HB4.out.trans (hb.mono HB4.out.size))
  clear hb
  go_wp2_with fail
  go_ret2
  exact ⟨rfl, HB5.out⟩

set_option maxHeartbeats 2000000 in
theorem specEvalT_st (s : ByteArray) (x y z : Int) (w : World) {t : Tm} (ht : Ok false true t) (hs : s.data.toList = t.ser) (hl : s.size ≤ 200) (hst : st3 x y z = false) :
    Calls Tryd.prog 21 #[.string s, .agg #[.int .i64 x, .int .i64 y, .int .i64 z]] w fun e w' => e = .returned (.tuple #[.bool false, .bool false]) ∧ Below w.heap.size w w' := by
  have HC := fun w => Lib.hid (specTest_yes s w ⟨t, ht, hs⟩ hl)
  clear hs
  go_enter Tryd.func21, Tryd.ntmps21
  go_wp2_with fail
  have t3 := Box3.new w x y z 27
  have hB := (Below.refl w.heap.size w).alloc (Nat.le_refl _) (.cells #[.int .i64 x, .int .i64 y, .int .i64 z] 27)
  generalize w.alloc (.cells #[.int .i64 x, .int .i64 y, .int .i64 z] 27) = w0 at *
  refine (HC _).out.mono ?_
  rintro e w1 ⟨rfl, n, rfl⟩
  have q0 := t3.1; have q1 := t3.2.1; have q2 := t3.2.2
  clear t3
  go_wp2_with fail
  refine (specStateValid _ _ _ _).mono ?_
  rintro e w3 ⟨rfl, hb⟩
  have HB3 := Lib.hid ((below_of_drewN hB n).trans (hb.mono hB.size))
  clear hb q0 q1 q2 hB
  go_wp2_with fail
  go_ret2
  exact ⟨rfl, HB3.out⟩

set_option maxHeartbeats 2000000 in
theorem specEvalT_no (s : ByteArray) (x y z : Int) (w : World) (h : ¬ (Valid false true s.data.toList ∧ s.size ≤ 200)) :
    Calls Tryd.prog 21 #[.string s, .agg #[.int .i64 x, .int .i64 y, .int .i64 z]] w fun e w' => e = .returned (.tuple #[.bool false, .bool false]) ∧ Below w.heap.size w w' := by
  have HC := fun w => Lib.hid (specTest_no s w h)
  clear h
  go_enter Tryd.func21, Tryd.ntmps21
  go_wp2_with fail
  have hB := (Below.refl w.heap.size w).alloc (Nat.le_refl _) (.cells #[.int .i64 x, .int .i64 y, .int .i64 z] 27)
  generalize w.alloc (.cells #[.int .i64 x, .int .i64 y, .int .i64 z] 27) = w0 at *
  refine (HC _).out.mono ?_
  rintro e w1 ⟨rfl, n, rfl⟩
  go_wp2_with fail
  go_ret2
  exact ⟨rfl, below_of_drewN hB n⟩
end Go.Proofs.YtpdepihggpfmiaaDoor
