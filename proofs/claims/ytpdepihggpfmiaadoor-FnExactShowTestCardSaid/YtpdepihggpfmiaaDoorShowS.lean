/-
  ShowExpr and ShowTest, of the program and of the model: the usual form, or the empty text.
-/
import Derived.Test.YtpdepihggpfmiaaDoorShow
import Derived.Test.YtpdepihggpfmiaaDoorSpv
namespace Go.Proofs.YtpdepihggpfmiaaDoor
open Go.RowKit Tm

theorem shw_len {wide k : Bool} : ∀ {t : Tm}, Ok wide k t → (shw t).length ≤ 5 * t.ser.length := by
  intro t
  induction t generalizing k with
  | leaf c =>
    intro _
    simp only [shw, ser]
    split
    · simp
    · split <;> simp
  | un c a ih =>
    rintro ⟨k1, _, h⟩
    have := ih h
    simp [shw, ser]; omega
  | bin c a b iha ihb =>
    rintro ⟨k1, k2, _, h1, h2⟩
    have := iha h1; have := ihb h2
    simp only [shw, ser]
    split <;> simp <;> omega
theorem leaf_casesW {wide : Bool} {c : UInt8} (h : (isVarB wide c || isDigB c) = true) : c = 120 ∨ c = 121 ∨ c = 122 ∨ c = 48 ∨ c = 49 ∨ c = 50 ∨ c = 88 ∨ c = 89 ∨ c = 90 := by
  cases wide
  · rcases leaf_cases h with h | h | h | h | h | h <;> simp [h]
  · simp only [isVarB, isDigB, Bool.or_eq_true, Bool.true_and, beq_iff_eq] at h
    rcases h with (((h | h) | h) | ((h | h) | h)) | ((h | h) | h) <;> simp [h]
theorem opk_nar {wide k : Bool} {c : UInt8} {x : Bool} {l : List Bool} (h : opk wide k c = some (x :: l)) : opk false k c = some (x :: l) := by
  cases wide
  · exact h
  · cases k
    · unfold opk at h ⊢
      have e : (isVarB true c || isDigB c) = false := by
        cases e : (isVarB true c || isDigB c)
        · rfl
        · simp [e] at h
      have e2 : (isVarB false c || isDigB c) = false := by
        simp only [isVarB, Bool.or_eq_false_iff, Bool.false_and, Bool.true_and] at e ⊢
        simp [e]
      simp only [e] at h
      simp only [e2]
      exact h
    · unfold opk at h ⊢
      exact h
/-- (impl.term).show, at every tree that is an expression or a test. -/
theorem show_any {wide : Bool} : ∀ (t : Tm) (k : Bool) (B : Nat) (x y : Value) (w : World), Ok wide k t → t.ser.length ≤ 1000 → RepT w B t x y →
    Calls Tryd.prog 65 #[.agg #[x, y]] w fun e w' => e = .returned (.string (bs (shw t))) ∧ Below w.heap.size w w' := by
  have cmp : ∀ (c : UInt8) (a d : Tm), c = 61 ∨ c = 60 → bs (shw a) ++ bs [c] ++ bs (shw d) = bs (shw (.bin c a d)) := fun c a d h => by
    rw [bs_append, bs_append]; simp only [shw, if_pos h]
  have bin : ∀ (c : UInt8) (a d : Tm), ¬ (c = 61 ∨ c = 60) → bs [40] ++ bs (shw a) ++ bs [c] ++ bs (shw d) ++ bs [41] = bs (shw (.bin c a d)) := fun c a d h => by
    rw [bs_append, bs_append, bs_append, bs_append]; simp only [shw, if_neg h]
  intro t
  induction t with
  | leaf c =>
    intro k B x y w ht _ hr
    obtain ⟨rfl, a, n, rfl⟩ := hr
    refine show_leaf c w ?_ a n
    cases k
    · rcases ok_expr ht with ⟨c', e1, hc⟩ | ⟨_, _, _, e1, _⟩
      · cases e1; rcases leaf_casesW hc with h | h | h | h | h | h | h | h | h <;> simp [h]
      · cases e1
    · rcases ok_test ht with ⟨c', e1, hc⟩ | ⟨_, e1, _⟩ | ⟨_, _, _, e1, _⟩ | ⟨_, _, _, e1, _⟩
      · cases e1; rcases hc with h | h <;> simp [h]
      · cases e1
      · cases e1
      · cases e1
  | un c a iha =>
    intro k B x y w ht hl hr
    obtain ⟨rfl, b, n, x1, y1, rfl, _, k0, k1, r1⟩ := hr
    obtain ⟨z1, p1, m1, n1, rfl, rfl⟩ := r1.forms
    cases k
    · rcases ok_expr ht with ⟨_, e1, _⟩ | ⟨_, _, _, e1, _⟩ <;> cases e1
    · rcases ok_test ht with ⟨c', e1, hc⟩ | ⟨_, e1, oa⟩ | ⟨_, _, _, e1, _⟩ | ⟨_, _, _, e1, _⟩
      · cases e1
      · cases e1
        simp only [ser, List.length_cons] at hl
        have h1 := shw_len oa
        exact show_not 33 w rfl b n z1 p1 m1 n1 (bs (shw a)) (by rw [bs_size]; omega) _ (by rw [bs_append, bs_append]; rfl) k0 k1 (fun w' h => iha true B _ _ w' oa (by omega) (r1.below h))
      · cases e1
      · cases e1
  | bin c a d iha ihd =>
    intro k B x y w ht hl hr
    obtain ⟨rfl, b, n, x1, y1, x2, y2, rfl, _, k0, k1, k2, k3, r1, r2⟩ := hr
    obtain ⟨z1, p1, m1, n1, rfl, rfl⟩ := r1.forms
    obtain ⟨z2, p2, m2, n2, rfl, rfl⟩ := r2.forms
    obtain ⟨ka, kd, ho, oa, od⟩ := ht
    have h1 := shw_len oa
    have h2 := shw_len od
    simp only [ser, List.length_cons, List.length_append] at hl
    have c1 := fun w' (h : Below w.heap.size w w') => iha ka B _ _ w' oa (by omega) (r1.below h)
    have c2 := fun w' (h : Below w.heap.size w w') => ihd kd B _ _ w' od (by omega) (r2.below h)
    have hs1 : (bs (shw a)).size ≤ 1000000 := by rw [bs_size]; omega
    have hs2 : (bs (shw d)).size ≤ 1000000 := by rw [bs_size]; omega
    by_cases hc : c = 61 ∨ c = 60
    · exact show_cmp c w hc b n z1 z2 p1 p2 m1 m2 n1 n2 _ _ hs1 hs2 _ (cmp c a d hc) k0 k1 k2 k3 c1 c2
    · refine show_bin c w ?_ b n z1 z2 p1 p2 m1 m2 n1 n2 _ _ hs1 hs2 _ (bin c a d hc) k0 k1 k2 k3 c1 c2
      rcases opk_cases (opk_nar ho) with h | ⟨_, _, h⟩ | h | ⟨_, _, h⟩ | h | ⟨_, _, h⟩
      · simp at h
      · rcases h with h | h | h <;> simp [h]
      · simp at h
      · exact absurd h hc
      · simp at h
      · rcases h with h | h <;> simp [h]

theorem op_find (c : UInt8) (r : Int) (w : World) (h : fnd [43, 45, 42] c = r) : Calls Tryd.prog 57 #[.string ⟨#[43, 45, 42]⟩, .int .u8 c.toNat] w fun e w' => e = .returned (.int .i64 r) ∧ w' = w :=
  find_at (s := ⟨#[43, 45, 42]⟩) h w (by simp [maxLen, ByteArray.size])

set_option maxHeartbeats 2000000 in
theorem spw_leaf (s : ByteArray) (a : Nat) (w : World) (hs : s.size ≤ 1000000) (ha : a < s.size) (hc : ¬ isOpB s[a] = true) :
    Calls Tryd.prog 49 #[.string s, .int .i64 a] w fun e w' => e = .returned (.tuple #[.string (bs [s[a]]), .int .i64 (a + 1)]) ∧ w' = w := by
  have h0 : (0 : Int) ≤ (a : Int) := by omega
  have h1 : (a : Int) < (s.size : Int) := by omega
  have K := fun w => Lib.hid (op_find s[a] (-1) w (fnd_no (fun h => hc ((op_fnd s[a]).1 h))))
  have X := Lib.hid (extract_one s a ha)
  clear hc
  go_enter Tryd.func49, Tryd.ntmps49
  go_wp2_with fail
  refine (K _).out.mono ?_
  rintro e' w' ⟨rfl, rfl⟩
  go_wp2_with fail
  go_ret2
  exact ⟨by rw [← X.out]; rfl, rfl⟩

set_option maxHeartbeats 4000000 in
theorem spw_bin (s s1 s2 : ByteArray) (a n1 n2 : Nat) (w : World) (hs : s.size ≤ 1000000) (ha : a < s.size) (hc : isOpB s[a] = true) (hs1 : s1.size ≤ 1000000) (hs2 : s2.size ≤ 1000000)
    (c1 : ∀ w, Calls Tryd.prog 49 #[.string s, .int .i64 (a + 1)] w fun e' w' => e' = .returned (.tuple #[.string s1, .int .i64 n1]) ∧ w' = w)
    (c2 : ∀ w, Calls Tryd.prog 49 #[.string s, .int .i64 n1] w fun e' w' => e' = .returned (.tuple #[.string s2, .int .i64 n2]) ∧ w' = w) :
    Calls Tryd.prog 49 #[.string s, .int .i64 a] w fun e w' => e = .returned (.tuple #[.string (bs [40] ++ s1 ++ bs [s[a]] ++ s2 ++ bs [41]), .int .i64 n2]) ∧ w' = w := by
  have h0 : (0 : Int) ≤ (a : Int) := by omega
  have h1 : (a : Int) < (s.size : Int) := by omega
  obtain ⟨n, hn⟩ := fnd_yes ((op_fnd s[a]).2 hc)
  have hn0 : (0 : Int) ≤ (n : Int) := by omega
  have K := fun w => Lib.hid (op_find s[a] n w hn)
  have X := Lib.hid (extract_one s a ha)
  have C1 := Lib.hid c1
  have C2 := Lib.hid c2
  clear hc hn c1 c2
  go_enter Tryd.func49, Tryd.ntmps49
  go_wp2_with fail
  refine (K _).out.mono ?_
  rintro e' w' ⟨rfl, rfl⟩
  go_wp2_with fail
  refine (C1.out _).mono ?_
  rintro e' w' ⟨rfl, rfl⟩
  go_wp2_with fail
  refine (C2.out _).mono ?_
  rintro e' w' ⟨rfl, rfl⟩
  go_wp2_with fail
  go_ret2
  exact ⟨by rw [← X.out]; rfl, rfl⟩

theorem shw_bin {c : UInt8} (h : isOpB c = true) (x y : Tm) : bs [40] ++ bs (shw x) ++ bs [c] ++ bs (shw y) ++ bs [41] = bs (shw (.bin c x y)) := by
  rw [bs_append, bs_append, bs_append, bs_append]
  rcases op_cases h with rfl | rfl | rfl <;> rfl
theorem shw_bin2 {c : UInt8} (h : c = 38 ∨ c = 124) (x y : Tm) : bs [40] ++ bs (shw x) ++ bs [c] ++ bs (shw y) ++ bs [41] = bs (shw (.bin c x y)) := by
  rw [bs_append, bs_append, bs_append, bs_append]
  rcases h with rfl | rfl <;> rfl
theorem shw_cmp {c : UInt8} (h : c = 61 ∨ c = 60) (x y : Tm) : bs (shw x) ++ bs [c] ++ bs (shw y) = bs (shw (.bin c x y)) := by
  rw [bs_append, bs_append]
  rcases h with rfl | rfl <;> rfl
theorem shw_leaf {wide : Bool} {c : UInt8} (h : (isVarB wide c || isDigB c) = true) : bs [c] = bs (shw (.leaf c)) := by
  have h2 : ¬ c = 116 ∧ ¬ c = 102 := by
    constructor <;> (rintro rfl; cases wide <;> simp [isVarB, isDigB] at h)
  simp only [shw, if_neg h2.1, if_neg h2.2]
theorem not_op_of_leaf {wide : Bool} {c : UInt8} (h : (isVarB wide c || isDigB c) = true) : ¬ isOpB c = true := by
  intro ho
  rcases op_cases ho with rfl | rfl | rfl <;> (cases wide <;> simp [isVarB, isDigB] at h)

theorem shw_len' {wide k : Bool} : ∀ {t : Tm}, Ok wide k t → (shw t).length ≤ 5 * t.ser.length := by
  intro t
  induction t generalizing k with
  | leaf c =>
    intro _
    simp only [shw, ser]
    split
    · simp
    · split <;> simp
  | un c a ih =>
    rintro ⟨k1, _, h⟩
    have := ih h
    simp [shw, ser]; omega
  | bin c a b iha ihb =>
    rintro ⟨k1, k2, _, h1, h2⟩
    have := iha h1; have := ihb h2
    simp only [shw, ser]
    split <;> simp <;> omega

/-- spec.l1Show at an index where an expression begins. -/
theorem spw_any {wide : Bool} (s : ByteArray) (hs : s.size ≤ 1000) : ∀ (t : Tm) (a : Nat) (r : List UInt8) (w : World), Ok wide false t → s.data.toList.drop a = t.ser ++ r →
    Calls Tryd.prog 49 #[.string s, .int .i64 a] w fun e' w' => e' = .returned (.tuple #[.string (bs (shw t)), .int .i64 ((a + t.ser.length : Nat) : Int)]) ∧ w' = w := by
  intro t
  induction t with
  | leaf c =>
    intro a r w ht hd
    rcases ok_expr ht with ⟨c', e1, hc⟩ | ⟨_, _, _, e1, _⟩
    · cases e1
      obtain ⟨hl, rfl⟩ := byte_at hd
      rw [← shw_leaf hc]
      exact spw_leaf s a w (by omega) hl (not_op_of_leaf hc)
    · cases e1
  | un c a _ =>
    intro b r w ht hd
    rcases ok_expr ht with ⟨_, e1, _⟩ | ⟨_, _, _, e1, _⟩ <;> cases e1
  | bin c x y ihx ihy =>
    intro a r w ht hd
    rcases ok_expr ht with ⟨_, e1, _⟩ | ⟨c', x', y', e1, hc, ox, oy⟩
    · cases e1
    · cases e1
      have hd0 : s.data.toList.drop a = c :: (x.ser ++ (y.ser ++ r)) := by rw [hd]; simp [ser]
      obtain ⟨hl, rfl⟩ := byte_at hd0
      have hd1 : s.data.toList.drop (a + 1) = x.ser ++ (y.ser ++ r) := drop_next hd0
      have hd2 : s.data.toList.drop (a + 1 + x.ser.length) = y.ser ++ r := by rw [← List.drop_drop, hd1, List.drop_left' rfl]
      have hlen := congrArg List.length hd
      simp [ser] at hlen
      have hsz : s.size = s.data.size := rfl
      have h1 := shw_len' ox; have h2 := shw_len' oy
      have e2 : a + (Tm.bin s[a] x y).ser.length = a + 1 + x.ser.length + y.ser.length := by simp [ser]; omega
      rw [e2, ← shw_bin hc]
      exact spw_bin s _ _ a (a + 1 + x.ser.length) (a + 1 + x.ser.length + y.ser.length) w (by omega) hl hc (by rw [bs_size]; omega) (by rw [bs_size]; omega)
        (fun w => ihx (a + 1) _ w ox hd1) (fun w => ihy _ _ w oy hd2)

set_option maxHeartbeats 2000000 in
theorem spx_leaf (s : ByteArray) (a : Nat) (w : World) (hs : s.size ≤ 1000000) (ha : a < s.size) (hc : s[a] = 116 ∨ s[a] = 102) :
    Calls Tryd.prog 51 #[.string s, .int .i64 a] w fun e w' => e = .returned (.tuple #[.string (bs (shw (.leaf s[a]))), .int .i64 (a + 1)]) ∧ w' = w := by
  have h0 : (0 : Int) ≤ (a : Int) := by omega
  have h1 : (a : Int) < (s.size : Int) := by omega
  rcases hc with hc | hc
  · have hcn : s[a].toNat = 116 := by rw [hc]; rfl
    have V : Hid (bs (shw (.leaf s[a])) = bs [116, 114, 117, 101]) := by rw [hc]; rfl
    clear hc
    go_enter Tryd.func51, Tryd.ntmps51
    go_wp2_with fail
    go_ret2
    exact ⟨by rw [V.out]; rfl, rfl⟩
  · have hcn : s[a].toNat = 102 := by rw [hc]; rfl
    have V : Hid (bs (shw (.leaf s[a])) = bs [102, 97, 108, 115, 101]) := by rw [hc]; rfl
    clear hc
    go_enter Tryd.func51, Tryd.ntmps51
    go_wp2_with fail
    go_ret2
    exact ⟨by rw [V.out]; rfl, rfl⟩

set_option maxHeartbeats 4000000 in
theorem spx_cmp (s s1 s2 : ByteArray) (a n1 n2 : Nat) (w : World) (hs : s.size ≤ 1000000) (ha : a < s.size) (hc : s[a] = 61 ∨ s[a] = 60) (hs1 : s1.size ≤ 1000000) (hs2 : s2.size ≤ 1000000)
    (c1 : ∀ w, Calls Tryd.prog 49 #[.string s, .int .i64 (a + 1)] w fun e' w' => e' = .returned (.tuple #[.string s1, .int .i64 n1]) ∧ w' = w)
    (c2 : ∀ w, Calls Tryd.prog 49 #[.string s, .int .i64 n1] w fun e' w' => e' = .returned (.tuple #[.string s2, .int .i64 n2]) ∧ w' = w) :
    Calls Tryd.prog 51 #[.string s, .int .i64 a] w fun e w' => e = .returned (.tuple #[.string (s1 ++ bs [s[a]] ++ s2), .int .i64 n2]) ∧ w' = w := by
  have h0 : (0 : Int) ≤ (a : Int) := by omega
  have h1 : (a : Int) < (s.size : Int) := by omega
  have X := Lib.hid (extract_one s a ha)
  have C1 := Lib.hid c1
  have C2 := Lib.hid c2
  clear c1 c2
  rcases hc with hc | hc
  all_goals
    have hcn : s[a].toNat = _ := congrArg UInt8.toNat hc
    clear hc
    simp at hcn
    go_enter Tryd.func51, Tryd.ntmps51
    go_wp2_with fail
    refine (C1.out _).mono ?_
    rintro e' w' ⟨rfl, rfl⟩
    go_wp2_with fail
    refine (C2.out _).mono ?_
    rintro e' w' ⟨rfl, rfl⟩
    go_wp2_with fail
    go_ret2
    exact ⟨by rw [← X.out]; rfl, rfl⟩

set_option maxHeartbeats 4000000 in
theorem spx_bin (s s1 s2 : ByteArray) (a n1 n2 : Nat) (w : World) (hs : s.size ≤ 1000000) (ha : a < s.size) (hc : s[a] = 38 ∨ s[a] = 124) (hs1 : s1.size ≤ 1000000) (hs2 : s2.size ≤ 1000000)
    (c1 : ∀ w, Calls Tryd.prog 51 #[.string s, .int .i64 (a + 1)] w fun e' w' => e' = .returned (.tuple #[.string s1, .int .i64 n1]) ∧ w' = w)
    (c2 : ∀ w, Calls Tryd.prog 51 #[.string s, .int .i64 n1] w fun e' w' => e' = .returned (.tuple #[.string s2, .int .i64 n2]) ∧ w' = w) :
    Calls Tryd.prog 51 #[.string s, .int .i64 a] w fun e w' => e = .returned (.tuple #[.string (bs [40] ++ s1 ++ bs [s[a]] ++ s2 ++ bs [41]), .int .i64 n2]) ∧ w' = w := by
  have h0 : (0 : Int) ≤ (a : Int) := by omega
  have h1 : (a : Int) < (s.size : Int) := by omega
  have X := Lib.hid (extract_one s a ha)
  have C1 := Lib.hid c1
  have C2 := Lib.hid c2
  clear c1 c2
  rcases hc with hc | hc
  all_goals
    have hcn : s[a].toNat = _ := congrArg UInt8.toNat hc
    clear hc
    simp at hcn
    go_enter Tryd.func51, Tryd.ntmps51
    go_wp2_with fail
    refine (C1.out _).mono ?_
    rintro e' w' ⟨rfl, rfl⟩
    go_wp2_with fail
    refine (C2.out _).mono ?_
    rintro e' w' ⟨rfl, rfl⟩
    go_wp2_with fail
    go_ret2
    exact ⟨by rw [← X.out]; rfl, rfl⟩

set_option maxHeartbeats 4000000 in
theorem spx_not (s s1 : ByteArray) (a n1 : Nat) (w : World) (hs : s.size ≤ 1000000) (ha : a < s.size) (hc : s[a] = 33) (hs1 : s1.size ≤ 1000000)
    (c1 : ∀ w, Calls Tryd.prog 51 #[.string s, .int .i64 (a + 1)] w fun e' w' => e' = .returned (.tuple #[.string s1, .int .i64 n1]) ∧ w' = w) :
    Calls Tryd.prog 51 #[.string s, .int .i64 a] w fun e w' => e = .returned (.tuple #[.string (bs [33, 40] ++ s1 ++ bs [41]), .int .i64 n1]) ∧ w' = w := by
  have h0 : (0 : Int) ≤ (a : Int) := by omega
  have h1 : (a : Int) < (s.size : Int) := by omega
  have C1 := Lib.hid c1
  clear c1
  have hcn : s[a].toNat = 33 := by rw [hc]; rfl
  clear hc
  go_enter Tryd.func51, Tryd.ntmps51
  go_wp2_with fail
  refine (C1.out _).mono ?_
  rintro e' w' ⟨rfl, rfl⟩
  go_wp2_with fail
  go_ret2
  exact ⟨rfl, rfl⟩

/-- spec.l1ShowTest at an index where a test begins. -/
theorem spx_any {wide : Bool} (s : ByteArray) (hs : s.size ≤ 1000) : ∀ (t : Tm) (a : Nat) (r : List UInt8) (w : World), Ok wide true t → s.data.toList.drop a = t.ser ++ r →
    Calls Tryd.prog 51 #[.string s, .int .i64 a] w fun e' w' => e' = .returned (.tuple #[.string (bs (shw t)), .int .i64 ((a + t.ser.length : Nat) : Int)]) ∧ w' = w := by
  intro t
  induction t with
  | leaf c =>
    intro a r w ht hd
    rcases ok_test ht with ⟨c', e1, hc⟩ | ⟨_, e1, _⟩ | ⟨_, _, _, e1, _⟩ | ⟨_, _, _, e1, _⟩
    · cases e1
      obtain ⟨hl, rfl⟩ := byte_at hd
      exact spx_leaf s a w (by omega) hl hc
    · cases e1
    · cases e1
    · cases e1
  | un c x ihx =>
    intro a r w ht hd
    rcases ok_test ht with ⟨c', e1, hc⟩ | ⟨_, e1, oa⟩ | ⟨_, _, _, e1, _⟩ | ⟨_, _, _, e1, _⟩
    · cases e1
    · cases e1
      have hd0 : s.data.toList.drop a = 33 :: (x.ser ++ r) := by rw [hd]; simp [ser]
      obtain ⟨hl, hc⟩ := byte_at hd0
      have hd1 : s.data.toList.drop (a + 1) = x.ser ++ r := drop_next hd0
      have hlen := congrArg List.length hd
      simp [ser] at hlen
      have hsz : s.size = s.data.size := rfl
      have h1 := shw_len' oa
      have e2 : a + (Tm.un 33 x).ser.length = a + 1 + x.ser.length := by simp [ser]; omega
      have e3 : bs [33, 40] ++ bs (shw x) ++ bs [41] = bs (shw (.un 33 x)) := by rw [bs_append, bs_append]; rfl
      rw [e2, ← e3]
      exact spx_not s _ a (a + 1 + x.ser.length) w (by omega) hl hc (by rw [bs_size]; omega) (fun w => ihx (a + 1) _ w oa hd1)
    · cases e1
    · cases e1
  | bin c x y ihx ihy =>
    intro a r w ht hd
    have hd0 : s.data.toList.drop a = c :: (x.ser ++ (y.ser ++ r)) := by rw [hd]; simp [ser]
    obtain ⟨hl, rfl⟩ := byte_at hd0
    have hd1 : s.data.toList.drop (a + 1) = x.ser ++ (y.ser ++ r) := drop_next hd0
    have hd2 : s.data.toList.drop (a + 1 + x.ser.length) = y.ser ++ r := by rw [← List.drop_drop, hd1, List.drop_left' rfl]
    have hlen := congrArg List.length hd
    simp [ser] at hlen
    have hsz : s.size = s.data.size := rfl
    have e2 : a + (Tm.bin s[a] x y).ser.length = a + 1 + x.ser.length + y.ser.length := by simp [ser]; omega
    rw [e2]
    rcases ok_test ht with ⟨c', e1, hc⟩ | ⟨_, e1, oa⟩ | ⟨c', x', y', e1, hc, ox, oy⟩ | ⟨c', x', y', e1, hc, ox, oy⟩
    · cases e1
    · cases e1
    · injection e1 with e3 e4 e5
      subst e4 e5
      rw [← e3] at hc
      have h1 := shw_len' ox; have h2 := shw_len' oy
      rw [← shw_cmp hc]
      exact spx_cmp s _ _ a (a + 1 + x.ser.length) (a + 1 + x.ser.length + y.ser.length) w (by omega) hl hc (by rw [bs_size]; omega) (by rw [bs_size]; omega) (fun w => spw_any s hs x (a + 1) _ w ox hd1) (fun w => spw_any s hs y _ _ w oy hd2)
    · injection e1 with e3 e4 e5
      subst e4 e5
      rw [← e3] at hc
      have h1 := shw_len' ox; have h2 := shw_len' oy
      rw [← shw_bin2 hc]
      exact spx_bin s _ _ a (a + 1 + x.ser.length) (a + 1 + x.ser.length + y.ser.length) w (by omega) hl hc (by rw [bs_size]; omega) (by rw [bs_size]; omega) (fun w => ihx (a + 1) _ w ox hd1) (fun w => ihy _ _ w oy hd2)

set_option maxHeartbeats 2000000 in
theorem showText_yes (k : Bool) (s : ByteArray) (w : World) {t : Tm} (ht : Ok false k t) (hs : s.data.toList = t.ser) (hl : s.size ≤ 200) :
    Calls Tryd.prog 50 #[.string s, .int .u8 (kcode k)] w fun e w' => e = .returned (.string (bs (shw t))) ∧ Below w.heap.size w w' := by
  have HC := fun w => Lib.hid (read_yes k s w ht hs hl)
  have htl : t.ser.length ≤ 200 := by rw [← hs]; simpa using hl
  have HV := Lib.hid (show_any (wide := false) t k)
  clear hs
  go_enter Tryd.func50, Tryd.ntmps50
  go_wp2_with fail
  refine (HC _).out.mono ?_
  rintro e w1 ⟨xc, ya, yn, ym, rfl, hr, hb⟩
  have HB := Lib.hid hb
  have HR := Lib.hid hr
  clear hb hr
  go_wp2_with fail
  refine (HV.out _ _ _ _ ht (Nat.le_trans htl (by omega)) (HR.out.below ((Below.refl _ _).alloc (Nat.le_refl _) _))).mono ?_
  rintro e w4 ⟨rfl, hb⟩
  have HB4 := Lib.hid ((HB.out.alloc HB.out.size (.cells #[.int .u8 xc, .slice ya yn ym] 40)).trans (hb.mono (by have := HB.out.size; simp; omega)))
  clear hb
  go_wp2_with fail
  go_ret
  exact ⟨rfl, HB4.out⟩

set_option maxHeartbeats 2000000 in
theorem showText_no (k : Bool) (s : ByteArray) (w : World) (h : ¬ (Valid false k s.data.toList ∧ s.size ≤ 200)) :
    Calls Tryd.prog 50 #[.string s, .int .u8 (kcode k)] w fun e w' => e = .returned (.string (bs [])) ∧ Below w.heap.size w w' := by
  have HC := fun w => Lib.hid (read_no k s w h)
  clear h
  go_enter Tryd.func50, Tryd.ntmps50
  go_wp2_with fail
  refine (HC _).out.mono ?_
  rintro e w1 ⟨rfl, hb⟩
  have HB := Lib.hid hb
  clear hb
  go_wp2_with fail
  go_ret
  exact ⟨rfl, HB.out.alloc HB.out.size _⟩

set_option maxHeartbeats 2000000 in
theorem implShowExpr_yes (s : ByteArray) (w : World) {t : Tm} (ht : Ok false false t) (hs : s.data.toList = t.ser) (hl : s.size ≤ 200) :
    Calls Tryd.prog 28 #[.string s] w fun e w' => e = .returned (.string (bs (shw t))) ∧ Below w.heap.size w w' := by
  have HC := fun w => Lib.hid (showText_yes false s w ht hs hl)
  clear hs
  go_enter Tryd.func28, Tryd.ntmps28
  go_wp2_with fail
  refine (HC _).out.mono ?_
  rintro e w1 ⟨rfl, hb⟩
  have HB := Lib.hid hb
  clear hb
  go_wp2_with fail
  go_ret
  exact ⟨rfl, HB.out⟩
set_option maxHeartbeats 2000000 in
theorem implShowExpr_no (s : ByteArray) (w : World) (h : ¬ (Valid false false s.data.toList ∧ s.size ≤ 200)) :
    Calls Tryd.prog 28 #[.string s] w fun e w' => e = .returned (.string (bs [])) ∧ Below w.heap.size w w' := by
  have HC := fun w => Lib.hid (showText_no false s w h)
  clear h
  go_enter Tryd.func28, Tryd.ntmps28
  go_wp2_with fail
  refine (HC _).out.mono ?_
  rintro e w1 ⟨rfl, hb⟩
  have HB := Lib.hid hb
  clear hb
  go_wp2_with fail
  go_ret
  exact ⟨rfl, HB.out⟩
set_option maxHeartbeats 2000000 in
theorem specShowExpr_yes (s : ByteArray) (w : World) {t : Tm} (ht : Ok false false t) (hs : s.data.toList = t.ser) (hl : s.size ≤ 200) :
    Calls Tryd.prog 27 #[.string s] w fun e w' => e = .returned (.string (bs (shw t))) ∧ Below w.heap.size w w' := by
  have HC := fun w => Lib.hid (specExpr_yes s w ⟨t, ht, hs⟩ hl)
  have HV := fun w => Lib.hid (spw_any s (by omega) t 0 [] w ht (by simp [hs]))
  clear hs
  go_enter Tryd.func27, Tryd.ntmps27
  go_wp2_with fail
  refine (HC _).out.mono ?_
  rintro e w1 ⟨rfl, n, rfl⟩
  go_wp2_with fail
  refine (HV _).out.mono ?_
  rintro e w2 ⟨rfl, rfl⟩
  go_wp2_with fail
  go_ret
  exact ⟨rfl, below_of_drewN (Below.refl _ _) n⟩
set_option maxHeartbeats 2000000 in
theorem specShowExpr_no (s : ByteArray) (w : World) (h : ¬ (Valid false false s.data.toList ∧ s.size ≤ 200)) :
    Calls Tryd.prog 27 #[.string s] w fun e w' => e = .returned (.string (bs [])) ∧ Below w.heap.size w w' := by
  have HC := fun w => Lib.hid (specExpr_no s w h)
  clear h
  go_enter Tryd.func27, Tryd.ntmps27
  go_wp2_with fail
  refine (HC _).out.mono ?_
  rintro e w1 ⟨rfl, n, rfl⟩
  go_wp2_with fail
  go_ret
  exact ⟨rfl, below_of_drewN (Below.refl _ _) n⟩

set_option maxHeartbeats 2000000 in
theorem implShowTest_yes (s : ByteArray) (w : World) {t : Tm} (ht : Ok false true t) (hs : s.data.toList = t.ser) (hl : s.size ≤ 200) :
    Calls Tryd.prog 30 #[.string s] w fun e w' => e = .returned (.string (bs (shw t))) ∧ Below w.heap.size w w' := by
  have HC := fun w => Lib.hid (showText_yes true s w ht hs hl)
  clear hs
  go_enter Tryd.func30, Tryd.ntmps30
  go_wp2_with fail
  refine (HC _).out.mono ?_
  rintro e w1 ⟨rfl, hb⟩
  have HB := Lib.hid hb
  clear hb
  go_wp2_with fail
  go_ret
  exact ⟨rfl, HB.out⟩
set_option maxHeartbeats 2000000 in
theorem implShowTest_no (s : ByteArray) (w : World) (h : ¬ (Valid false true s.data.toList ∧ s.size ≤ 200)) :
    Calls Tryd.prog 30 #[.string s] w fun e w' => e = .returned (.string (bs [])) ∧ Below w.heap.size w w' := by
  have HC := fun w => Lib.hid (showText_no true s w h)
  clear h
  go_enter Tryd.func30, Tryd.ntmps30
  go_wp2_with fail
  refine (HC _).out.mono ?_
  rintro e w1 ⟨rfl, hb⟩
  have HB := Lib.hid hb
  clear hb
  go_wp2_with fail
  go_ret
  exact ⟨rfl, HB.out⟩
set_option maxHeartbeats 2000000 in
theorem specShowTest_yes (s : ByteArray) (w : World) {t : Tm} (ht : Ok false true t) (hs : s.data.toList = t.ser) (hl : s.size ≤ 200) :
    Calls Tryd.prog 29 #[.string s] w fun e w' => e = .returned (.string (bs (shw t))) ∧ Below w.heap.size w w' := by
  have HC := fun w => Lib.hid (specTest_yes s w ⟨t, ht, hs⟩ hl)
  have HV := fun w => Lib.hid (spx_any s (by omega) t 0 [] w ht (by simp [hs]))
  clear hs
  go_enter Tryd.func29, Tryd.ntmps29
  go_wp2_with fail
  refine (HC _).out.mono ?_
  rintro e w1 ⟨rfl, n, rfl⟩
  go_wp2_with fail
  refine (HV _).out.mono ?_
  rintro e w2 ⟨rfl, rfl⟩
  go_wp2_with fail
  go_ret
  exact ⟨rfl, below_of_drewN (Below.refl _ _) n⟩
set_option maxHeartbeats 2000000 in
theorem specShowTest_no (s : ByteArray) (w : World) (h : ¬ (Valid false true s.data.toList ∧ s.size ≤ 200)) :
    Calls Tryd.prog 29 #[.string s] w fun e w' => e = .returned (.string (bs [])) ∧ Below w.heap.size w w' := by
  have HC := fun w => Lib.hid (specTest_no s w h)
  clear h
  go_enter Tryd.func29, Tryd.ntmps29
  go_wp2_with fail
  refine (HC _).out.mono ?_
  rintro e w1 ⟨rfl, n, rfl⟩
  go_wp2_with fail
  go_ret
  exact ⟨rfl, below_of_drewN (Below.refl _ _) n⟩
end Go.Proofs.YtpdepihggpfmiaaDoor
