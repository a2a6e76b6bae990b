/-
  spec.l1Value: the value of the expression that begins at an index, and where it ends.
-/
import Derived.Test.YtpdepihggpfmiaaDoorVal
namespace Go.Proofs.YtpdepihggpfmiaaDoor
open Go.RowKit Tm

def envV (e : Nat → Int) : Value := .agg #[.int .i64 (e 0), .int .i64 (e 1), .int .i64 (e 2), .int .i64 (e 3), .int .i64 (e 4), .int .i64 (e 5)]

theorem byte_at {s : ByteArray} {a : Nat} {c : UInt8} {r : List UInt8} (h : s.data.toList.drop a = c :: r) : ∃ h : a < s.size, s[a] = c := by
  have hl : a < s.size := by
    have := congrArg List.length h
    simp at this
    have h2 : s.size = s.data.size := rfl
    omega
  refine ⟨hl, ?_⟩
  rw [drop_cons' s a hl] at h
  exact (List.cons.inj h).1

theorem wleaf_cases {c : UInt8} (h : (isVarB true c || isDigB c) = true) : c = 120 ∨ c = 121 ∨ c = 122 ∨ c = 88 ∨ c = 89 ∨ c = 90 ∨ c = 48 ∨ c = 49 ∨ c = 50 := by
  simp [isVarB, isDigB] at h; rcases h with (((h | h) | h) | ((h | h) | h)) | ((h | h) | h) <;> simp [h]

theorem six_find (c : UInt8) (r : Int) (w : World) (h : fnd [120, 121, 122, 88, 89, 90] c = r) : Calls Tryd.prog 57 #[.string ⟨#[120, 121, 122, 88, 89, 90]⟩, .int .u8 c.toNat] w fun e w' => e = .returned (.int .i64 r) ∧ w' = w :=
  find_at (s := ⟨#[120, 121, 122, 88, 89, 90]⟩) h w (by simp [maxLen, ByteArray.size])

set_option maxHeartbeats 2000000 in
theorem spv_leaf (e : Nat → Int) (s : ByteArray) (a : Nat) (w : World) (hs : s.size ≤ 1000000) (ha : a < s.size) (hc : s[a] = 120 ∨ s[a] = 121 ∨ s[a] = 122 ∨ s[a] = 88 ∨ s[a] = 89 ∨ s[a] = 90 ∨ s[a] = 48 ∨ s[a] = 49 ∨ s[a] = 50) :
    Calls Tryd.prog 41 #[.string s, .int .i64 a, envV e] w fun e' w' => e' = .returned (.tuple #[.int .i64 (val e (.leaf s[a])), .int .i64 (a + 1)]) ∧ Below w.heap.size w w' := by
  have h0 : (0 : Int) ≤ (a : Int) := by omega
  have h1 : (a : Int) < (s.size : Int) := by omega
  unfold envV
  rcases hc with hc | hc | hc | hc | hc | hc | hc | hc | hc
  · have hcn : s[a].toNat = 120 := by rw [hc]; rfl
    have K : Hid (∀ w, Calls Tryd.prog 57 #[.string ⟨#[120, 121, 122, 88, 89, 90]⟩, .int .u8 120] w fun e w' => e = .returned (.int .i64 0) ∧ w' = w) := fun w => six_find 120 0 w rfl
    have V : Hid (val e (.leaf s[a]) = e 0) := by rw [hc]; rfl
    clear hc
    go_enter Tryd.func41, Tryd.ntmps41
    go_wp2_with fail
    refine (K.out _).mono ?_
    rintro e' w' ⟨rfl, rfl⟩
    go_wp2_with fail
    go_ret2
    exact ⟨by rw [V.out]; rfl, (Below.refl _ _).alloc (Nat.le_refl _) _⟩
  · have hcn : s[a].toNat = 121 := by rw [hc]; rfl
    have K : Hid (∀ w, Calls Tryd.prog 57 #[.string ⟨#[120, 121, 122, 88, 89, 90]⟩, .int .u8 121] w fun e w' => e = .returned (.int .i64 1) ∧ w' = w) := fun w => six_find 121 1 w rfl
    have V : Hid (val e (.leaf s[a]) = e 1) := by rw [hc]; rfl
    clear hc
    go_enter Tryd.func41, Tryd.ntmps41
    go_wp2_with fail
    refine (K.out _).mono ?_
    rintro e' w' ⟨rfl, rfl⟩
    go_wp2_with fail
    go_ret2
    exact ⟨by rw [V.out]; rfl, (Below.refl _ _).alloc (Nat.le_refl _) _⟩
  · have hcn : s[a].toNat = 122 := by rw [hc]; rfl
    have K : Hid (∀ w, Calls Tryd.prog 57 #[.string ⟨#[120, 121, 122, 88, 89, 90]⟩, .int .u8 122] w fun e w' => e = .returned (.int .i64 2) ∧ w' = w) := fun w => six_find 122 2 w rfl
    have V : Hid (val e (.leaf s[a]) = e 2) := by rw [hc]; rfl
    clear hc
    go_enter Tryd.func41, Tryd.ntmps41
    go_wp2_with fail
    refine (K.out _).mono ?_
    rintro e' w' ⟨rfl, rfl⟩
    go_wp2_with fail
    go_ret2
    exact ⟨by rw [V.out]; rfl, (Below.refl _ _).alloc (Nat.le_refl _) _⟩
  · have hcn : s[a].toNat = 88 := by rw [hc]; rfl
    have K : Hid (∀ w, Calls Tryd.prog 57 #[.string ⟨#[120, 121, 122, 88, 89, 90]⟩, .int .u8 88] w fun e w' => e = .returned (.int .i64 3) ∧ w' = w) := fun w => six_find 88 3 w rfl
    have V : Hid (val e (.leaf s[a]) = e 3) := by rw [hc]; rfl
    clear hc
    go_enter Tryd.func41, Tryd.ntmps41
    go_wp2_with fail
    refine (K.out _).mono ?_
    rintro e' w' ⟨rfl, rfl⟩
    go_wp2_with fail
    go_ret2
    exact ⟨by rw [V.out]; rfl, (Below.refl _ _).alloc (Nat.le_refl _) _⟩
  · have hcn : s[a].toNat = 89 := by rw [hc]; rfl
    have K : Hid (∀ w, Calls Tryd.prog 57 #[.string ⟨#[120, 121, 122, 88, 89, 90]⟩, .int .u8 89] w fun e w' => e = .returned (.int .i64 4) ∧ w' = w) := fun w => six_find 89 4 w rfl
    have V : Hid (val e (.leaf s[a]) = e 4) := by rw [hc]; rfl
    clear hc
    go_enter Tryd.func41, Tryd.ntmps41
    go_wp2_with fail
    refine (K.out _).mono ?_
    rintro e' w' ⟨rfl, rfl⟩
    go_wp2_with fail
    go_ret2
    exact ⟨by rw [V.out]; rfl, (Below.refl _ _).alloc (Nat.le_refl _) _⟩
  · have hcn : s[a].toNat = 90 := by rw [hc]; rfl
    have K : Hid (∀ w, Calls Tryd.prog 57 #[.string ⟨#[120, 121, 122, 88, 89, 90]⟩, .int .u8 90] w fun e w' => e = .returned (.int .i64 5) ∧ w' = w) := fun w => six_find 90 5 w rfl
    have V : Hid (val e (.leaf s[a]) = e 5) := by rw [hc]; rfl
    clear hc
    go_enter Tryd.func41, Tryd.ntmps41
    go_wp2_with fail
    refine (K.out _).mono ?_
    rintro e' w' ⟨rfl, rfl⟩
    go_wp2_with fail
    go_ret2
    exact ⟨by rw [V.out]; rfl, (Below.refl _ _).alloc (Nat.le_refl _) _⟩
  · have hcn : s[a].toNat = 48 := by rw [hc]; rfl
    have K : Hid (∀ w, Calls Tryd.prog 57 #[.string ⟨#[120, 121, 122, 88, 89, 90]⟩, .int .u8 48] w fun e w' => e = .returned (.int .i64 (-1)) ∧ w' = w) := fun w => six_find 48 (-1) w rfl
    have V : Hid (val e (.leaf s[a]) = 0) := by rw [hc]; rfl
    clear hc
    go_enter Tryd.func41, Tryd.ntmps41
    go_wp2_with fail
    refine (K.out _).mono ?_
    rintro e' w' ⟨rfl, rfl⟩
    go_wp2_with fail
    go_ret2
    exact ⟨by rw [V.out]; rfl, (Below.refl _ _).alloc (Nat.le_refl _) _⟩
  · have hcn : s[a].toNat = 49 := by rw [hc]; rfl
    have K : Hid (∀ w, Calls Tryd.prog 57 #[.string ⟨#[120, 121, 122, 88, 89, 90]⟩, .int .u8 49] w fun e w' => e = .returned (.int .i64 (-1)) ∧ w' = w) := fun w => six_find 49 (-1) w rfl
    have V : Hid (val e (.leaf s[a]) = 1) := by rw [hc]; rfl
    clear hc
    go_enter Tryd.func41, Tryd.ntmps41
    go_wp2_with fail
    refine (K.out _).mono ?_
    rintro e' w' ⟨rfl, rfl⟩
    go_wp2_with fail
    go_ret2
    exact ⟨by rw [V.out]; rfl, (Below.refl _ _).alloc (Nat.le_refl _) _⟩
  · have hcn : s[a].toNat = 50 := by rw [hc]; rfl
    have K : Hid (∀ w, Calls Tryd.prog 57 #[.string ⟨#[120, 121, 122, 88, 89, 90]⟩, .int .u8 50] w fun e w' => e = .returned (.int .i64 (-1)) ∧ w' = w) := fun w => six_find 50 (-1) w rfl
    have V : Hid (val e (.leaf s[a]) = 2) := by rw [hc]; rfl
    clear hc
    go_enter Tryd.func41, Tryd.ntmps41
    go_wp2_with fail
    refine (K.out _).mono ?_
    rintro e' w' ⟨rfl, rfl⟩
    go_wp2_with fail
    go_ret2
    exact ⟨by rw [V.out]; rfl, (Below.refl _ _).alloc (Nat.le_refl _) _⟩

theorem Box6.new (w : World) (e : Nat → Int) : ∀ j, j < 6 → (w.alloc (.cells #[.int .i64 (e 0), .int .i64 (e 1), .int .i64 (e 2), .int .i64 (e 3), .int .i64 (e 4), .int .i64 (e 5)] 47)).cell? ⟨w.heap.size, j, none⟩ = some (.int .i64 (e j)) := by
  intro j hj
  match j, hj with
  | 0, _ => simp [go_sem]
  | 1, _ => simp [go_sem]
  | 2, _ => simp [go_sem]
  | 3, _ => simp [go_sem]
  | 4, _ => simp [go_sem]
  | 5, _ => simp [go_sem]

set_option maxRecDepth 100000 in
set_option maxHeartbeats 4000000 in
theorem spv_bin (e : Nat → Int) (s : ByteArray) (a n1 n2 : Nat) (va vb : Int) (w : World) (hs : s.size ≤ 1000000) (ha : a < s.size) (hc : s[a] = 43 ∨ s[a] = 45 ∨ s[a] = 42) (_hn1 : n1 ≤ s.size) (_hn2 : n2 ≤ s.size)
    (ha0 : 0 ≤ va) (hva : va ≤ 2) (hb0 : 0 ≤ vb) (hvb : vb ≤ 2)
    (c1 : ∀ w, Calls Tryd.prog 41 #[.string s, .int .i64 (a + 1), envV e] w fun e' w' => e' = .returned (.tuple #[.int .i64 va, .int .i64 n1]) ∧ Below w.heap.size w w')
    (c2 : ∀ w, Calls Tryd.prog 41 #[.string s, .int .i64 n1, envV e] w fun e' w' => e' = .returned (.tuple #[.int .i64 vb, .int .i64 n2]) ∧ Below w.heap.size w w') :
    Calls Tryd.prog 41 #[.string s, .int .i64 a, envV e] w fun e' w' => e' = .returned (.tuple #[.int .i64 (cmp3 s[a] va vb), .int .i64 n2]) ∧ Below w.heap.size w w' := by
  have h0 : (0 : Int) ≤ (a : Int) := by omega
  have h1 : (a : Int) < (s.size : Int) := by omega
  have h2 : 0 ≤ va * vb := Int.mul_nonneg ha0 hb0
  have h3 : va * vb ≤ 4 := by
    have := Int.mul_le_mul hva hvb hb0 (show (0 : Int) ≤ 2 by omega)
    omega
  have C1 := Lib.hid c1
  have C2 := Lib.hid c2
  clear c1 c2
  unfold envV at *
  rcases hc with hc | hc | hc
  · have hcn : s[a].toNat = 43 := by rw [hc]; rfl
    have K : Hid (∀ w, Calls Tryd.prog 57 #[.string ⟨#[120, 121, 122, 88, 89, 90]⟩, .int .u8 43] w fun e w' => e = .returned (.int .i64 (-1)) ∧ w' = w) := fun w => six_find 43 (-1) w rfl
    have V : Hid (cmp3 s[a] va vb = cmp3 43 va vb) := by rw [hc]; rfl
    clear hc
    go_enter Tryd.func41, Tryd.ntmps41
    go_wp2_with fail
    refine (K.out _).mono ?_
    rintro e' w' ⟨rfl, rfl⟩
    go_wp2_with fail
    have bx := Box6.new w e
    have hB := (Below.refl w.heap.size w).alloc (Nat.le_refl _) (.cells #[.int .i64 (e 0), .int .i64 (e 1), .int .i64 (e 2), .int .i64 (e 3), .int .i64 (e 4), .int .i64 (e 5)] 47)
    generalize w.alloc (.cells #[.int .i64 (e 0), .int .i64 (e 1), .int .i64 (e 2), .int .i64 (e 3), .int .i64 (e 4), .int .i64 (e 5)] 47) = w0 at *
    refine (C1.out _).mono ?_
    rintro e' w1 ⟨rfl, hq⟩
    have q0 := cell_keep hq (bx 0 (by omega)); have q1 := cell_keep hq (bx 1 (by omega)); have q2 := cell_keep hq (bx 2 (by omega))
    have q3 := cell_keep hq (bx 3 (by omega)); have q4 := cell_keep hq (bx 4 (by omega)); have q5 := cell_keep hq (bx 5 (by omega))
    have HB := Lib.hid (hB.trans (hq.mono hB.size))
    clear hq hB bx
    go_wp2_with fail
    refine (C2.out _).mono ?_
    rintro e' w2 ⟨rfl, hq⟩
    have HB2 := Lib.hid (HB.out.trans (hq.mono HB.out.size))
    clear hq q0 q1 q2 q3 q4 q5
    go_wp2_with fail
    go_ret2
    exact ⟨by rw [V.out]; rfl, HB2.out⟩
  · have hcn : s[a].toNat = 45 := by rw [hc]; rfl
    have K : Hid (∀ w, Calls Tryd.prog 57 #[.string ⟨#[120, 121, 122, 88, 89, 90]⟩, .int .u8 45] w fun e w' => e = .returned (.int .i64 (-1)) ∧ w' = w) := fun w => six_find 45 (-1) w rfl
    have V : Hid (cmp3 s[a] va vb = cmp3 45 va vb) := by rw [hc]; rfl
    clear hc
    go_enter Tryd.func41, Tryd.ntmps41
    go_wp2_with fail
    refine (K.out _).mono ?_
    rintro e' w' ⟨rfl, rfl⟩
    go_wp2_with fail
    have bx := Box6.new w e
    have hB := (Below.refl w.heap.size w).alloc (Nat.le_refl _) (.cells #[.int .i64 (e 0), .int .i64 (e 1), .int .i64 (e 2), .int .i64 (e 3), .int .i64 (e 4), .int .i64 (e 5)] 47)
    generalize w.alloc (.cells #[.int .i64 (e 0), .int .i64 (e 1), .int .i64 (e 2), .int .i64 (e 3), .int .i64 (e 4), .int .i64 (e 5)] 47) = w0 at *
    refine (C1.out _).mono ?_
    rintro e' w1 ⟨rfl, hq⟩
    have q0 := cell_keep hq (bx 0 (by omega)); have q1 := cell_keep hq (bx 1 (by omega)); have q2 := cell_keep hq (bx 2 (by omega))
    have q3 := cell_keep hq (bx 3 (by omega)); have q4 := cell_keep hq (bx 4 (by omega)); have q5 := cell_keep hq (bx 5 (by omega))
    have HB := Lib.hid (hB.trans (hq.mono hB.size))
    clear hq hB bx
    go_wp2_with fail
    refine (C2.out _).mono ?_
    rintro e' w2 ⟨rfl, hq⟩
    have HB2 := Lib.hid (HB.out.trans (hq.mono HB.out.size))
    clear hq q0 q1 q2 q3 q4 q5
    go_wp2_with fail
    go_ret2
    exact ⟨by rw [V.out]; rfl, HB2.out⟩
  · have hcn : s[a].toNat = 42 := by rw [hc]; rfl
    have K : Hid (∀ w, Calls Tryd.prog 57 #[.string ⟨#[120, 121, 122, 88, 89, 90]⟩, .int .u8 42] w fun e w' => e = .returned (.int .i64 (-1)) ∧ w' = w) := fun w => six_find 42 (-1) w rfl
    have V : Hid (cmp3 s[a] va vb = cmp3 42 va vb) := by rw [hc]; rfl
    clear hc
    go_enter Tryd.func41, Tryd.ntmps41
    go_wp2_with fail
    refine (K.out _).mono ?_
    rintro e' w' ⟨rfl, rfl⟩
    go_wp2_with fail
    have bx := Box6.new w e
    have hB := (Below.refl w.heap.size w).alloc (Nat.le_refl _) (.cells #[.int .i64 (e 0), .int .i64 (e 1), .int .i64 (e 2), .int .i64 (e 3), .int .i64 (e 4), .int .i64 (e 5)] 47)
    generalize w.alloc (.cells #[.int .i64 (e 0), .int .i64 (e 1), .int .i64 (e 2), .int .i64 (e 3), .int .i64 (e 4), .int .i64 (e 5)] 47) = w0 at *
    refine (C1.out _).mono ?_
    rintro e' w1 ⟨rfl, hq⟩
    have q0 := cell_keep hq (bx 0 (by omega)); have q1 := cell_keep hq (bx 1 (by omega)); have q2 := cell_keep hq (bx 2 (by omega))
    have q3 := cell_keep hq (bx 3 (by omega)); have q4 := cell_keep hq (bx 4 (by omega)); have q5 := cell_keep hq (bx 5 (by omega))
    have HB := Lib.hid (hB.trans (hq.mono hB.size))
    clear hq hB bx
    go_wp2_with fail
    refine (C2.out _).mono ?_
    rintro e' w2 ⟨rfl, hq⟩
    have HB2 := Lib.hid (HB.out.trans (hq.mono HB.out.size))
    clear hq q0 q1 q2 q3 q4 q5
    go_wp2_with fail
    go_ret2
    exact ⟨by rw [V.out]; rfl, HB2.out⟩

theorem ok_wide {k : Bool} : ∀ {t : Tm}, Ok false k t → Ok true k t := by
  have ho : ∀ (k : Bool) (c : UInt8) (l : List Bool), opk false k c = some l → opk true k c = some l := by
    intro k c l h
    cases k
    · rw [opk_e] at h ⊢
      by_cases h1 : (isVarB false c || isDigB c) = true
      · rw [if_pos h1] at h; rw [if_pos]
        · exact h
        · simp [isVarB] at h1 ⊢; rcases h1 with h1 | h1
          · left; left; exact h1
          · right; exact h1
      · rw [if_neg h1] at h
        by_cases h2 : isOpB c = true
        · rw [if_pos h2] at h
          rw [if_neg, if_pos h2]
          · exact h
          · rcases op_cases h2 with rfl | rfl | rfl <;> decide
        · rw [if_neg h2] at h; cases h
    · exact h
  intro t
  induction t generalizing k with
  | leaf c => exact fun h => ho _ _ _ h
  | un c a ih => rintro ⟨k1, h, h1⟩; exact ⟨k1, ho _ _ _ h, ih h1⟩
  | bin c a b iha ihb => rintro ⟨k1, k2, h, h1, h2⟩; exact ⟨k1, k2, ho _ _ _ h, iha h1, ihb h2⟩

/-- spec.l1Value at an index where an expression begins: its value, and where it ends. -/
theorem spv_any (e : Nat → Int) (he : ∀ i, 0 ≤ e i ∧ e i ≤ 2) (s : ByteArray) (hs : s.size ≤ 1000000) : ∀ (t : Tm) (a : Nat) (r : List UInt8) (w : World), Ok true false t → s.data.toList.drop a = t.ser ++ r →
    Calls Tryd.prog 41 #[.string s, .int .i64 a, envV e] w fun e' w' => e' = .returned (.tuple #[.int .i64 (val e t), .int .i64 ((a + t.ser.length : Nat) : Int)]) ∧ Below w.heap.size w w' := by
  intro t
  induction t with
  | leaf c =>
    intro a r w ht hd
    rcases ok_expr ht with ⟨c', e1, hc⟩ | ⟨_, _, _, e1, _⟩
    · cases e1
      obtain ⟨hl, rfl⟩ := byte_at hd
      exact spv_leaf e s a w hs hl (wleaf_cases hc)
    · cases e1
  | un c a _ =>
    intro b r w ht hd
    rcases ok_expr ht with ⟨_, e1, _⟩ | ⟨_, _, _, e1, _⟩ <;> cases e1
  | bin c x y ihx ihy =>
    intro a r w ht hd
    rcases ok_expr ht with ⟨_, e1, _⟩ | ⟨c', x', y', e1, hc, ox, oy⟩
    · cases e1
    · cases e1
      have hd0 : s.data.toList.drop a = c :: (x.ser ++ (y.ser ++ r)) := by rw [hd]; simp [ser]
      obtain ⟨hl, rfl⟩ := byte_at hd0
      have hd1 : s.data.toList.drop (a + 1) = x.ser ++ (y.ser ++ r) := drop_next hd0
      have hd2 : s.data.toList.drop (a + 1 + x.ser.length) = y.ser ++ r := by rw [← List.drop_drop, hd1, List.drop_left' rfl]
      have hlen := congrArg List.length hd
      simp [ser] at hlen
      have hsz : s.size = s.data.size := rfl
      have h1 := val_bd he ox
      have h2 := val_bd he oy
      have e2 : a + (Tm.bin s[a] x y).ser.length = a + 1 + x.ser.length + y.ser.length := by simp [ser]; omega
      rw [e2]
      exact spv_bin e s a (a + 1 + x.ser.length) (a + 1 + x.ser.length + y.ser.length) (val e x) (val e y) w hs hl (op_cases hc) (by omega) (by omega) h1.1 h1.2 h2.1 h2.2
        (fun w => ihx (a + 1) _ w ox hd1) (fun w => ihy _ _ w oy hd2)
end Go.Proofs.YtpdepihggpfmiaaDoor
