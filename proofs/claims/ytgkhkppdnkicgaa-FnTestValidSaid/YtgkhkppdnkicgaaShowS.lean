/-
  ShowExpr and ShowTest, of the program and of the model: the usual form, or the empty text.
-/
import Derived.Test.YtgkhkppdnkicgaaShow
import Derived.Test.YtgkhkppdnkicgaaSpv
namespace Go.Proofs.Ytgkhkppdnkicgaa
open Go.RowKit Tm

theorem shw_len {k : Bool} : ∀ {t : Tm}, Ok false k t → (shw t).length ≤ 5 * t.ser.length := by
  intro t
  induction t generalizing k with
  | leaf c =>
    intro _
    simp only [shw, ser]
    split
    · simp
    · split <;> simp
  | un c a ih =>
    rintro ⟨k1, _, h⟩
    have := ih h
    simp [shw, ser]; omega
  | bin c a b iha ihb =>
    rintro ⟨k1, k2, _, h1, h2⟩
    have := iha h1; have := ihb h2
    simp only [shw, ser]
    split <;> simp <;> omega
/-- (impl.term).show, at every tree that is an expression or a test. -/
theorem show_any : ∀ (t : Tm) (k : Bool) (B : Nat) (x y : Value) (w : World), Ok false k t → t.ser.length ≤ 200 → RepT w B t x y →
    Calls Try.prog 28 #[.agg #[x, y]] w fun e w' => e = .returned (.string (bs (shw t))) ∧ Below w.heap.size w w' := by
  have cmp : ∀ (c : UInt8) (a d : Tm), c = 61 ∨ c = 60 → bs (shw a) ++ bs [c] ++ bs (shw d) = bs (shw (.bin c a d)) := fun c a d h => by
    rw [bs_append, bs_append]; simp only [shw, if_pos h]
  have bin : ∀ (c : UInt8) (a d : Tm), ¬ (c = 61 ∨ c = 60) → bs [40] ++ bs (shw a) ++ bs [c] ++ bs (shw d) ++ bs [41] = bs (shw (.bin c a d)) := fun c a d h => by
    rw [bs_append, bs_append, bs_append, bs_append]; simp only [shw, if_neg h]
  intro t
  induction t with
  | leaf c =>
    intro k B x y w ht _ hr
    obtain ⟨rfl, a, n, rfl⟩ := hr
    refine show_leaf c w ?_ a n
    cases k
    · rcases ok_expr ht with ⟨c', e1, hc⟩ | ⟨_, _, _, e1, _⟩
      · cases e1; rcases leaf_cases hc with h | h | h | h | h | h <;> simp [h]
      · cases e1
    · rcases ok_test ht with ⟨c', e1, hc⟩ | ⟨_, e1, _⟩ | ⟨_, _, _, e1, _⟩ | ⟨_, _, _, e1, _⟩
      · cases e1; rcases hc with h | h <;> simp [h]
      · cases e1
      · cases e1
      · cases e1
  | un c a iha =>
    intro k B x y w ht hl hr
    obtain ⟨rfl, b, n, x1, y1, rfl, _, k0, k1, r1⟩ := hr
    obtain ⟨z1, p1, m1, n1, rfl, rfl⟩ := r1.forms
    cases k
    · rcases ok_expr ht with ⟨_, e1, _⟩ | ⟨_, _, _, e1, _⟩ <;> cases e1
    · rcases ok_test ht with ⟨c', e1, hc⟩ | ⟨_, e1, oa⟩ | ⟨_, _, _, e1, _⟩ | ⟨_, _, _, e1, _⟩
      · cases e1
      · cases e1
        simp only [ser, List.length_cons] at hl
        have h1 := shw_len oa
        exact show_not 33 w rfl b n z1 p1 m1 n1 (bs (shw a)) (by rw [bs_size]; omega) _ (by rw [bs_append, bs_append]; rfl) k0 k1 (fun w' h => iha true B _ _ w' oa (by omega) (r1.below h))
      · cases e1
      · cases e1
  | bin c a d iha ihd =>
    intro k B x y w ht hl hr
    obtain ⟨rfl, b, n, x1, y1, x2, y2, rfl, _, k0, k1, k2, k3, r1, r2⟩ := hr
    obtain ⟨z1, p1, m1, n1, rfl, rfl⟩ := r1.forms
    obtain ⟨z2, p2, m2, n2, rfl, rfl⟩ := r2.forms
    obtain ⟨ka, kd, ho, oa, od⟩ := ht
    have h1 := shw_len oa
    have h2 := shw_len od
    simp only [ser, List.length_cons, List.length_append] at hl
    have c1 := fun w' (h : Below w.heap.size w w') => iha ka B _ _ w' oa (by omega) (r1.below h)
    have c2 := fun w' (h : Below w.heap.size w w') => ihd kd B _ _ w' od (by omega) (r2.below h)
    have hs1 : (bs (shw a)).size ≤ 1000000 := by rw [bs_size]; omega
    have hs2 : (bs (shw d)).size ≤ 1000000 := by rw [bs_size]; omega
    by_cases hc : c = 61 ∨ c = 60
    · exact show_cmp c w hc b n z1 z2 p1 p2 m1 m2 n1 n2 _ _ hs1 hs2 _ (cmp c a d hc) k0 k1 k2 k3 c1 c2
    · refine show_bin c w ?_ b n z1 z2 p1 p2 m1 m2 n1 n2 _ _ hs1 hs2 _ (bin c a d hc) k0 k1 k2 k3 c1 c2
      rcases opk_cases ho with h | ⟨_, _, h⟩ | h | ⟨_, _, h⟩ | h | ⟨_, _, h⟩
      · simp at h
      · rcases h with h | h | h <;> simp [h]
      · simp at h
      · exact absurd h hc
      · simp at h
      · rcases h with h | h <;> simp [h]

theorem op_find (c : UInt8) (r : Int) (w : World) (h : fnd [43, 45, 42] c = r) : Calls Try.prog 26 #[.string ⟨#[43, 45, 42]⟩, .int .u8 c.toNat] w fun e w' => e = .returned (.int .i64 r) ∧ w' = w :=
  find_at (s := ⟨#[43, 45, 42]⟩) h w (by simp [maxLen, ByteArray.size])

theorem shw_bin {c : UInt8} (h : isOpB c = true) (x y : Tm) : bs [40] ++ bs (shw x) ++ bs [c] ++ bs (shw y) ++ bs [41] = bs (shw (.bin c x y)) := by
  rw [bs_append, bs_append, bs_append, bs_append]
  rcases op_cases h with rfl | rfl | rfl <;> rfl
theorem shw_bin2 {c : UInt8} (h : c = 38 ∨ c = 124) (x y : Tm) : bs [40] ++ bs (shw x) ++ bs [c] ++ bs (shw y) ++ bs [41] = bs (shw (.bin c x y)) := by
  rw [bs_append, bs_append, bs_append, bs_append]
  rcases h with rfl | rfl <;> rfl
theorem shw_cmp {c : UInt8} (h : c = 61 ∨ c = 60) (x y : Tm) : bs (shw x) ++ bs [c] ++ bs (shw y) = bs (shw (.bin c x y)) := by
  rw [bs_append, bs_append]
  rcases h with rfl | rfl <;> rfl
theorem shw_leaf {wide : Bool} {c : UInt8} (h : (isVarB wide c || isDigB c) = true) : bs [c] = bs (shw (.leaf c)) := by
  have h2 : ¬ c = 116 ∧ ¬ c = 102 := by
    constructor <;> (rintro rfl; cases wide <;> simp [isVarB, isDigB] at h)
  simp only [shw, if_neg h2.1, if_neg h2.2]
theorem not_op_of_leaf {wide : Bool} {c : UInt8} (h : (isVarB wide c || isDigB c) = true) : ¬ isOpB c = true := by
  intro ho
  rcases op_cases ho with rfl | rfl | rfl <;> (cases wide <;> simp [isVarB, isDigB] at h)

theorem shw_len' {wide k : Bool} : ∀ {t : Tm}, Ok wide k t → (shw t).length ≤ 5 * t.ser.length := by
  intro t
  induction t generalizing k with
  | leaf c =>
    intro _
    simp only [shw, ser]
    split
    · simp
    · split <;> simp
  | un c a ih =>
    rintro ⟨k1, _, h⟩
    have := ih h
    simp [shw, ser]; omega
  | bin c a b iha ihb =>
    rintro ⟨k1, k2, _, h1, h2⟩
    have := iha h1; have := ihb h2
    simp only [shw, ser]
    split <;> simp <;> omega

set_option maxHeartbeats 2000000 in
theorem showText_yes (k : Bool) (s : ByteArray) (w : World) {t : Tm} (ht : Ok false k t) (hs : s.data.toList = t.ser) (hl : s.size ≤ 200) :
    Calls Try.prog 20 #[.string s, .int .u8 (kcode k)] w fun e w' => e = .returned (.string (bs (shw t))) ∧ Below w.heap.size w w' := by
  have HC := fun w => Lib.hid (read_yes k s w ht hs hl)
  have htl : t.ser.length ≤ 200 := by rw [← hs]; simpa using hl
  have HV := Lib.hid (show_any t k)
  clear hs
  go_enter Try.func20, Try.ntmps20
  go_wp2_with fail
  refine (HC _).out.mono ?_
  rintro e w1 ⟨xc, ya, yn, ym, rfl, hr, hb⟩
  have HB := Lib.hid hb
  have HR := Lib.hid hr
  clear hb hr
  go_wp2_with fail
  refine (HV.out _ _ _ _ ht htl (HR.out.below ((Below.refl _ _).alloc (Nat.le_refl _) _))).mono ?_
  rintro e w4 ⟨rfl, hb⟩
  have HB4 := Lib.hid ((HB.out.alloc HB.out.size (.cells #[.int .u8 xc, .slice ya yn ym] 34)).trans (hb.mono (by have := HB.out.size; simp; omega)))
  clear hb
  go_wp2_with fail
  go_ret
  exact ⟨rfl, HB4.out⟩

set_option maxHeartbeats 2000000 in
theorem showText_no (k : Bool) (s : ByteArray) (w : World) (h : ¬ (Valid false k s.data.toList ∧ s.size ≤ 200)) :
    Calls Try.prog 20 #[.string s, .int .u8 (kcode k)] w fun e w' => e = .returned (.string (bs [])) ∧ Below w.heap.size w w' := by
  have HC := fun w => Lib.hid (read_no k s w h)
  clear h
  go_enter Try.func20, Try.ntmps20
  go_wp2_with fail
  refine (HC _).out.mono ?_
  rintro e w1 ⟨rfl, hb⟩
  have HB := Lib.hid hb
  clear hb
  go_wp2_with fail
  go_ret
  exact ⟨rfl, HB.out.alloc HB.out.size _⟩

set_option maxHeartbeats 2000000 in
theorem implShowTest_yes (s : ByteArray) (w : World) {t : Tm} (ht : Ok false true t) (hs : s.data.toList = t.ser) (hl : s.size ≤ 200) :
    Calls Try.prog 12 #[.string s] w fun e w' => e = .returned (.string (bs (shw t))) ∧ Below w.heap.size w w' := by
  have HC := fun w => Lib.hid (showText_yes true s w ht hs hl)
  clear hs
  go_enter Try.func12, Try.ntmps12
  go_wp2_with fail
  refine (HC _).out.mono ?_
  rintro e w1 ⟨rfl, hb⟩
  have HB := Lib.hid hb
  clear hb
  go_wp2_with fail
  go_ret
  exact ⟨rfl, HB.out⟩
set_option maxHeartbeats 2000000 in
theorem implShowTest_no (s : ByteArray) (w : World) (h : ¬ (Valid false true s.data.toList ∧ s.size ≤ 200)) :
    Calls Try.prog 12 #[.string s] w fun e w' => e = .returned (.string (bs [])) ∧ Below w.heap.size w w' := by
  have HC := fun w => Lib.hid (showText_no true s w h)
  clear h
  go_enter Try.func12, Try.ntmps12
  go_wp2_with fail
  refine (HC _).out.mono ?_
  rintro e w1 ⟨rfl, hb⟩
  have HB := Lib.hid hb
  clear hb
  go_wp2_with fail
  go_ret
  exact ⟨rfl, HB.out⟩
end Go.Proofs.Ytgkhkppdnkicgaa
