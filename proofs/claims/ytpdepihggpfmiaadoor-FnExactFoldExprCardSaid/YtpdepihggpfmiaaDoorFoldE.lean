/-
  FoldExpr, of the program and of the model: the folded expression and true, or the empty text and false.
-/
import Derived.Test.YtpdepihggpfmiaaDoorFoldS
namespace Go.Proofs.YtpdepihggpfmiaaDoor
open Go.RowKit Tm

theorem digB_head {t : Tm} (h : digB t = true) : t = .leaf t.head ∧ (t.head = 48 ∨ t.head = 49 ∨ t.head = 50) := by
  obtain ⟨c, rfl, hc⟩ := digB_form h
  exact ⟨rfl, hc⟩
theorem ser_one {wide : Bool} {t : Tm} (ht : Ok wide false t) : t.ser.length = 1 ↔ ∃ c, t = .leaf c := by
  cases t with
  | leaf c => exact ⟨fun _ => ⟨c, rfl⟩, fun _ => rfl⟩
  | un c a => rcases ok_expr ht with ⟨_, e1, _⟩ | ⟨_, _, _, e1, _⟩ <;> cases e1
  | bin c a b =>
    refine ⟨fun h => ?_, fun ⟨_, h⟩ => by cases h⟩
    have := ser_pos a; have := ser_pos b
    simp only [ser, List.length_cons, List.length_append] at h; omega

theorem fld_bin (c : UInt8) (a d : Tm) : fld (.bin c a d) = if digB (fld a) && digB (fld d) then .leaf (dl (cmp3 c ((fld a).head.toNat - 48) ((fld d).head.toNat - 48))) else .bin c (fld a) (fld d) := rfl
theorem bs_bin (c : UInt8) (t1 t2 : Tm) : bs [c] ++ bs t1.ser ++ bs t2.ser = bs (Tm.bin c t1 t2).ser := by
  rw [bs_append, bs_append]; rfl

/-- (impl.term).fold, at every tree that is an expression. -/
theorem fold_any : ∀ (t : Tm) (B : Nat) (x y : Value) (w : World), Ok false false t → t.ser.length ≤ 200 → RepT w B t x y →
    Calls Tryd.prog 53 #[.agg #[x, y]] w fun e w' => e = .returned (.string (bs (fld t).ser)) ∧ Below w.heap.size w w' := by
  intro t
  induction t with
  | leaf c =>
    intro B x y w ht _ hr
    obtain ⟨rfl, a, n, rfl⟩ := hr
    rcases ok_expr ht with ⟨c', e1, hc⟩ | ⟨_, _, _, e1, _⟩
    · cases e1; exact fold_leaf c w (leaf_cases hc) a n
    · cases e1
  | un c a _ =>
    intro B x y w ht _ hr
    rcases ok_expr ht with ⟨_, e1, _⟩ | ⟨_, _, _, e1, _⟩ <;> cases e1
  | bin c a d iha ihd =>
    intro B x y w ht hl hr
    rcases ok_expr ht with ⟨_, e1, _⟩ | ⟨c', a', d', e1, hc, oa, od⟩
    · cases e1
    · cases e1
      obtain ⟨rfl, b, n, x1, y1, x2, y2, rfl, _, k0, k1, k2, k3, r1, r2⟩ := hr
      obtain ⟨z1, p1, m1, n1, rfl, rfl⟩ := r1.forms
      obtain ⟨z2, p2, m2, n2, rfl, rfl⟩ := r2.forms
      simp only [ser, List.length_cons, List.length_append] at hl
      have l1 := fld_len a; have l2 := fld_len d
      have c1 := fun w' (h : Below w.heap.size w w') => iha B _ _ w' oa (by omega) (r1.below h)
      have c2 := fun w' (h : Below w.heap.size w w') => ihd B _ _ w' od (by omega) (r2.below h)
      rw [fld_bin]
      cases h1 : digB (fld a)
      · rw [Bool.false_and, if_neg (by decide), ← bs_bin]
        exact fold_binF c w (op_cases hc) b n z1 z2 p1 p2 m1 m2 n1 n2 _ _ (fld_ok oa) (fld_ok od) (by omega) (by omega) k0 k1 k2 k3 c1 c2 h1
      · cases h2 : digB (fld d)
        · rw [Bool.and_false, if_neg (by decide), ← bs_bin]
          exact fold_binTF c w (op_cases hc) b n z1 z2 p1 p2 m1 m2 n1 n2 _ _ (fld_ok oa) (fld_ok od) (by omega) (by omega) k0 k1 k2 k3 c1 c2 h1 h2
        · rw [Bool.true_and, if_pos rfl]
          obtain ⟨f1, g1⟩ := digB_head h1
          obtain ⟨f2, g2⟩ := digB_head h2
          rw [f1] at c1; rw [f2] at c2
          exact fold_binTT c w (op_cases hc) b n z1 z2 p1 p2 m1 m2 n1 n2 _ _ g1 g2 k0 k1 k2 k3 c1 c2

/-- spec.l1Fold, at an index where an expression begins. -/
theorem spf_any (s : ByteArray) (hs : s.size ≤ 1000) : ∀ (t : Tm) (a : Nat) (r : List UInt8) (w : World), Ok false false t → s.data.toList.drop a = t.ser ++ r →
    Calls Tryd.prog 52 #[.string s, .int .i64 a] w fun e' w' => e' = .returned (.tuple #[.string (bs (fld t).ser), .int .i64 ((a + t.ser.length : Nat) : Int)]) ∧ Below w.heap.size w w' := by
  intro t
  induction t with
  | leaf c =>
    intro a r w ht hd
    rcases ok_expr ht with ⟨c', e1, hc⟩ | ⟨_, _, _, e1, _⟩
    · cases e1
      obtain ⟨hl, rfl⟩ := byte_at hd
      exact spf_leaf s a w (by omega) hl (not_op_of_leaf hc)
    · cases e1
  | un c a _ =>
    intro b r w ht hd
    rcases ok_expr ht with ⟨_, e1, _⟩ | ⟨_, _, _, e1, _⟩ <;> cases e1
  | bin c x y ihx ihy =>
    intro a r w ht hd
    rcases ok_expr ht with ⟨_, e1, _⟩ | ⟨c', x', y', e1, hc, ox, oy⟩
    · cases e1
    · cases e1
      have hd0 : s.data.toList.drop a = c :: (x.ser ++ (y.ser ++ r)) := by rw [hd]; simp [ser]
      obtain ⟨hl, rfl⟩ := byte_at hd0
      have hd1 : s.data.toList.drop (a + 1) = x.ser ++ (y.ser ++ r) := drop_next hd0
      have hd2 : s.data.toList.drop (a + 1 + x.ser.length) = y.ser ++ r := by rw [← List.drop_drop, hd1, List.drop_left' rfl]
      have hlen := congrArg List.length hd
      simp [ser] at hlen
      have hsz : s.size = s.data.size := rfl
      have l1 := fld_len x; have l2 := fld_len y
      have e2 : a + (Tm.bin s[a] x y).ser.length = a + 1 + x.ser.length + y.ser.length := by simp [ser]; omega
      have c1 := fun w => ihx (a + 1) _ w ox hd1
      have c2 := fun w => ihy _ _ w oy hd2
      rw [e2, fld_bin]
      have b1 : (bs (fld x).ser).size ≤ 1000000 := by rw [bs_size]; omega
      have b2 : (bs (fld y).ser).size ≤ 1000000 := by rw [bs_size]; omega
      have both : digB (fld x) = true → digB (fld y) = true → Calls Tryd.prog 52 #[.string s, .int .i64 a] w fun e' w' => e' = .returned (.tuple #[.string (bs [dl (cmp3 s[a] ((fld x).head.toNat - 48) ((fld y).head.toNat - 48))]), .int .i64 ((a + 1 + x.ser.length + y.ser.length : Nat) : Int)]) ∧ Below w.heap.size w w' := fun h1 h2 => by
        obtain ⟨f1, g1⟩ := digB_head h1
        obtain ⟨f2, g2⟩ := digB_head h2
        exact spf_D s _ _ a (a + 1 + x.ser.length) (a + 1 + x.ser.length + y.ser.length) w (by omega) hl hc g1 g2 _ _ (by rw [f1]; rfl) (by rw [f2]; rfl) c1 c2
      have else_ : (digB (fld x) && digB (fld y)) = false → Calls Tryd.prog 52 #[.string s, .int .i64 a] w fun e' w' => e' = .returned (.tuple #[.string (bs [s[a]] ++ bs (fld x).ser ++ bs (fld y).ser), .int .i64 ((a + 1 + x.ser.length + y.ser.length : Nat) : Int)]) ∧ Below w.heap.size w w' := fun h => by
        by_cases h1 : (fld x).ser.length = 1
        · by_cases h2 : (fld y).ser.length = 1
          · obtain ⟨p, f1⟩ := (ser_one (fld_ok ox)).1 h1
            obtain ⟨q, f2⟩ := (ser_one (fld_ok oy)).1 h2
            have o1 := fld_ok ox; have o2 := fld_ok oy
            rw [f1] at o1 h; rw [f2] at o2 h
            have u1 : (isVarB false p || isDigB p) = true := by
              rcases ok_expr o1 with ⟨_, e1, hh⟩ | ⟨_, _, _, e1, _⟩ <;> cases e1; exact hh
            have u2 : (isVarB false q || isDigB q) = true := by
              rcases ok_expr o2 with ⟨_, e1, hh⟩ | ⟨_, _, _, e1, _⟩ <;> cases e1; exact hh
            exact spf_V s p q a (a + 1 + x.ser.length) (a + 1 + x.ser.length + y.ser.length) w (by omega) hl hc u1 u2 h _ _ (by rw [f1]; rfl) (by rw [f2]; rfl) c1 c2
          · exact spf_long2 s _ _ a (a + 1 + x.ser.length) (a + 1 + x.ser.length + y.ser.length) w (by omega) hl hc b1 b2 (by rw [bs_size]; exact h1) (by rw [bs_size]; exact h2) c1 c2
        · exact spf_long1 s _ _ a (a + 1 + x.ser.length) (a + 1 + x.ser.length + y.ser.length) w (by omega) hl hc b1 b2 (by rw [bs_size]; exact h1) c1 c2
      cases h1 : digB (fld x)
      · rw [Bool.false_and, if_neg (by decide), ← bs_bin]
        exact else_ (by rw [h1]; rfl)
      · cases h2 : digB (fld y)
        · rw [Bool.and_false, if_neg (by decide), ← bs_bin]
          exact else_ (by rw [h2, Bool.and_false])
        · rw [Bool.true_and, if_pos rfl]
          exact both h1 h2

set_option maxHeartbeats 2000000 in
theorem implFold_yes (s : ByteArray) (w : World) {t : Tm} (ht : Ok false false t) (hs : s.data.toList = t.ser) (hl : s.size ≤ 200) :
    Calls Tryd.prog 32 #[.string s] w fun e w' => e = .returned (.tuple #[.string (bs (fld t).ser), .bool true]) ∧ Below w.heap.size w w' := by
  have HC := fun w => Lib.hid (read_yes false s w ht hs hl)
  have htl : t.ser.length ≤ 200 := by rw [← hs]; simpa using hl
  have HV := Lib.hid (fold_any t)
  clear hs
  go_enter Tryd.func32, Tryd.ntmps32
  go_wp2_with fail
  refine (HC _).out.mono ?_
  rintro e w1 ⟨xc, ya, yn, ym, rfl, hr, hb⟩
  have HB := Lib.hid hb
  have HR := Lib.hid hr
  clear hb hr
  go_wp2_with fail
  refine (HV.out _ _ _ _ ht htl (HR.out.below ((Below.refl _ _).alloc (Nat.le_refl _) _))).mono ?_
  rintro e w4 ⟨rfl, hb⟩
  have HB4 := Lib.hid ((HB.out.alloc HB.out.size (.cells #[.int .u8 xc, .slice ya yn ym] 40)).trans (hb.mono (by have := HB.out.size; simp; omega)))
  clear hb
  go_wp2_with fail
  go_ret2
  exact ⟨rfl, HB4.out⟩
set_option maxHeartbeats 2000000 in
theorem implFold_no (s : ByteArray) (w : World) (h : ¬ (Valid false false s.data.toList ∧ s.size ≤ 200)) :
    Calls Tryd.prog 32 #[.string s] w fun e w' => e = .returned (.tuple #[.string (bs []), .bool false]) ∧ Below w.heap.size w w' := by
  have HC := fun w => Lib.hid (read_no false s w h)
  clear h
  go_enter Tryd.func32, Tryd.ntmps32
  go_wp2_with fail
  refine (HC _).out.mono ?_
  rintro e w1 ⟨rfl, hb⟩
  have HB := Lib.hid hb
  clear hb
  go_wp2_with fail
  go_ret2
  exact ⟨rfl, HB.out.alloc HB.out.size _⟩
set_option maxHeartbeats 2000000 in
theorem specFold_yes (s : ByteArray) (w : World) {t : Tm} (ht : Ok false false t) (hs : s.data.toList = t.ser) (hl : s.size ≤ 200) :
    Calls Tryd.prog 31 #[.string s] w fun e w' => e = .returned (.tuple #[.string (bs (fld t).ser), .bool true]) ∧ Below w.heap.size w w' := by
  have HC := fun w => Lib.hid (specExpr_yes s w ⟨t, ht, hs⟩ hl)
  have HV := fun w => Lib.hid (spf_any s (by omega) t 0 [] w ht (by simp [hs]))
  clear hs
  go_enter Tryd.func31, Tryd.ntmps31
  go_wp2_with fail
  refine (HC _).out.mono ?_
  rintro e w1 ⟨rfl, n, rfl⟩
  go_wp2_with fail
  refine (HV _).out.mono ?_
  rintro e w2 ⟨rfl, hb⟩
  have HB := Lib.hid ((below_of_drewN (Below.refl w.heap.size w) n).trans hb)
  clear hb
  go_wp2_with fail
  go_ret2
  exact ⟨rfl, HB.out⟩
set_option maxHeartbeats 2000000 in
theorem specFold_no (s : ByteArray) (w : World) (h : ¬ (Valid false false s.data.toList ∧ s.size ≤ 200)) :
    Calls Tryd.prog 31 #[.string s] w fun e w' => e = .returned (.tuple #[.string (bs []), .bool false]) ∧ Below w.heap.size w w' := by
  have HC := fun w => Lib.hid (specExpr_no s w h)
  clear h
  go_enter Tryd.func31, Tryd.ntmps31
  go_wp2_with fail
  refine (HC _).out.mono ?_
  rintro e w1 ⟨rfl, n, rfl⟩
  go_wp2_with fail
  go_ret2
  exact ⟨rfl, below_of_drewN (Below.refl _ _) n⟩
end Go.Proofs.YtpdepihggpfmiaaDoor
