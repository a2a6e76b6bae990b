/-
  (impl.term).fold on a tree in memory: what has no variables is computed.
-/
import Derived.Test.YtpdepihggpfmiaaDoorBytes
import Derived.Test.YtpdepihggpfmiaaDoorVal
import Derived.BigQuiet
import Derived.Deep.QuietTactic
namespace Go.Proofs.YtpdepihggpfmiaaDoor
open Go.RowKit Tm

def digB : Tm → Bool
  | .leaf c => isDigB c
  | _ => false
def dl (n : Int) : UInt8 := if n = 0 then 48 else if n = 1 then 49 else 50
/-- The expression with what has no variables computed. -/
def fld : Tm → Tm
  | .leaf c => .leaf c
  | .un c a => .un c a
  | .bin c a b => if digB (fld a) && digB (fld b) then .leaf (dl (cmp3 c ((fld a).head.toNat - 48) ((fld b).head.toNat - 48))) else .bin c (fld a) (fld b)

theorem digB_form {t : Tm} (h : digB t = true) : ∃ c, t = .leaf c ∧ (c = 48 ∨ c = 49 ∨ c = 50) := by
  cases t with
  | leaf c => simp [digB, isDigB] at h; exact ⟨c, rfl, by rcases h with (h | h) | h <;> simp [h]⟩
  | un c a => simp [digB] at h
  | bin c a b => simp [digB] at h
theorem dl_dig (n : Int) : isDigB (dl n) = true := by
  unfold dl
  split
  · rfl
  · split <;> rfl
theorem isVal_at (n m : Int) (h : n = m) (w : World) : Calls Tryd.prog 62 #[.int .i64 n] w fun e w' => e = .returned (.bool (val3 m)) ∧ w = w' := h ▸ implIsValue n w
theorem fld_ok {wide : Bool} : ∀ {t : Tm}, Ok wide false t → Ok wide false (fld t) := by
  intro t
  induction t with
  | leaf c => exact fun h => h
  | un c a _ => exact fun h => h
  | bin c a b iha ihb =>
    intro h
    rcases ok_expr h with ⟨_, e1, _⟩ | ⟨c', a', b', e1, hc, oa, ob⟩
    · cases e1
    · cases e1
      unfold fld
      split
      · simp only [Ok, opk_e]; rw [if_pos]; rw [dl_dig, Bool.or_true]
      · refine ⟨false, false, ?_, iha oa, ihb ob⟩
        rw [opk_e, if_neg, if_pos hc]
        rcases op_cases hc with rfl | rfl | rfl <;> (cases wide <;> decide)
theorem fld_len : ∀ (t : Tm), (fld t).ser.length ≤ t.ser.length := by
  intro t
  induction t with
  | leaf c => exact Nat.le_refl _
  | un c a _ => exact Nat.le_refl _
  | bin c a b iha ihb =>
    unfold fld
    split
    · simp [ser]
    · simp [ser]; omega

set_option maxHeartbeats 1000000 in
theorem isDigit_yes (c : UInt8) (w : World) (hc : c = 48 ∨ c = 49 ∨ c = 50) : Calls Tryd.prog 67 #[.string (bs [c])] w fun e w' => e = .returned (.bool true) ∧ w = w' := by
  have v0 : val3 0 = true := by decide
  have v1 : val3 1 = true := by decide
  have v2 : val3 2 = true := by decide
  rcases hc with rfl | rfl | rfl
  · unfold bs
    go_enter Tryd.func67, Tryd.ntmps67
    go_wp2_with fail
    refine (isVal_at _ 0 (by decide +kernel) _).mono ?_
    rintro e w' ⟨rfl, rfl⟩
    go_wp2_with fail
    go_ret
    exact ⟨rfl, rfl⟩
  · unfold bs
    go_enter Tryd.func67, Tryd.ntmps67
    go_wp2_with fail
    refine (isVal_at _ 1 (by decide +kernel) _).mono ?_
    rintro e w' ⟨rfl, rfl⟩
    go_wp2_with fail
    go_ret
    exact ⟨rfl, rfl⟩
  · unfold bs
    go_enter Tryd.func67, Tryd.ntmps67
    go_wp2_with fail
    refine (isVal_at _ 2 (by decide +kernel) _).mono ?_
    rintro e w' ⟨rfl, rfl⟩
    go_wp2_with fail
    go_ret
    exact ⟨rfl, rfl⟩

set_option maxHeartbeats 1000000 in
theorem isDigit_var (c : UInt8) (w : World) (hc : c = 120 ∨ c = 121 ∨ c = 122) : Calls Tryd.prog 67 #[.string (bs [c])] w fun e w' => e = .returned (.bool false) ∧ w = w' := by
  have v0 : val3 72 = false := by decide
  have v1 : val3 73 = false := by decide
  have v2 : val3 74 = false := by decide
  rcases hc with rfl | rfl | rfl
  · unfold bs
    go_enter Tryd.func67, Tryd.ntmps67
    go_wp2_with fail
    refine (isVal_at _ 72 (by decide +kernel) _).mono ?_
    rintro e w' ⟨rfl, rfl⟩
    go_wp2_with fail
    go_ret
    exact ⟨rfl, rfl⟩
  · unfold bs
    go_enter Tryd.func67, Tryd.ntmps67
    go_wp2_with fail
    refine (isVal_at _ 73 (by decide +kernel) _).mono ?_
    rintro e w' ⟨rfl, rfl⟩
    go_wp2_with fail
    go_ret
    exact ⟨rfl, rfl⟩
  · unfold bs
    go_enter Tryd.func67, Tryd.ntmps67
    go_wp2_with fail
    refine (isVal_at _ 74 (by decide +kernel) _).mono ?_
    rintro e w' ⟨rfl, rfl⟩
    go_wp2_with fail
    go_ret
    exact ⟨rfl, rfl⟩

set_option maxHeartbeats 1000000 in
theorem isDigit_long (s : ByteArray) (w : World) (_hm : s.size ≤ maxLen) (h : s.size ≠ 1) : Calls Tryd.prog 67 #[.string s] w fun e w' => e = .returned (.bool false) ∧ w = w' := by
  have hs : ((s.size : Int) == 1) = false := by rw [beq_eq_false_iff_ne]; omega
  clear h
  go_enter Tryd.func67, Tryd.ntmps67
  go_wp2_with fail
  go_ret
  exact ⟨rfl, rfl⟩

theorem isDigit_any {t : Tm} (ht : Ok false false t) (hl : t.ser.length ≤ 200) (w : World) : Calls Tryd.prog 67 #[.string (bs t.ser)] w fun e w' => e = .returned (.bool (digB t)) ∧ w = w' := by
  rcases ok_expr ht with ⟨c, rfl, hc⟩ | ⟨c, a, b, rfl, hc, oa, ob⟩
  · cases hd : digB (.leaf c)
    · refine isDigit_var c w ?_
      rcases leaf_cases hc with h | h | h | h | h | h <;> subst h <;> first | (simp; done) | (simp [digB, isDigB] at hd)
    · obtain ⟨c', e1, h⟩ := digB_form hd
      cases e1
      exact isDigit_yes c w h
  · have h1 := ser_pos a; have h2 := ser_pos b
    have hb : (bs (Tm.bin c a b).ser).size = (Tm.bin c a b).ser.length := bs_size _
    refine isDigit_long _ w (by rw [hb]; exact Nat.le_trans hl (by decide)) ?_
    rw [hb]; simp only [ser, List.length_cons, List.length_append]; omega

set_option maxHeartbeats 1000000 in
theorem digitOf_any (n : Int) (w : World) (h0 : 0 ≤ n) (h2 : n ≤ 2) : Calls Tryd.prog 68 #[.int .i64 n] w fun e w' => e = .returned (.string (bs [dl n])) ∧ w = w' := by
  have h : n = 0 ∨ n = 1 ∨ n = 2 := by omega
  clear h0 h2
  rcases h with rfl | rfl | rfl
  all_goals
    go_enter Tryd.func68, Tryd.ntmps68
    go_wp2_with fail
    go_ret
    exact ⟨rfl, rfl⟩

set_option maxHeartbeats 2000000 in
theorem fold_leaf (c : UInt8) (w : World) (hc : c = 120 ∨ c = 121 ∨ c = 122 ∨ c = 48 ∨ c = 49 ∨ c = 50) (a : Option Addr) (n : Nat) :
    Calls Tryd.prog 53 #[.agg #[.int .u8 c.toNat, .slice a 0 n]] w fun e w' => e = .returned (.string (bs [c])) ∧ Below w.heap.size w w' := by
  rcases hc with rfl | rfl | rfl | rfl | rfl | rfl
  all_goals
    go_enter Tryd.func53, Tryd.ntmps53
    go_wp2_with fail
    go_ret
    exact ⟨rfl, (Below.refl _ _).alloc (Nat.le_refl _) _⟩

theorem compute_at (c : UInt8) (hc : c = 43 ∨ c = 45 ∨ c = 42) (A B a b : Int) (hA : A = a) (hB : B = b) (ha0 : 0 ≤ a) (ha : a ≤ 2) (hb0 : 0 ≤ b) (hb : b ≤ 2) (w : World) :
    Calls Tryd.prog 63 #[.int .u8 c.toNat, .int .i64 A, .int .i64 B] w fun e w' => e = .returned (.int .i64 (cmp3 c a b)) ∧ w = w' := by
  subst hA hB
  exact compute_any c _ _ w hc ha0 ha hb0 hb

set_option maxRecDepth 100000 in
set_option maxHeartbeats 8000000 in
theorem fold_binF (c : UInt8) (w : World) (hc : c = 43 ∨ c = 45 ∨ c = 42) (b n : Nat) (x1 x2 : Int) (p1 p2 : Option Addr) (m1 m2 n1 n2 : Nat) (t1 t2 : Tm) (o1 : Ok false false t1) (_o2 : Ok false false t2) (h1 : t1.ser.length ≤ 200) (h2 : t2.ser.length ≤ 200)
    (k0 : w.cell? ⟨b, 0, none⟩ = some (.int .u8 x1)) (k1 : w.cell? ⟨b, 1, none⟩ = some (.slice p1 m1 n1)) (k2 : w.cell? ⟨b, 2, none⟩ = some (.int .u8 x2)) (k3 : w.cell? ⟨b, 3, none⟩ = some (.slice p2 m2 n2))
    (c1 : ∀ w', Below w.heap.size w w' → Calls Tryd.prog 53 #[.agg #[.int .u8 x1, .slice p1 m1 n1]] w' fun e w2 => e = .returned (.string (bs t1.ser)) ∧ Below w'.heap.size w' w2)
    (c2 : ∀ w', Below w.heap.size w w' → Calls Tryd.prog 53 #[.agg #[.int .u8 x2, .slice p2 m2 n2]] w' fun e w2 => e = .returned (.string (bs t2.ser)) ∧ Below w'.heap.size w' w2) (hd1 : digB t1 = false) :
    Calls Tryd.prog 53 #[.agg #[.int .u8 c.toNat, .slice (some ⟨b, 0, none⟩) 2 n]] w fun e w' => e = .returned (.string (bs [c] ++ bs t1.ser ++ bs t2.ser)) ∧ Below w.heap.size w w' := by
  have C1 := Lib.hid c1
  have C2 := Lib.hid c2
  have hlt := cell_lt k0
  have D1 := fun w => Lib.hid (hd1 ▸ isDigit_any o1 h1 w)
  have z1 : (bs t1.ser).size ≤ 200 := by rw [bs_size]; exact h1
  have z2 : (bs t2.ser).size ≤ 200 := by rw [bs_size]; exact h2
  clear hd1
  clear c1 c2
  rcases hc with rfl | rfl | rfl
  · have e1 : (Utf8.encode 43).size ≤ 4 := by decide
    have t0 := heap_at_new (w := w) (o := .cells #[.int .u8 43, .slice (some ⟨b, 0, none⟩) 2 n] 40) rfl
    have hB := (Below.refl w.heap.size w).alloc (Nat.le_refl _) (.cells #[.int .u8 43, .slice (some ⟨b, 0, none⟩) 2 n] 40)
    go_enter Tryd.func53, Tryd.ntmps53
    go_wp2_with fail
    generalize w.alloc (.cells #[.int .u8 43, .slice (some ⟨b, 0, none⟩) 2 n] 40) = W0 at *
    have q0 : W0.cell? ⟨w.heap.size, 0, none⟩ = some (.int .u8 43) := by rw [cell_of_row W0 _ 0 _ _ (0, 0) t0]; rfl
    have q1 : W0.cell? ⟨w.heap.size, 1, none⟩ = some (.slice (some ⟨b, 0, none⟩) 2 n) := by rw [cell_of_row W0 _ 1 _ _ (0, 0) t0]; rfl
    have j0 := cell_keep hB k0; have j1 := cell_keep hB k1; have j2 := cell_keep hB k2; have j3 := cell_keep hB k3
    have hB' := hB.drew
    clear k0 k1 k2 k3 t0
    go_region_held3 (fun w' => Below w.heap.size w w' ∧ w'.cell? ⟨w.heap.size, 0, none⟩ = some (.int .u8 43) ∧ w'.cell? ⟨w.heap.size, 1, none⟩ = some (.slice (some ⟨b, 0, none⟩) 2 n) ∧
        w'.cell? ⟨b, 0, none⟩ = some (.int .u8 x1) ∧ w'.cell? ⟨b, 1, none⟩ = some (.slice p1 m1 n1) ∧ w'.cell? ⟨b, 2, none⟩ = some (.int .u8 x2) ∧ w'.cell? ⟨b, 3, none⟩ = some (.slice p2 m2 n2))
      ((go_split_ands; refine ⟨?_, ?_, ?_, ?_, ?_, ?_, ?_⟩ <;> first | assumption | exact cell_keep hq (by assumption) | exact Below.trans (by assumption) (hq.mono (by have := Below.size (by assumption : Below w.heap.size w _); omega))))
      (first | (go_at_call 53; (first | (with_reducible refine (C1.out _ ?_).mono ?_) | (with_reducible refine (C2.out _ ?_).mono ?_)); (go_split_ands; assumption); rintro e w2 ⟨rfl, hq⟩))
    go_split_ands
    go_wp2_with fail
    refine (D1 _).out.mono ?_
    rintro e w' ⟨rfl, rfl⟩
    go_wp2_with fail
    go_ret
    exact ⟨rfl, by assumption⟩
  · have e1 : (Utf8.encode 45).size ≤ 4 := by decide
    have t0 := heap_at_new (w := w) (o := .cells #[.int .u8 45, .slice (some ⟨b, 0, none⟩) 2 n] 40) rfl
    have hB := (Below.refl w.heap.size w).alloc (Nat.le_refl _) (.cells #[.int .u8 45, .slice (some ⟨b, 0, none⟩) 2 n] 40)
    go_enter Tryd.func53, Tryd.ntmps53
    go_wp2_with fail
    generalize w.alloc (.cells #[.int .u8 45, .slice (some ⟨b, 0, none⟩) 2 n] 40) = W0 at *
    have q0 : W0.cell? ⟨w.heap.size, 0, none⟩ = some (.int .u8 45) := by rw [cell_of_row W0 _ 0 _ _ (0, 0) t0]; rfl
    have q1 : W0.cell? ⟨w.heap.size, 1, none⟩ = some (.slice (some ⟨b, 0, none⟩) 2 n) := by rw [cell_of_row W0 _ 1 _ _ (0, 0) t0]; rfl
    have j0 := cell_keep hB k0; have j1 := cell_keep hB k1; have j2 := cell_keep hB k2; have j3 := cell_keep hB k3
    have hB' := hB.drew
    clear k0 k1 k2 k3 t0
    go_region_held3 (fun w' => Below w.heap.size w w' ∧ w'.cell? ⟨w.heap.size, 0, none⟩ = some (.int .u8 45) ∧ w'.cell? ⟨w.heap.size, 1, none⟩ = some (.slice (some ⟨b, 0, none⟩) 2 n) ∧
        w'.cell? ⟨b, 0, none⟩ = some (.int .u8 x1) ∧ w'.cell? ⟨b, 1, none⟩ = some (.slice p1 m1 n1) ∧ w'.cell? ⟨b, 2, none⟩ = some (.int .u8 x2) ∧ w'.cell? ⟨b, 3, none⟩ = some (.slice p2 m2 n2))
      ((go_split_ands; refine ⟨?_, ?_, ?_, ?_, ?_, ?_, ?_⟩ <;> first | assumption | exact cell_keep hq (by assumption) | exact Below.trans (by assumption) (hq.mono (by have := Below.size (by assumption : Below w.heap.size w _); omega))))
      (first | (go_at_call 53; (first | (with_reducible refine (C1.out _ ?_).mono ?_) | (with_reducible refine (C2.out _ ?_).mono ?_)); (go_split_ands; assumption); rintro e w2 ⟨rfl, hq⟩))
    go_split_ands
    go_wp2_with fail
    refine (D1 _).out.mono ?_
    rintro e w' ⟨rfl, rfl⟩
    go_wp2_with fail
    go_ret
    exact ⟨rfl, by assumption⟩
  · have e1 : (Utf8.encode 42).size ≤ 4 := by decide
    have t0 := heap_at_new (w := w) (o := .cells #[.int .u8 42, .slice (some ⟨b, 0, none⟩) 2 n] 40) rfl
    have hB := (Below.refl w.heap.size w).alloc (Nat.le_refl _) (.cells #[.int .u8 42, .slice (some ⟨b, 0, none⟩) 2 n] 40)
    go_enter Tryd.func53, Tryd.ntmps53
    go_wp2_with fail
    generalize w.alloc (.cells #[.int .u8 42, .slice (some ⟨b, 0, none⟩) 2 n] 40) = W0 at *
    have q0 : W0.cell? ⟨w.heap.size, 0, none⟩ = some (.int .u8 42) := by rw [cell_of_row W0 _ 0 _ _ (0, 0) t0]; rfl
    have q1 : W0.cell? ⟨w.heap.size, 1, none⟩ = some (.slice (some ⟨b, 0, none⟩) 2 n) := by rw [cell_of_row W0 _ 1 _ _ (0, 0) t0]; rfl
    have j0 := cell_keep hB k0; have j1 := cell_keep hB k1; have j2 := cell_keep hB k2; have j3 := cell_keep hB k3
    have hB' := hB.drew
    clear k0 k1 k2 k3 t0
    go_region_held3 (fun w' => Below w.heap.size w w' ∧ w'.cell? ⟨w.heap.size, 0, none⟩ = some (.int .u8 42) ∧ w'.cell? ⟨w.heap.size, 1, none⟩ = some (.slice (some ⟨b, 0, none⟩) 2 n) ∧
        w'.cell? ⟨b, 0, none⟩ = some (.int .u8 x1) ∧ w'.cell? ⟨b, 1, none⟩ = some (.slice p1 m1 n1) ∧ w'.cell? ⟨b, 2, none⟩ = some (.int .u8 x2) ∧ w'.cell? ⟨b, 3, none⟩ = some (.slice p2 m2 n2))
      ((go_split_ands; refine ⟨?_, ?_, ?_, ?_, ?_, ?_, ?_⟩ <;> first | assumption | exact cell_keep hq (by assumption) | exact Below.trans (by assumption) (hq.mono (by have := Below.size (by assumption : Below w.heap.size w _); omega))))
      (first | (go_at_call 53; (first | (with_reducible refine (C1.out _ ?_).mono ?_) | (with_reducible refine (C2.out _ ?_).mono ?_)); (go_split_ands; assumption); rintro e w2 ⟨rfl, hq⟩))
    go_split_ands
    go_wp2_with fail
    refine (D1 _).out.mono ?_
    rintro e w' ⟨rfl, rfl⟩
    go_wp2_with fail
    go_ret
    exact ⟨rfl, by assumption⟩

set_option maxRecDepth 100000 in
set_option maxHeartbeats 8000000 in
theorem fold_binTF (c : UInt8) (w : World) (hc : c = 43 ∨ c = 45 ∨ c = 42) (b n : Nat) (x1 x2 : Int) (p1 p2 : Option Addr) (m1 m2 n1 n2 : Nat) (t1 t2 : Tm) (o1 : Ok false false t1) (o2 : Ok false false t2) (h1 : t1.ser.length ≤ 200) (h2 : t2.ser.length ≤ 200)
    (k0 : w.cell? ⟨b, 0, none⟩ = some (.int .u8 x1)) (k1 : w.cell? ⟨b, 1, none⟩ = some (.slice p1 m1 n1)) (k2 : w.cell? ⟨b, 2, none⟩ = some (.int .u8 x2)) (k3 : w.cell? ⟨b, 3, none⟩ = some (.slice p2 m2 n2))
    (c1 : ∀ w', Below w.heap.size w w' → Calls Tryd.prog 53 #[.agg #[.int .u8 x1, .slice p1 m1 n1]] w' fun e w2 => e = .returned (.string (bs t1.ser)) ∧ Below w'.heap.size w' w2)
    (c2 : ∀ w', Below w.heap.size w w' → Calls Tryd.prog 53 #[.agg #[.int .u8 x2, .slice p2 m2 n2]] w' fun e w2 => e = .returned (.string (bs t2.ser)) ∧ Below w'.heap.size w' w2) (hd1 : digB t1 = true) (hd2 : digB t2 = false) :
    Calls Tryd.prog 53 #[.agg #[.int .u8 c.toNat, .slice (some ⟨b, 0, none⟩) 2 n]] w fun e w' => e = .returned (.string (bs [c] ++ bs t1.ser ++ bs t2.ser)) ∧ Below w.heap.size w w' := by
  have C1 := Lib.hid c1
  have C2 := Lib.hid c2
  have hlt := cell_lt k0
  have D1 := fun w => Lib.hid (hd1 ▸ isDigit_any o1 h1 w)
  have D2 := fun w => Lib.hid (hd2 ▸ isDigit_any o2 h2 w)
  have z1 : (bs t1.ser).size ≤ 200 := by rw [bs_size]; exact h1
  have z2 : (bs t2.ser).size ≤ 200 := by rw [bs_size]; exact h2
  clear hd1 hd2
  clear c1 c2
  rcases hc with rfl | rfl | rfl
  · have e1 : (Utf8.encode 43).size ≤ 4 := by decide
    have t0 := heap_at_new (w := w) (o := .cells #[.int .u8 43, .slice (some ⟨b, 0, none⟩) 2 n] 40) rfl
    have hB := (Below.refl w.heap.size w).alloc (Nat.le_refl _) (.cells #[.int .u8 43, .slice (some ⟨b, 0, none⟩) 2 n] 40)
    go_enter Tryd.func53, Tryd.ntmps53
    go_wp2_with fail
    generalize w.alloc (.cells #[.int .u8 43, .slice (some ⟨b, 0, none⟩) 2 n] 40) = W0 at *
    have q0 : W0.cell? ⟨w.heap.size, 0, none⟩ = some (.int .u8 43) := by rw [cell_of_row W0 _ 0 _ _ (0, 0) t0]; rfl
    have q1 : W0.cell? ⟨w.heap.size, 1, none⟩ = some (.slice (some ⟨b, 0, none⟩) 2 n) := by rw [cell_of_row W0 _ 1 _ _ (0, 0) t0]; rfl
    have j0 := cell_keep hB k0; have j1 := cell_keep hB k1; have j2 := cell_keep hB k2; have j3 := cell_keep hB k3
    have hB' := hB.drew
    clear k0 k1 k2 k3 t0
    go_region_held3 (fun w' => Below w.heap.size w w' ∧ w'.cell? ⟨w.heap.size, 0, none⟩ = some (.int .u8 43) ∧ w'.cell? ⟨w.heap.size, 1, none⟩ = some (.slice (some ⟨b, 0, none⟩) 2 n) ∧
        w'.cell? ⟨b, 0, none⟩ = some (.int .u8 x1) ∧ w'.cell? ⟨b, 1, none⟩ = some (.slice p1 m1 n1) ∧ w'.cell? ⟨b, 2, none⟩ = some (.int .u8 x2) ∧ w'.cell? ⟨b, 3, none⟩ = some (.slice p2 m2 n2))
      ((go_split_ands; refine ⟨?_, ?_, ?_, ?_, ?_, ?_, ?_⟩ <;> first | assumption | exact cell_keep hq (by assumption) | exact Below.trans (by assumption) (hq.mono (by have := Below.size (by assumption : Below w.heap.size w _); omega))))
      (first | (go_at_call 53; (first | (with_reducible refine (C1.out _ ?_).mono ?_) | (with_reducible refine (C2.out _ ?_).mono ?_)); (go_split_ands; assumption); rintro e w2 ⟨rfl, hq⟩))
    go_split_ands
    go_wp2_with fail
    refine (D1 _).out.mono ?_
    rintro e w' ⟨rfl, rfl⟩
    go_wp2_with fail
    refine (D2 _).out.mono ?_
    rintro e w' ⟨rfl, rfl⟩
    go_wp2_with fail
    go_ret
    exact ⟨rfl, by assumption⟩
  · have e1 : (Utf8.encode 45).size ≤ 4 := by decide
    have t0 := heap_at_new (w := w) (o := .cells #[.int .u8 45, .slice (some ⟨b, 0, none⟩) 2 n] 40) rfl
    have hB := (Below.refl w.heap.size w).alloc (Nat.le_refl _) (.cells #[.int .u8 45, .slice (some ⟨b, 0, none⟩) 2 n] 40)
    go_enter Tryd.func53, Tryd.ntmps53
    go_wp2_with fail
    generalize w.alloc (.cells #[.int .u8 45, .slice (some ⟨b, 0, none⟩) 2 n] 40) = W0 at *
    have q0 : W0.cell? ⟨w.heap.size, 0, none⟩ = some (.int .u8 45) := by rw [cell_of_row W0 _ 0 _ _ (0, 0) t0]; rfl
    have q1 : W0.cell? ⟨w.heap.size, 1, none⟩ = some (.slice (some ⟨b, 0, none⟩) 2 n) := by rw [cell_of_row W0 _ 1 _ _ (0, 0) t0]; rfl
    have j0 := cell_keep hB k0; have j1 := cell_keep hB k1; have j2 := cell_keep hB k2; have j3 := cell_keep hB k3
    have hB' := hB.drew
    clear k0 k1 k2 k3 t0
    go_region_held3 (fun w' => Below w.heap.size w w' ∧ w'.cell? ⟨w.heap.size, 0, none⟩ = some (.int .u8 45) ∧ w'.cell? ⟨w.heap.size, 1, none⟩ = some (.slice (some ⟨b, 0, none⟩) 2 n) ∧
        w'.cell? ⟨b, 0, none⟩ = some (.int .u8 x1) ∧ w'.cell? ⟨b, 1, none⟩ = some (.slice p1 m1 n1) ∧ w'.cell? ⟨b, 2, none⟩ = some (.int .u8 x2) ∧ w'.cell? ⟨b, 3, none⟩ = some (.slice p2 m2 n2))
      ((go_split_ands; refine ⟨?_, ?_, ?_, ?_, ?_, ?_, ?_⟩ <;> first | assumption | exact cell_keep hq (by assumption) | exact Below.trans (by assumption) (hq.mono (by have := Below.size (by assumption : Below w.heap.size w _); omega))))
      (first | (go_at_call 53; (first | (with_reducible refine (C1.out _ ?_).mono ?_) | (with_reducible refine (C2.out _ ?_).mono ?_)); (go_split_ands; assumption); rintro e w2 ⟨rfl, hq⟩))
    go_split_ands
    go_wp2_with fail
    refine (D1 _).out.mono ?_
    rintro e w' ⟨rfl, rfl⟩
    go_wp2_with fail
    refine (D2 _).out.mono ?_
    rintro e w' ⟨rfl, rfl⟩
    go_wp2_with fail
    go_ret
    exact ⟨rfl, by assumption⟩
  · have e1 : (Utf8.encode 42).size ≤ 4 := by decide
    have t0 := heap_at_new (w := w) (o := .cells #[.int .u8 42, .slice (some ⟨b, 0, none⟩) 2 n] 40) rfl
    have hB := (Below.refl w.heap.size w).alloc (Nat.le_refl _) (.cells #[.int .u8 42, .slice (some ⟨b, 0, none⟩) 2 n] 40)
    go_enter Tryd.func53, Tryd.ntmps53
    go_wp2_with fail
    generalize w.alloc (.cells #[.int .u8 42, .slice (some ⟨b, 0, none⟩) 2 n] 40) = W0 at *
    have q0 : W0.cell? ⟨w.heap.size, 0, none⟩ = some (.int .u8 42) := by rw [cell_of_row W0 _ 0 _ _ (0, 0) t0]; rfl
    have q1 : W0.cell? ⟨w.heap.size, 1, none⟩ = some (.slice (some ⟨b, 0, none⟩) 2 n) := by rw [cell_of_row W0 _ 1 _ _ (0, 0) t0]; rfl
    have j0 := cell_keep hB k0; have j1 := cell_keep hB k1; have j2 := cell_keep hB k2; have j3 := cell_keep hB k3
    have hB' := hB.drew
    clear k0 k1 k2 k3 t0
    go_region_held3 (fun w' => Below w.heap.size w w' ∧ w'.cell? ⟨w.heap.size, 0, none⟩ = some (.int .u8 42) ∧ w'.cell? ⟨w.heap.size, 1, none⟩ = some (.slice (some ⟨b, 0, none⟩) 2 n) ∧
        w'.cell? ⟨b, 0, none⟩ = some (.int .u8 x1) ∧ w'.cell? ⟨b, 1, none⟩ = some (.slice p1 m1 n1) ∧ w'.cell? ⟨b, 2, none⟩ = some (.int .u8 x2) ∧ w'.cell? ⟨b, 3, none⟩ = some (.slice p2 m2 n2))
      ((go_split_ands; refine ⟨?_, ?_, ?_, ?_, ?_, ?_, ?_⟩ <;> first | assumption | exact cell_keep hq (by assumption) | exact Below.trans (by assumption) (hq.mono (by have := Below.size (by assumption : Below w.heap.size w _); omega))))
      (first | (go_at_call 53; (first | (with_reducible refine (C1.out _ ?_).mono ?_) | (with_reducible refine (C2.out _ ?_).mono ?_)); (go_split_ands; assumption); rintro e w2 ⟨rfl, hq⟩))
    go_split_ands
    go_wp2_with fail
    refine (D1 _).out.mono ?_
    rintro e w' ⟨rfl, rfl⟩
    go_wp2_with fail
    refine (D2 _).out.mono ?_
    rintro e w' ⟨rfl, rfl⟩
    go_wp2_with fail
    go_ret
    exact ⟨rfl, by assumption⟩

set_option maxRecDepth 100000 in
set_option maxHeartbeats 8000000 in
theorem fold_binTT (c : UInt8) (w : World) (hc : c = 43 ∨ c = 45 ∨ c = 42) (b n : Nat) (x1 x2 : Int) (p1 p2 : Option Addr) (m1 m2 n1 n2 : Nat) (ca cb : UInt8) (hca : ca = 48 ∨ ca = 49 ∨ ca = 50) (hcb : cb = 48 ∨ cb = 49 ∨ cb = 50)
    (k0 : w.cell? ⟨b, 0, none⟩ = some (.int .u8 x1)) (k1 : w.cell? ⟨b, 1, none⟩ = some (.slice p1 m1 n1)) (k2 : w.cell? ⟨b, 2, none⟩ = some (.int .u8 x2)) (k3 : w.cell? ⟨b, 3, none⟩ = some (.slice p2 m2 n2))
    (c1 : ∀ w', Below w.heap.size w w' → Calls Tryd.prog 53 #[.agg #[.int .u8 x1, .slice p1 m1 n1]] w' fun e w2 => e = .returned (.string (bs [ca])) ∧ Below w'.heap.size w' w2)
    (c2 : ∀ w', Below w.heap.size w w' → Calls Tryd.prog 53 #[.agg #[.int .u8 x2, .slice p2 m2 n2]] w' fun e w2 => e = .returned (.string (bs [cb])) ∧ Below w'.heap.size w' w2) :
    Calls Tryd.prog 53 #[.agg #[.int .u8 c.toNat, .slice (some ⟨b, 0, none⟩) 2 n]] w fun e w' => e = .returned (.string (bs [dl (cmp3 c (ca.toNat - 48) (cb.toNat - 48))])) ∧ Below w.heap.size w w' := by
  have C1 := Lib.hid c1
  have C2 := Lib.hid c2
  have hlt := cell_lt k0
  have D1 := fun w => Lib.hid (isDigit_yes ca w hca)
  have D2 := fun w => Lib.hid (isDigit_yes cb w hcb)
  have ba : 48 ≤ ca.toNat ∧ ca.toNat ≤ 50 := by rcases hca with rfl | rfl | rfl <;> decide
  have bb : 48 ≤ cb.toNat ∧ cb.toNat ≤ 50 := by rcases hcb with rfl | rfl | rfl <;> decide
  have hv := Lib.hid (cmp3_bd c (a := (ca.toNat : Int) - 48) (b := (cb.toNat : Int) - 48) (by omega) (by omega))
  clear c1 c2
  unfold bs at C1 C2 D1 D2
  rcases hc with rfl | rfl | rfl
  · have e1 : (Utf8.encode 43).size ≤ 4 := by decide
    have t0 := heap_at_new (w := w) (o := .cells #[.int .u8 43, .slice (some ⟨b, 0, none⟩) 2 n] 40) rfl
    have hB := (Below.refl w.heap.size w).alloc (Nat.le_refl _) (.cells #[.int .u8 43, .slice (some ⟨b, 0, none⟩) 2 n] 40)
    go_enter Tryd.func53, Tryd.ntmps53
    go_wp2_with fail
    generalize w.alloc (.cells #[.int .u8 43, .slice (some ⟨b, 0, none⟩) 2 n] 40) = W0 at *
    have q0 : W0.cell? ⟨w.heap.size, 0, none⟩ = some (.int .u8 43) := by rw [cell_of_row W0 _ 0 _ _ (0, 0) t0]; rfl
    have q1 : W0.cell? ⟨w.heap.size, 1, none⟩ = some (.slice (some ⟨b, 0, none⟩) 2 n) := by rw [cell_of_row W0 _ 1 _ _ (0, 0) t0]; rfl
    have j0 := cell_keep hB k0; have j1 := cell_keep hB k1; have j2 := cell_keep hB k2; have j3 := cell_keep hB k3
    have hB' := hB.drew
    clear k0 k1 k2 k3 t0
    go_region_held3 (fun w' => Below w.heap.size w w' ∧ w'.cell? ⟨w.heap.size, 0, none⟩ = some (.int .u8 43) ∧ w'.cell? ⟨w.heap.size, 1, none⟩ = some (.slice (some ⟨b, 0, none⟩) 2 n) ∧
        w'.cell? ⟨b, 0, none⟩ = some (.int .u8 x1) ∧ w'.cell? ⟨b, 1, none⟩ = some (.slice p1 m1 n1) ∧ w'.cell? ⟨b, 2, none⟩ = some (.int .u8 x2) ∧ w'.cell? ⟨b, 3, none⟩ = some (.slice p2 m2 n2))
      ((go_split_ands; refine ⟨?_, ?_, ?_, ?_, ?_, ?_, ?_⟩ <;> first | assumption | exact cell_keep hq (by assumption) | exact Below.trans (by assumption) (hq.mono (by have := Below.size (by assumption : Below w.heap.size w _); omega))))
      (first | (go_at_call 53; (first | (with_reducible refine (C1.out _ ?_).mono ?_) | (with_reducible refine (C2.out _ ?_).mono ?_)); (go_split_ands; assumption); rintro e w2 ⟨rfl, hq⟩))
    go_split_ands
    go_wp2_with fail
    refine (D1 _).out.mono ?_
    rintro e w' ⟨rfl, rfl⟩
    go_wp2_with fail
    refine (D2 _).out.mono ?_
    rintro e w' ⟨rfl, rfl⟩
    go_wp2_with fail
    have BQ := Lib.hid (by assumption : Below w.heap.size w w2)
    go_quiet ((first | (go_at_call 63; refine Calls.quiet_of_same ((compute_at 43 (by simp) _ _ (ca.toNat - 48) (cb.toNat - 48) ?_ ?_ (by omega) (by omega) (by omega) (by omega) _).mono fun _ _ h => ⟨h.1, h.2.symm⟩) <;> first | (rcases hca with rfl | rfl | rfl <;> decide +kernel) | (rcases hcb with rfl | rfl | rfl <;> decide +kernel)) | (go_at_call 68; exact Calls.quiet_of_same ((digitOf_any _ _ hv.out.1 hv.out.2).mono fun _ _ h => ⟨h.1, h.2.symm⟩))))
    go_wp2_with fail
    go_ret
    exact ⟨rfl, below_of_drewN BQ.out _⟩
  · have e1 : (Utf8.encode 45).size ≤ 4 := by decide
    have t0 := heap_at_new (w := w) (o := .cells #[.int .u8 45, .slice (some ⟨b, 0, none⟩) 2 n] 40) rfl
    have hB := (Below.refl w.heap.size w).alloc (Nat.le_refl _) (.cells #[.int .u8 45, .slice (some ⟨b, 0, none⟩) 2 n] 40)
    go_enter Tryd.func53, Tryd.ntmps53
    go_wp2_with fail
    generalize w.alloc (.cells #[.int .u8 45, .slice (some ⟨b, 0, none⟩) 2 n] 40) = W0 at *
    have q0 : W0.cell? ⟨w.heap.size, 0, none⟩ = some (.int .u8 45) := by rw [cell_of_row W0 _ 0 _ _ (0, 0) t0]; rfl
    have q1 : W0.cell? ⟨w.heap.size, 1, none⟩ = some (.slice (some ⟨b, 0, none⟩) 2 n) := by rw [cell_of_row W0 _ 1 _ _ (0, 0) t0]; rfl
    have j0 := cell_keep hB k0; have j1 := cell_keep hB k1; have j2 := cell_keep hB k2; have j3 := cell_keep hB k3
    have hB' := hB.drew
    clear k0 k1 k2 k3 t0
    go_region_held3 (fun w' => Below w.heap.size w w' ∧ w'.cell? ⟨w.heap.size, 0, none⟩ = some (.int .u8 45) ∧ w'.cell? ⟨w.heap.size, 1, none⟩ = some (.slice (some ⟨b, 0, none⟩) 2 n) ∧
        w'.cell? ⟨b, 0, none⟩ = some (.int .u8 x1) ∧ w'.cell? ⟨b, 1, none⟩ = some (.slice p1 m1 n1) ∧ w'.cell? ⟨b, 2, none⟩ = some (.int .u8 x2) ∧ w'.cell? ⟨b, 3, none⟩ = some (.slice p2 m2 n2))
      ((go_split_ands; refine ⟨?_, ?_, ?_, ?_, ?_, ?_, ?_⟩ <;> first | assumption | exact cell_keep hq (by assumption) | exact Below.trans (by assumption) (hq.mono (by have := Below.size (by assumption : Below w.heap.size w _); omega))))
      (first | (go_at_call 53; (first | (with_reducible refine (C1.out _ ?_).mono ?_) | (with_reducible refine (C2.out _ ?_).mono ?_)); (go_split_ands; assumption); rintro e w2 ⟨rfl, hq⟩))
    go_split_ands
    go_wp2_with fail
    refine (D1 _).out.mono ?_
    rintro e w' ⟨rfl, rfl⟩
    go_wp2_with fail
    refine (D2 _).out.mono ?_
    rintro e w' ⟨rfl, rfl⟩
    go_wp2_with fail
    have BQ := Lib.hid (by assumption : Below w.heap.size w w2)
    go_quiet ((first | (go_at_call 63; refine Calls.quiet_of_same ((compute_at 45 (by simp) _ _ (ca.toNat - 48) (cb.toNat - 48) ?_ ?_ (by omega) (by omega) (by omega) (by omega) _).mono fun _ _ h => ⟨h.1, h.2.symm⟩) <;> first | (rcases hca with rfl | rfl | rfl <;> decide +kernel) | (rcases hcb with rfl | rfl | rfl <;> decide +kernel)) | (go_at_call 68; exact Calls.quiet_of_same ((digitOf_any _ _ hv.out.1 hv.out.2).mono fun _ _ h => ⟨h.1, h.2.symm⟩))))
    go_wp2_with fail
    go_ret
    exact ⟨rfl, below_of_drewN BQ.out _⟩
  · have e1 : (Utf8.encode 42).size ≤ 4 := by decide
    have t0 := heap_at_new (w := w) (o := .cells #[.int .u8 42, .slice (some ⟨b, 0, none⟩) 2 n] 40) rfl
    have hB := (Below.refl w.heap.size w).alloc (Nat.le_refl _) (.cells #[.int .u8 42, .slice (some ⟨b, 0, none⟩) 2 n] 40)
    go_enter Tryd.func53, Tryd.ntmps53
    go_wp2_with fail
    generalize w.alloc (.cells #[.int .u8 42, .slice (some ⟨b, 0, none⟩) 2 n] 40) = W0 at *
    have q0 : W0.cell? ⟨w.heap.size, 0, none⟩ = some (.int .u8 42) := by rw [cell_of_row W0 _ 0 _ _ (0, 0) t0]; rfl
    have q1 : W0.cell? ⟨w.heap.size, 1, none⟩ = some (.slice (some ⟨b, 0, none⟩) 2 n) := by rw [cell_of_row W0 _ 1 _ _ (0, 0) t0]; rfl
    have j0 := cell_keep hB k0; have j1 := cell_keep hB k1; have j2 := cell_keep hB k2; have j3 := cell_keep hB k3
    have hB' := hB.drew
    clear k0 k1 k2 k3 t0
    go_region_held3 (fun w' => Below w.heap.size w w' ∧ w'.cell? ⟨w.heap.size, 0, none⟩ = some (.int .u8 42) ∧ w'.cell? ⟨w.heap.size, 1, none⟩ = some (.slice (some ⟨b, 0, none⟩) 2 n) ∧
        w'.cell? ⟨b, 0, none⟩ = some (.int .u8 x1) ∧ w'.cell? ⟨b, 1, none⟩ = some (.slice p1 m1 n1) ∧ w'.cell? ⟨b, 2, none⟩ = some (.int .u8 x2) ∧ w'.cell? ⟨b, 3, none⟩ = some (.slice p2 m2 n2))
      ((go_split_ands; refine ⟨?_, ?_, ?_, ?_, ?_, ?_, ?_⟩ <;> first | assumption | exact cell_keep hq (by assumption) | exact Below.trans (by assumption) (hq.mono (by have := Below.size (by assumption : Below w.heap.size w _); omega))))
      (first | (go_at_call 53; (first | (with_reducible refine (C1.out _ ?_).mono ?_) | (with_reducible refine (C2.out _ ?_).mono ?_)); (go_split_ands; assumption); rintro e w2 ⟨rfl, hq⟩))
    go_split_ands
    go_wp2_with fail
    refine (D1 _).out.mono ?_
    rintro e w' ⟨rfl, rfl⟩
    go_wp2_with fail
    refine (D2 _).out.mono ?_
    rintro e w' ⟨rfl, rfl⟩
    go_wp2_with fail
    have BQ := Lib.hid (by assumption : Below w.heap.size w w2)
    go_quiet ((first | (go_at_call 63; refine Calls.quiet_of_same ((compute_at 42 (by simp) _ _ (ca.toNat - 48) (cb.toNat - 48) ?_ ?_ (by omega) (by omega) (by omega) (by omega) _).mono fun _ _ h => ⟨h.1, h.2.symm⟩) <;> first | (rcases hca with rfl | rfl | rfl <;> decide +kernel) | (rcases hcb with rfl | rfl | rfl <;> decide +kernel)) | (go_at_call 68; exact Calls.quiet_of_same ((digitOf_any _ _ hv.out.1 hv.out.2).mono fun _ _ h => ⟨h.1, h.2.symm⟩))))
    go_wp2_with fail
    go_ret
    exact ⟨rfl, below_of_drewN BQ.out _⟩
end Go.Proofs.YtpdepihggpfmiaaDoor
