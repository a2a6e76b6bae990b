/-
  The value of an expression: (impl.term).value on a tree in memory, and the plain function that it computes.
-/
import Derived.Test.YtpdepihggpfmiaaDoorValid
import Derived.Test.YtpdepihggpfmiaaDoorStW
namespace Go.Proofs.YtpdepihggpfmiaaDoor
open Go.RowKit Tm

/-- An operator's value, of two values. -/
def cmp3 (c : UInt8) (a b : Int) : Int := if c = 43 then (a + b) % 3 else if c = 45 then (a - b + 3) % 3 else a * b % 3
/-- The value of an expression where the variables x, y, z, X, Y, Z have the values of e. -/
def val (e : Nat → Int) : Tm → Int
  | .leaf c => if c = 120 then e 0 else if c = 121 then e 1 else if c = 122 then e 2 else if c = 88 then e 3 else if c = 89 then e 4 else if c = 90 then e 5 else c.toNat - 48
  | .un _ _ => 0
  | .bin c a b => cmp3 c (val e a) (val e b)
/-- The values of one state. -/
def one (x y z : Int) : Nat → Int
  | 0 => x
  | 1 => y
  | 2 => z
  | _ => 0

theorem cmp3_bd (c : UInt8) {a b : Int} (_ha : 0 ≤ a ∧ a ≤ 2) (_hb : 0 ≤ b ∧ b ≤ 2) : 0 ≤ cmp3 c a b ∧ cmp3 c a b ≤ 2 := by
  unfold cmp3
  split
  · omega
  · split
    · omega
    · exact ⟨Int.emod_nonneg _ (by omega), by have := Int.emod_lt_of_pos (a * b) (show (0 : Int) < 3 by omega); omega⟩

theorem ok_expr {wide : Bool} {t : Tm} (h : Ok wide false t) : (∃ c, t = .leaf c ∧ (isVarB wide c || isDigB c) = true) ∨ (∃ c a b, t = .bin c a b ∧ isOpB c = true ∧ Ok wide false a ∧ Ok wide false b) := by
  cases t with
  | leaf c =>
    left
    simp only [Ok, opk_e] at h
    split at h
    · rename_i hh; exact ⟨c, rfl, hh⟩
    · split at h <;> cases h
  | un c a =>
    obtain ⟨k1, h, _⟩ := h
    rw [opk_e] at h
    split at h
    · cases h
    · split at h <;> cases h
  | bin c a b =>
    right
    obtain ⟨k1, k2, h, ha, hb⟩ := h
    rw [opk_e] at h
    split at h
    · cases h
    · split at h
      · rename_i hh; cases h; exact ⟨c, a, b, rfl, hh, ha, hb⟩
      · cases h
theorem op_cases {c : UInt8} (h : isOpB c = true) : c = 43 ∨ c = 45 ∨ c = 42 := by
  simp [isOpB] at h; rcases h with (h | h) | h <;> simp [h]
theorem leaf_cases {c : UInt8} (h : (isVarB false c || isDigB c) = true) : c = 120 ∨ c = 121 ∨ c = 122 ∨ c = 48 ∨ c = 49 ∨ c = 50 := by
  simp [isVarB, isDigB] at h; rcases h with ((h | h) | h) | ((h | h) | h) <;> simp [h]

theorem val_bd {wide : Bool} {e : Nat → Int} (he : ∀ i, 0 ≤ e i ∧ e i ≤ 2) : ∀ {t : Tm}, Ok wide false t → 0 ≤ val e t ∧ val e t ≤ 2 := by
  intro t
  induction t with
  | leaf c =>
    intro h
    rcases ok_expr h with ⟨c', e1, hc⟩ | ⟨c', a, b, e1, _⟩
    · cases e1
      simp only [val]
      by_cases h1 : c = 120
      · rw [if_pos h1]; exact he 0
      rw [if_neg h1]
      by_cases h2 : c = 121
      · rw [if_pos h2]; exact he 1
      rw [if_neg h2]
      by_cases h3 : c = 122
      · rw [if_pos h3]; exact he 2
      rw [if_neg h3]
      by_cases h4 : c = 88
      · rw [if_pos h4]; exact he 3
      rw [if_neg h4]
      by_cases h5 : c = 89
      · rw [if_pos h5]; exact he 4
      rw [if_neg h5]
      by_cases h6 : c = 90
      · rw [if_pos h6]; exact he 5
      rw [if_neg h6]
      simp [isVarB, isDigB, h1, h2, h3, h4, h5, h6] at hc
      rcases hc with (rfl | rfl) | rfl <;> decide
    · cases e1
  | un c a _ => intro _; simp [val]
  | bin c a b iha ihb =>
    intro h
    rcases ok_expr h with ⟨c', e1, _⟩ | ⟨c', a', b', e1, _, h2, h3⟩
    · cases e1
    · cases e1
      exact cmp3_bd c (iha h2) (ihb h3)

theorem cell_keep {w w' : World} {b o : Nat} {v : Value} (hb : Below w.heap.size w w') (h : w.cell? ⟨b, o, none⟩ = some v) : w'.cell? ⟨b, o, none⟩ = some v := (hb.cell (p := ⟨b, o, none⟩) (cell_lt h)).trans h

set_option maxHeartbeats 1000000 in
theorem compute_any (c : UInt8) (a b : Int) (w : World) (hc : c = 43 ∨ c = 45 ∨ c = 42) (ha0 : 0 ≤ a) (ha : a ≤ 2) (hb0 : 0 ≤ b) (hb : b ≤ 2) :
    Calls Tryd.prog 63 #[.int .u8 c.toNat, .int .i64 a, .int .i64 b] w fun e w' => e = .returned (.int .i64 (cmp3 c a b)) ∧ w = w' := by
  rcases hc with rfl | rfl | rfl
  · go_enter Tryd.func63, Tryd.ntmps63
    go_wp2_with fail
    go_ret
    exact ⟨rfl, rfl⟩
  · go_enter Tryd.func63, Tryd.ntmps63
    go_wp2_with fail
    go_ret
    exact ⟨rfl, rfl⟩
  · have h1 : 0 ≤ a * b := Int.mul_nonneg ha0 hb0
    have h2 : a * b ≤ 4 := by
      have := Int.mul_le_mul ha hb hb0 (show (0 : Int) ≤ 2 by omega)
      omega
    go_enter Tryd.func63, Tryd.ntmps63
    go_wp2_with fail
    go_ret
    exact ⟨rfl, rfl⟩

theorem vleaf_cases {c : UInt8} (h : (isVarB true c || isDigB c) = true) : c = 120 ∨ c = 121 ∨ c = 122 ∨ c = 88 ∨ c = 89 ∨ c = 90 ∨ c = 48 ∨ c = 49 ∨ c = 50 := by
  simp [isVarB, isDigB] at h; rcases h with (((h | h) | h) | ((h | h) | h)) | ((h | h) | h) <;> simp [h]

set_option maxHeartbeats 1000000 in
theorem value_leaf (c : UInt8) (y : Value) (E : Nat → Int) (w : World) (hc : c = 120 ∨ c = 121 ∨ c = 122 ∨ c = 88 ∨ c = 89 ∨ c = 90 ∨ c = 48 ∨ c = 49 ∨ c = 50) (a : Option Addr) (n : Nat) (hy : y = .slice a 0 n) :
    Calls Tryd.prog 44 #[.agg #[.int .u8 c.toNat, y], .agg #[.int .i64 (E 0), .int .i64 (E 1), .int .i64 (E 2), .int .i64 (E 3), .int .i64 (E 4), .int .i64 (E 5)]] w fun e w' => e = .returned (.int .i64 (val (E) (.leaf c))) ∧ Below w.heap.size w w' := by
  subst hy
  rcases hc with rfl | rfl | rfl | rfl | rfl | rfl | rfl | rfl | rfl
  all_goals
    go_enter Tryd.func44, Tryd.ntmps44
    go_wp2_with fail
    go_ret
    exact ⟨rfl, ((Below.refl _ _).alloc (Nat.le_refl _) _).alloc (by simp) _⟩

set_option maxRecDepth 100000 in
set_option maxHeartbeats 2000000 in
theorem value_bin (c : UInt8) (va vb : Int) (E : Nat → Int) (w : World) (hc : c = 43 ∨ c = 45 ∨ c = 42) (b n : Nat) (x1 x2 : Int) (p1 p2 : Option Addr) (m1 m2 n1 n2 : Nat)
    (k0 : w.cell? ⟨b, 0, none⟩ = some (.int .u8 x1)) (k1 : w.cell? ⟨b, 1, none⟩ = some (.slice p1 m1 n1)) (k2 : w.cell? ⟨b, 2, none⟩ = some (.int .u8 x2)) (k3 : w.cell? ⟨b, 3, none⟩ = some (.slice p2 m2 n2))
    (ha0 : 0 ≤ va) (ha : va ≤ 2) (hb0 : 0 ≤ vb) (hb : vb ≤ 2)
    (c1 : ∀ w', Below w.heap.size w w' → Calls Tryd.prog 44 #[.agg #[.int .u8 x1, .slice p1 m1 n1], .agg #[.int .i64 (E 0), .int .i64 (E 1), .int .i64 (E 2), .int .i64 (E 3), .int .i64 (E 4), .int .i64 (E 5)]] w' fun e w2 => e = .returned (.int .i64 va) ∧ Below w'.heap.size w' w2)
    (c2 : ∀ w', Below w.heap.size w w' → Calls Tryd.prog 44 #[.agg #[.int .u8 x2, .slice p2 m2 n2], .agg #[.int .i64 (E 0), .int .i64 (E 1), .int .i64 (E 2), .int .i64 (E 3), .int .i64 (E 4), .int .i64 (E 5)]] w' fun e w2 => e = .returned (.int .i64 vb) ∧ Below w'.heap.size w' w2) :
    Calls Tryd.prog 44 #[.agg #[.int .u8 c.toNat, .slice (some ⟨b, 0, none⟩) 2 n], .agg #[.int .i64 (E 0), .int .i64 (E 1), .int .i64 (E 2), .int .i64 (E 3), .int .i64 (E 4), .int .i64 (E 5)]] w fun e w' => e = .returned (.int .i64 (cmp3 c va vb)) ∧ Below w.heap.size w w' := by
  have C1 := Lib.hid c1
  have C2 := Lib.hid c2
  have hlt := cell_lt k0
  clear c1 c2
  rcases hc with rfl | rfl | rfl
  · have K : Hid (∀ w, Calls Tryd.prog 63 #[.int .u8 43, .int .i64 va, .int .i64 vb] w fun e w' => e = .returned (.int .i64 (cmp3 43 va vb)) ∧ w = w') := fun w => compute_any 43 va vb w (by simp) ha0 ha hb0 hb
    go_enter Tryd.func44, Tryd.ntmps44
    go_wp2_with fail
    have t0 := (heap_at_old (heap_at_new (w := w) (o := .cells #[.int .u8 43, .slice (some ⟨b, 0, none⟩) 2 n] 40) rfl) : (World.alloc _ (.cells #[.int .i64 (E 0), .int .i64 (E 1), .int .i64 (E 2), .int .i64 (E 3), .int .i64 (E 4), .int .i64 (E 5)] 51)).heap[_]? = _)
    have t1 := (heap_at_new (w := w.alloc (.cells #[.int .u8 43, .slice (some ⟨b, 0, none⟩) 2 n] 40)) (o := .cells #[.int .i64 (E 0), .int .i64 (E 1), .int .i64 (E 2), .int .i64 (E 3), .int .i64 (E 4), .int .i64 (E 5)] 51) (k := w.heap.size + 1) (by simp))
    have hB := ((Below.refl w.heap.size w).alloc (Nat.le_refl _) (.cells #[.int .u8 43, .slice (some ⟨b, 0, none⟩) 2 n] 40)).alloc (by simp) (.cells #[.int .i64 (E 0), .int .i64 (E 1), .int .i64 (E 2), .int .i64 (E 3), .int .i64 (E 4), .int .i64 (E 5)] 51)
    generalize (w.alloc (.cells #[.int .u8 43, .slice (some ⟨b, 0, none⟩) 2 n] 40)).alloc (.cells #[.int .i64 (E 0), .int .i64 (E 1), .int .i64 (E 2), .int .i64 (E 3), .int .i64 (E 4), .int .i64 (E 5)] 51) = W0 at *
    have q0 : W0.cell? ⟨w.heap.size, 0, none⟩ = some (.int .u8 43) := by rw [cell_of_row W0 _ 0 _ _ (0, 0) t0]; rfl
    have q1 : W0.cell? ⟨w.heap.size, 1, none⟩ = some (.slice (some ⟨b, 0, none⟩) 2 n) := by rw [cell_of_row W0 _ 1 _ _ (0, 0) t0]; rfl
    have q2 : W0.cell? ⟨w.heap.size + 1, 0, none⟩ = some (.int .i64 (E 0)) := by rw [cell_of_row W0 _ 0 _ _ (0, 0) t1]; rfl
    have q3 : W0.cell? ⟨w.heap.size + 1, 1, none⟩ = some (.int .i64 (E 1)) := by rw [cell_of_row W0 _ 1 _ _ (0, 0) t1]; rfl
    have q4 : W0.cell? ⟨w.heap.size + 1, 2, none⟩ = some (.int .i64 (E 2)) := by rw [cell_of_row W0 _ 2 _ _ (0, 0) t1]; rfl
    have q5 : W0.cell? ⟨w.heap.size + 1, 3, none⟩ = some (.int .i64 (E 3)) := by rw [cell_of_row W0 _ 3 _ _ (0, 0) t1]; rfl
    have q6 : W0.cell? ⟨w.heap.size + 1, 4, none⟩ = some (.int .i64 (E 4)) := by rw [cell_of_row W0 _ 4 _ _ (0, 0) t1]; rfl
    have q7 : W0.cell? ⟨w.heap.size + 1, 5, none⟩ = some (.int .i64 (E 5)) := by rw [cell_of_row W0 _ 5 _ _ (0, 0) t1]; rfl
    have j0 := cell_keep hB k0
    have j1 := cell_keep hB k1
    have j2 := cell_keep hB k2
    have j3 := cell_keep hB k3
    have hB' := hB.drew
    clear k0 k1 k2 k3 t0 t1
    go_region_held3 (fun w' => Below w.heap.size w w' ∧ w'.cell? ⟨w.heap.size, 0, none⟩ = some (.int .u8 43) ∧ w'.cell? ⟨w.heap.size, 1, none⟩ = some (.slice (some ⟨b, 0, none⟩) 2 n) ∧
        w'.cell? ⟨w.heap.size + 1, 0, none⟩ = some (.int .i64 (E 0)) ∧ w'.cell? ⟨w.heap.size + 1, 1, none⟩ = some (.int .i64 (E 1)) ∧ w'.cell? ⟨w.heap.size + 1, 2, none⟩ = some (.int .i64 (E 2)) ∧ w'.cell? ⟨w.heap.size + 1, 3, none⟩ = some (.int .i64 (E 3)) ∧ w'.cell? ⟨w.heap.size + 1, 4, none⟩ = some (.int .i64 (E 4)) ∧ w'.cell? ⟨w.heap.size + 1, 5, none⟩ = some (.int .i64 (E 5)) ∧
        w'.cell? ⟨b, 0, none⟩ = some (.int .u8 x1) ∧ w'.cell? ⟨b, 1, none⟩ = some (.slice p1 m1 n1) ∧ w'.cell? ⟨b, 2, none⟩ = some (.int .u8 x2) ∧ w'.cell? ⟨b, 3, none⟩ = some (.slice p2 m2 n2))
      ((go_split_ands; refine ⟨?_, ?_, ?_, ?_, ?_, ?_, ?_, ?_, ?_, ?_, ?_, ?_, ?_⟩ <;> first | assumption | exact cell_keep hq (by assumption) | exact Below.trans (by assumption) (hq.mono (by have := Below.size (by assumption : Below w.heap.size w _); omega))))
      (first
        | (go_at_call 44; (first | (with_reducible refine (C1.out _ ?_).mono ?_) | (with_reducible refine (C2.out _ ?_).mono ?_)); (go_split_ands; assumption); rintro e w2 ⟨rfl, hq⟩)
        | (go_at_call 63; refine (K.out _).mono ?_; rintro e w2 ⟨rfl, rfl⟩))
    go_wp2_with fail
    go_split_ands
    go_ret
    exact ⟨rfl, by assumption⟩
  · have K : Hid (∀ w, Calls Tryd.prog 63 #[.int .u8 45, .int .i64 va, .int .i64 vb] w fun e w' => e = .returned (.int .i64 (cmp3 45 va vb)) ∧ w = w') := fun w => compute_any 45 va vb w (by simp) ha0 ha hb0 hb
    go_enter Tryd.func44, Tryd.ntmps44
    go_wp2_with fail
    have t0 := (heap_at_old (heap_at_new (w := w) (o := .cells #[.int .u8 45, .slice (some ⟨b, 0, none⟩) 2 n] 40) rfl) : (World.alloc _ (.cells #[.int .i64 (E 0), .int .i64 (E 1), .int .i64 (E 2), .int .i64 (E 3), .int .i64 (E 4), .int .i64 (E 5)] 51)).heap[_]? = _)
    have t1 := (heap_at_new (w := w.alloc (.cells #[.int .u8 45, .slice (some ⟨b, 0, none⟩) 2 n] 40)) (o := .cells #[.int .i64 (E 0), .int .i64 (E 1), .int .i64 (E 2), .int .i64 (E 3), .int .i64 (E 4), .int .i64 (E 5)] 51) (k := w.heap.size + 1) (by simp))
    have hB := ((Below.refl w.heap.size w).alloc (Nat.le_refl _) (.cells #[.int .u8 45, .slice (some ⟨b, 0, none⟩) 2 n] 40)).alloc (by simp) (.cells #[.int .i64 (E 0), .int .i64 (E 1), .int .i64 (E 2), .int .i64 (E 3), .int .i64 (E 4), .int .i64 (E 5)] 51)
    generalize (w.alloc (.cells #[.int .u8 45, .slice (some ⟨b, 0, none⟩) 2 n] 40)).alloc (.cells #[.int .i64 (E 0), .int .i64 (E 1), .int .i64 (E 2), .int .i64 (E 3), .int .i64 (E 4), .int .i64 (E 5)] 51) = W0 at *
    have q0 : W0.cell? ⟨w.heap.size, 0, none⟩ = some (.int .u8 45) := by rw [cell_of_row W0 _ 0 _ _ (0, 0) t0]; rfl
    have q1 : W0.cell? ⟨w.heap.size, 1, none⟩ = some (.slice (some ⟨b, 0, none⟩) 2 n) := by rw [cell_of_row W0 _ 1 _ _ (0, 0) t0]; rfl
    have q2 : W0.cell? ⟨w.heap.size + 1, 0, none⟩ = some (.int .i64 (E 0)) := by rw [cell_of_row W0 _ 0 _ _ (0, 0) t1]; rfl
    have q3 : W0.cell? ⟨w.heap.size + 1, 1, none⟩ = some (.int .i64 (E 1)) := by rw [cell_of_row W0 _ 1 _ _ (0, 0) t1]; rfl
    have q4 : W0.cell? ⟨w.heap.size + 1, 2, none⟩ = some (.int .i64 (E 2)) := by rw [cell_of_row W0 _ 2 _ _ (0, 0) t1]; rfl
    have q5 : W0.cell? ⟨w.heap.size + 1, 3, none⟩ = some (.int .i64 (E 3)) := by rw [cell_of_row W0 _ 3 _ _ (0, 0) t1]; rfl
    have q6 : W0.cell? ⟨w.heap.size + 1, 4, none⟩ = some (.int .i64 (E 4)) := by rw [cell_of_row W0 _ 4 _ _ (0, 0) t1]; rfl
    have q7 : W0.cell? ⟨w.heap.size + 1, 5, none⟩ = some (.int .i64 (E 5)) := by rw [cell_of_row W0 _ 5 _ _ (0, 0) t1]; rfl
    have j0 := cell_keep hB k0
    have j1 := cell_keep hB k1
    have j2 := cell_keep hB k2
    have j3 := cell_keep hB k3
    have hB' := hB.drew
    clear k0 k1 k2 k3 t0 t1
    go_region_held3 (fun w' => Below w.heap.size w w' ∧ w'.cell? ⟨w.heap.size, 0, none⟩ = some (.int .u8 45) ∧ w'.cell? ⟨w.heap.size, 1, none⟩ = some (.slice (some ⟨b, 0, none⟩) 2 n) ∧
        w'.cell? ⟨w.heap.size + 1, 0, none⟩ = some (.int .i64 (E 0)) ∧ w'.cell? ⟨w.heap.size + 1, 1, none⟩ = some (.int .i64 (E 1)) ∧ w'.cell? ⟨w.heap.size + 1, 2, none⟩ = some (.int .i64 (E 2)) ∧ w'.cell? ⟨w.heap.size + 1, 3, none⟩ = some (.int .i64 (E 3)) ∧ w'.cell? ⟨w.heap.size + 1, 4, none⟩ = some (.int .i64 (E 4)) ∧ w'.cell? ⟨w.heap.size + 1, 5, none⟩ = some (.int .i64 (E 5)) ∧
        w'.cell? ⟨b, 0, none⟩ = some (.int .u8 x1) ∧ w'.cell? ⟨b, 1, none⟩ = some (.slice p1 m1 n1) ∧ w'.cell? ⟨b, 2, none⟩ = some (.int .u8 x2) ∧ w'.cell? ⟨b, 3, none⟩ = some (.slice p2 m2 n2))
      ((go_split_ands; refine ⟨?_, ?_, ?_, ?_, ?_, ?_, ?_, ?_, ?_, ?_, ?_, ?_, ?_⟩ <;> first | assumption | exact cell_keep hq (by assumption) | exact Below.trans (by assumption) (hq.mono (by have := Below.size (by assumption : Below w.heap.size w _); omega))))
      (first
        | (go_at_call 44; (first | (with_reducible refine (C1.out _ ?_).mono ?_) | (with_reducible refine (C2.out _ ?_).mono ?_)); (go_split_ands; assumption); rintro e w2 ⟨rfl, hq⟩)
        | (go_at_call 63; refine (K.out _).mono ?_; rintro e w2 ⟨rfl, rfl⟩))
    go_wp2_with fail
    go_split_ands
    go_ret
    exact ⟨rfl, by assumption⟩
  · have K : Hid (∀ w, Calls Tryd.prog 63 #[.int .u8 42, .int .i64 va, .int .i64 vb] w fun e w' => e = .returned (.int .i64 (cmp3 42 va vb)) ∧ w = w') := fun w => compute_any 42 va vb w (by simp) ha0 ha hb0 hb
    go_enter Tryd.func44, Tryd.ntmps44
    go_wp2_with fail
    have t0 := (heap_at_old (heap_at_new (w := w) (o := .cells #[.int .u8 42, .slice (some ⟨b, 0, none⟩) 2 n] 40) rfl) : (World.alloc _ (.cells #[.int .i64 (E 0), .int .i64 (E 1), .int .i64 (E 2), .int .i64 (E 3), .int .i64 (E 4), .int .i64 (E 5)] 51)).heap[_]? = _)
    have t1 := (heap_at_new (w := w.alloc (.cells #[.int .u8 42, .slice (some ⟨b, 0, none⟩) 2 n] 40)) (o := .cells #[.int .i64 (E 0), .int .i64 (E 1), .int .i64 (E 2), .int .i64 (E 3), .int .i64 (E 4), .int .i64 (E 5)] 51) (k := w.heap.size + 1) (by simp))
    have hB := ((Below.refl w.heap.size w).alloc (Nat.le_refl _) (.cells #[.int .u8 42, .slice (some ⟨b, 0, none⟩) 2 n] 40)).alloc (by simp) (.cells #[.int .i64 (E 0), .int .i64 (E 1), .int .i64 (E 2), .int .i64 (E 3), .int .i64 (E 4), .int .i64 (E 5)] 51)
    generalize (w.alloc (.cells #[.int .u8 42, .slice (some ⟨b, 0, none⟩) 2 n] 40)).alloc (.cells #[.int .i64 (E 0), .int .i64 (E 1), .int .i64 (E 2), .int .i64 (E 3), .int .i64 (E 4), .int .i64 (E 5)] 51) = W0 at *
    have q0 : W0.cell? ⟨w.heap.size, 0, none⟩ = some (.int .u8 42) := by rw [cell_of_row W0 _ 0 _ _ (0, 0) t0]; rfl
    have q1 : W0.cell? ⟨w.heap.size, 1, none⟩ = some (.slice (some ⟨b, 0, none⟩) 2 n) := by rw [cell_of_row W0 _ 1 _ _ (0, 0) t0]; rfl
    have q2 : W0.cell? ⟨w.heap.size + 1, 0, none⟩ = some (.int .i64 (E 0)) := by rw [cell_of_row W0 _ 0 _ _ (0, 0) t1]; rfl
    have q3 : W0.cell? ⟨w.heap.size + 1, 1, none⟩ = some (.int .i64 (E 1)) := by rw [cell_of_row W0 _ 1 _ _ (0, 0) t1]; rfl
    have q4 : W0.cell? ⟨w.heap.size + 1, 2, none⟩ = some (.int .i64 (E 2)) := by rw [cell_of_row W0 _ 2 _ _ (0, 0) t1]; rfl
    have q5 : W0.cell? ⟨w.heap.size + 1, 3, none⟩ = some (.int .i64 (E 3)) := by rw [cell_of_row W0 _ 3 _ _ (0, 0) t1]; rfl
    have q6 : W0.cell? ⟨w.heap.size + 1, 4, none⟩ = some (.int .i64 (E 4)) := by rw [cell_of_row W0 _ 4 _ _ (0, 0) t1]; rfl
    have q7 : W0.cell? ⟨w.heap.size + 1, 5, none⟩ = some (.int .i64 (E 5)) := by rw [cell_of_row W0 _ 5 _ _ (0, 0) t1]; rfl
    have j0 := cell_keep hB k0
    have j1 := cell_keep hB k1
    have j2 := cell_keep hB k2
    have j3 := cell_keep hB k3
    have hB' := hB.drew
    clear k0 k1 k2 k3 t0 t1
    go_region_held3 (fun w' => Below w.heap.size w w' ∧ w'.cell? ⟨w.heap.size, 0, none⟩ = some (.int .u8 42) ∧ w'.cell? ⟨w.heap.size, 1, none⟩ = some (.slice (some ⟨b, 0, none⟩) 2 n) ∧
        w'.cell? ⟨w.heap.size + 1, 0, none⟩ = some (.int .i64 (E 0)) ∧ w'.cell? ⟨w.heap.size + 1, 1, none⟩ = some (.int .i64 (E 1)) ∧ w'.cell? ⟨w.heap.size + 1, 2, none⟩ = some (.int .i64 (E 2)) ∧ w'.cell? ⟨w.heap.size + 1, 3, none⟩ = some (.int .i64 (E 3)) ∧ w'.cell? ⟨w.heap.size + 1, 4, none⟩ = some (.int .i64 (E 4)) ∧ w'.cell? ⟨w.heap.size + 1, 5, none⟩ = some (.int .i64 (E 5)) ∧
        w'.cell? ⟨b, 0, none⟩ = some (.int .u8 x1) ∧ w'.cell? ⟨b, 1, none⟩ = some (.slice p1 m1 n1) ∧ w'.cell? ⟨b, 2, none⟩ = some (.int .u8 x2) ∧ w'.cell? ⟨b, 3, none⟩ = some (.slice p2 m2 n2))
      ((go_split_ands; refine ⟨?_, ?_, ?_, ?_, ?_, ?_, ?_, ?_, ?_, ?_, ?_, ?_, ?_⟩ <;> first | assumption | exact cell_keep hq (by assumption) | exact Below.trans (by assumption) (hq.mono (by have := Below.size (by assumption : Below w.heap.size w _); omega))))
      (first
        | (go_at_call 44; (first | (with_reducible refine (C1.out _ ?_).mono ?_) | (with_reducible refine (C2.out _ ?_).mono ?_)); (go_split_ands; assumption); rintro e w2 ⟨rfl, hq⟩)
        | (go_at_call 63; refine (K.out _).mono ?_; rintro e w2 ⟨rfl, rfl⟩))
    go_wp2_with fail
    go_split_ands
    go_ret
    exact ⟨rfl, by assumption⟩

/-- (impl.term).value, at every tree that is an expression: its value. What was there stays. -/
theorem value_any (E : Nat → Int) (he : ∀ i, 0 ≤ E i ∧ E i ≤ 2) : ∀ (t : Tm) (B : Nat) (x y : Value) (w : World), Ok true false t → RepT w B t x y →
    Calls Tryd.prog 44 #[.agg #[x, y], .agg #[.int .i64 (E 0), .int .i64 (E 1), .int .i64 (E 2), .int .i64 (E 3), .int .i64 (E 4), .int .i64 (E 5)]] w fun e w' => e = .returned (.int .i64 (val (E) t)) ∧ Below w.heap.size w w' := by
  intro t
  induction t with
  | leaf c =>
    intro B x y w ht hr
    obtain ⟨rfl, a, n, rfl⟩ := hr
    rcases ok_expr ht with ⟨c', e1, hc⟩ | ⟨_, _, _, e1, _⟩
    · cases e1
      exact value_leaf c _ E w (vleaf_cases hc) a n rfl
    · cases e1
  | un c a _ =>
    intro B x y w ht hr
    rcases ok_expr ht with ⟨_, e1, _⟩ | ⟨_, _, _, e1, _⟩ <;> cases e1
  | bin c a d iha ihd =>
    intro B x y w ht hr
    rcases ok_expr ht with ⟨_, e1, _⟩ | ⟨c', a', d', e1, hc, oa, od⟩
    · cases e1
    · cases e1
      obtain ⟨rfl, b, n, x1, y1, x2, y2, rfl, _, k0, k1, k2, k3, r1, r2⟩ := hr
      obtain ⟨z1, p1, m1, n1, rfl, rfl⟩ := r1.forms
      obtain ⟨z2, p2, m2, n2, rfl, rfl⟩ := r2.forms
      have h1 := val_bd he oa
      have h2 := val_bd he od
      exact value_bin c _ _ E w (op_cases hc) b n z1 z2 p1 p2 m1 m2 n1 n2 k0 k1 k2 k3 h1.1 h1.2 h2.1 h2.2 (fun w' h => iha B _ _ w' oa (r1.below h)) (fun w' h => ihd B _ _ w' od (r2.below h))
end Go.Proofs.YtpdepihggpfmiaaDoor
