/-
  The truth of a test: (impl.term).holds on a tree in memory, and the plain function that it computes.
-/
import Derived.Test.YtpdepihggpfmiaaDoorVal
namespace Go.Proofs.YtpdepihggpfmiaaDoor
open Go.RowKit Tm

/-- Whether a test is true where the variables have the values of e. -/
def tru (e : Nat → Int) : Tm → Bool
  | .leaf c => c == 116
  | .un _ a => !tru e a
  | .bin c a b => if c = 61 then val e a == val e b else if c = 60 then decide (val e a < val e b) else if c = 38 then tru e a && tru e b else tru e a || tru e b

theorem ok_test {wide : Bool} {t : Tm} (h : Ok wide true t) : (∃ c, t = .leaf c ∧ (c = 116 ∨ c = 102)) ∨ (∃ a, t = .un 33 a ∧ Ok wide true a) ∨
    (∃ c a b, t = .bin c a b ∧ (c = 61 ∨ c = 60) ∧ Ok wide false a ∧ Ok wide false b) ∨ (∃ c a b, t = .bin c a b ∧ (c = 38 ∨ c = 124) ∧ Ok wide true a ∧ Ok wide true b) := by
  have toU : ∀ {c : UInt8} {n : Nat}, c.toNat = n → n < 256 → c = UInt8.ofNat n := fun h hn => u8_of_nat h hn
  cases t with
  | leaf c =>
    rcases opk_t h with ⟨_, h2⟩ | ⟨h1, _⟩ | ⟨h1, _⟩ | ⟨h1, _⟩
    · exact .inl ⟨c, rfl, h2.elim (fun h => .inl (toU h (by decide))) (fun h => .inr (toU h (by decide)))⟩
    · cases h1
    · cases h1
    · cases h1
  | un c a =>
    obtain ⟨k1, h, ha⟩ := h
    rcases opk_t h with ⟨h1, _⟩ | ⟨h1, _⟩ | ⟨h1, h2⟩ | ⟨h1, _⟩
    · cases h1
    · cases h1
    · cases h1
      obtain rfl := toU h2 (by decide)
      exact .inr (.inl ⟨a, rfl, ha⟩)
    · cases h1
  | bin c a b =>
    obtain ⟨k1, k2, h, ha, hb⟩ := h
    rcases opk_t h with ⟨h1, _⟩ | ⟨h1, h2⟩ | ⟨h1, _⟩ | ⟨h1, h2⟩
    · cases h1
    · cases h1
      exact .inr (.inr (.inl ⟨c, a, b, rfl, h2.elim (fun h => .inl (toU h (by decide))) (fun h => .inr (toU h (by decide))), ha, hb⟩))
    · cases h1
    · cases h1
      exact .inr (.inr (.inr ⟨c, a, b, rfl, h2.elim (fun h => .inl (toU h (by decide))) (fun h => .inr (toU h (by decide))), ha, hb⟩))

set_option maxHeartbeats 1000000 in
theorem holds_leaf (c : UInt8) (E : Nat → Int) (w : World) (hc : c = 116 ∨ c = 102) (a : Option Addr) (n : Nat) :
    Calls Tryd.prog 46 #[.agg #[.int .u8 c.toNat, .slice a 0 n], .agg #[.int .i64 (E 0), .int .i64 (E 1), .int .i64 (E 2), .int .i64 (E 3), .int .i64 (E 4), .int .i64 (E 5)]] w fun e w' => e = .returned (.bool (c == 116)) ∧ Below w.heap.size w w' := by
  rcases hc with rfl | rfl
  all_goals
    go_enter Tryd.func46, Tryd.ntmps46
    go_wp2_with fail
    go_ret
    exact ⟨rfl, ((Below.refl _ _).alloc (Nat.le_refl _) _).alloc (by simp) _⟩

set_option maxRecDepth 100000 in
set_option maxHeartbeats 4000000 in
theorem holds_cmp (c : UInt8) (va vb : Int) (E : Nat → Int) (w : World) (hc : c = 61 ∨ c = 60) (b n : Nat) (x1 x2 : Int) (p1 p2 : Option Addr) (m1 m2 n1 n2 : Nat)
    (k0 : w.cell? ⟨b, 0, none⟩ = some (.int .u8 x1)) (k1 : w.cell? ⟨b, 1, none⟩ = some (.slice p1 m1 n1)) (k2 : w.cell? ⟨b, 2, none⟩ = some (.int .u8 x2)) (k3 : w.cell? ⟨b, 3, none⟩ = some (.slice p2 m2 n2))
    (c1 : ∀ w', Below w.heap.size w w' → Calls Tryd.prog 44 #[.agg #[.int .u8 x1, .slice p1 m1 n1], .agg #[.int .i64 (E 0), .int .i64 (E 1), .int .i64 (E 2), .int .i64 (E 3), .int .i64 (E 4), .int .i64 (E 5)]] w' fun e w2 => e = .returned (.int .i64 va) ∧ Below w'.heap.size w' w2)
    (c2 : ∀ w', Below w.heap.size w w' → Calls Tryd.prog 44 #[.agg #[.int .u8 x2, .slice p2 m2 n2], .agg #[.int .i64 (E 0), .int .i64 (E 1), .int .i64 (E 2), .int .i64 (E 3), .int .i64 (E 4), .int .i64 (E 5)]] w' fun e w2 => e = .returned (.int .i64 vb) ∧ Below w'.heap.size w' w2) :
    Calls Tryd.prog 46 #[.agg #[.int .u8 c.toNat, .slice (some ⟨b, 0, none⟩) 2 n], .agg #[.int .i64 (E 0), .int .i64 (E 1), .int .i64 (E 2), .int .i64 (E 3), .int .i64 (E 4), .int .i64 (E 5)]] w fun e w' => e = .returned (.bool (if c = 61 then va == vb else decide (va < vb))) ∧ Below w.heap.size w w' := by
  have C1 := Lib.hid c1
  have C2 := Lib.hid c2
  have hlt := cell_lt k0
  clear c1 c2
  rcases hc with rfl | rfl
  · skip
    go_enter Tryd.func46, Tryd.ntmps46
    go_wp2_with fail
    have t0 := (heap_at_old (heap_at_new (w := w) (o := .cells #[.int .u8 61, .slice (some ⟨b, 0, none⟩) 2 n] 40) rfl) : (World.alloc _ (.cells #[.int .i64 (E 0), .int .i64 (E 1), .int .i64 (E 2), .int .i64 (E 3), .int .i64 (E 4), .int .i64 (E 5)] 51)).heap[_]? = _)
    have t1 := (heap_at_new (w := w.alloc (.cells #[.int .u8 61, .slice (some ⟨b, 0, none⟩) 2 n] 40)) (o := .cells #[.int .i64 (E 0), .int .i64 (E 1), .int .i64 (E 2), .int .i64 (E 3), .int .i64 (E 4), .int .i64 (E 5)] 51) (k := w.heap.size + 1) (by simp))
    have hB := ((Below.refl w.heap.size w).alloc (Nat.le_refl _) (.cells #[.int .u8 61, .slice (some ⟨b, 0, none⟩) 2 n] 40)).alloc (by simp) (.cells #[.int .i64 (E 0), .int .i64 (E 1), .int .i64 (E 2), .int .i64 (E 3), .int .i64 (E 4), .int .i64 (E 5)] 51)
    generalize (w.alloc (.cells #[.int .u8 61, .slice (some ⟨b, 0, none⟩) 2 n] 40)).alloc (.cells #[.int .i64 (E 0), .int .i64 (E 1), .int .i64 (E 2), .int .i64 (E 3), .int .i64 (E 4), .int .i64 (E 5)] 51) = W0 at *
    have q0 : W0.cell? ⟨w.heap.size, 0, none⟩ = some (.int .u8 61) := by rw [cell_of_row W0 _ 0 _ _ (0, 0) t0]; rfl
    have q1 : W0.cell? ⟨w.heap.size, 1, none⟩ = some (.slice (some ⟨b, 0, none⟩) 2 n) := by rw [cell_of_row W0 _ 1 _ _ (0, 0) t0]; rfl
    have q2 : W0.cell? ⟨w.heap.size + 1, 0, none⟩ = some (.int .i64 (E 0)) := by rw [cell_of_row W0 _ 0 _ _ (0, 0) t1]; rfl
    have q3 : W0.cell? ⟨w.heap.size + 1, 1, none⟩ = some (.int .i64 (E 1)) := by rw [cell_of_row W0 _ 1 _ _ (0, 0) t1]; rfl
    have q4 : W0.cell? ⟨w.heap.size + 1, 2, none⟩ = some (.int .i64 (E 2)) := by rw [cell_of_row W0 _ 2 _ _ (0, 0) t1]; rfl
    have q5 : W0.cell? ⟨w.heap.size + 1, 3, none⟩ = some (.int .i64 (E 3)) := by rw [cell_of_row W0 _ 3 _ _ (0, 0) t1]; rfl
    have q6 : W0.cell? ⟨w.heap.size + 1, 4, none⟩ = some (.int .i64 (E 4)) := by rw [cell_of_row W0 _ 4 _ _ (0, 0) t1]; rfl
    have q7 : W0.cell? ⟨w.heap.size + 1, 5, none⟩ = some (.int .i64 (E 5)) := by rw [cell_of_row W0 _ 5 _ _ (0, 0) t1]; rfl
    have j0 := cell_keep hB k0
    have j1 := cell_keep hB k1
    have j2 := cell_keep hB k2
    have j3 := cell_keep hB k3
    have hB' := hB.drew
    clear k0 k1 k2 k3 t0 t1
    go_region_held3 (fun w' => Below w.heap.size w w' ∧ w'.cell? ⟨w.heap.size, 0, none⟩ = some (.int .u8 61) ∧ w'.cell? ⟨w.heap.size, 1, none⟩ = some (.slice (some ⟨b, 0, none⟩) 2 n) ∧
        w'.cell? ⟨w.heap.size + 1, 0, none⟩ = some (.int .i64 (E 0)) ∧ w'.cell? ⟨w.heap.size + 1, 1, none⟩ = some (.int .i64 (E 1)) ∧ w'.cell? ⟨w.heap.size + 1, 2, none⟩ = some (.int .i64 (E 2)) ∧ w'.cell? ⟨w.heap.size + 1, 3, none⟩ = some (.int .i64 (E 3)) ∧ w'.cell? ⟨w.heap.size + 1, 4, none⟩ = some (.int .i64 (E 4)) ∧ w'.cell? ⟨w.heap.size + 1, 5, none⟩ = some (.int .i64 (E 5)) ∧
        w'.cell? ⟨b, 0, none⟩ = some (.int .u8 x1) ∧ w'.cell? ⟨b, 1, none⟩ = some (.slice p1 m1 n1) ∧ w'.cell? ⟨b, 2, none⟩ = some (.int .u8 x2) ∧ w'.cell? ⟨b, 3, none⟩ = some (.slice p2 m2 n2))
      ((go_split_ands; refine ⟨?_, ?_, ?_, ?_, ?_, ?_, ?_, ?_, ?_, ?_, ?_, ?_, ?_⟩ <;> first | assumption | exact cell_keep hq (by assumption) | exact Below.trans (by assumption) (hq.mono (by have := Below.size (by assumption : Below w.heap.size w _); omega))))
      (first | (go_at_call 44; (first | (with_reducible refine (C1.out _ ?_).mono ?_) | (with_reducible refine (C2.out _ ?_).mono ?_)); (go_split_ands; assumption); rintro e w2 ⟨rfl, hq⟩))
    go_wp2_with fail
    go_split_ands
    go_ret
    exact ⟨rfl, by assumption⟩
  · skip
    go_enter Tryd.func46, Tryd.ntmps46
    go_wp2_with fail
    have t0 := (heap_at_old (heap_at_new (w := w) (o := .cells #[.int .u8 60, .slice (some ⟨b, 0, none⟩) 2 n] 40) rfl) : (World.alloc _ (.cells #[.int .i64 (E 0), .int .i64 (E 1), .int .i64 (E 2), .int .i64 (E 3), .int .i64 (E 4), .int .i64 (E 5)] 51)).heap[_]? = _)
    have t1 := (heap_at_new (w := w.alloc (.cells #[.int .u8 60, .slice (some ⟨b, 0, none⟩) 2 n] 40)) (o := .cells #[.int .i64 (E 0), .int .i64 (E 1), .int .i64 (E 2), .int .i64 (E 3), .int .i64 (E 4), .int .i64 (E 5)] 51) (k := w.heap.size + 1) (by simp))
    have hB := ((Below.refl w.heap.size w).alloc (Nat.le_refl _) (.cells #[.int .u8 60, .slice (some ⟨b, 0, none⟩) 2 n] 40)).alloc (by simp) (.cells #[.int .i64 (E 0), .int .i64 (E 1), .int .i64 (E 2), .int .i64 (E 3), .int .i64 (E 4), .int .i64 (E 5)] 51)
    generalize (w.alloc (.cells #[.int .u8 60, .slice (some ⟨b, 0, none⟩) 2 n] 40)).alloc (.cells #[.int .i64 (E 0), .int .i64 (E 1), .int .i64 (E 2), .int .i64 (E 3), .int .i64 (E 4), .int .i64 (E 5)] 51) = W0 at *
    have q0 : W0.cell? ⟨w.heap.size, 0, none⟩ = some (.int .u8 60) := by rw [cell_of_row W0 _ 0 _ _ (0, 0) t0]; rfl
    have q1 : W0.cell? ⟨w.heap.size, 1, none⟩ = some (.slice (some ⟨b, 0, none⟩) 2 n) := by rw [cell_of_row W0 _ 1 _ _ (0, 0) t0]; rfl
    have q2 : W0.cell? ⟨w.heap.size + 1, 0, none⟩ = some (.int .i64 (E 0)) := by rw [cell_of_row W0 _ 0 _ _ (0, 0) t1]; rfl
    have q3 : W0.cell? ⟨w.heap.size + 1, 1, none⟩ = some (.int .i64 (E 1)) := by rw [cell_of_row W0 _ 1 _ _ (0, 0) t1]; rfl
    have q4 : W0.cell? ⟨w.heap.size + 1, 2, none⟩ = some (.int .i64 (E 2)) := by rw [cell_of_row W0 _ 2 _ _ (0, 0) t1]; rfl
    have q5 : W0.cell? ⟨w.heap.size + 1, 3, none⟩ = some (.int .i64 (E 3)) := by rw [cell_of_row W0 _ 3 _ _ (0, 0) t1]; rfl
    have q6 : W0.cell? ⟨w.heap.size + 1, 4, none⟩ = some (.int .i64 (E 4)) := by rw [cell_of_row W0 _ 4 _ _ (0, 0) t1]; rfl
    have q7 : W0.cell? ⟨w.heap.size + 1, 5, none⟩ = some (.int .i64 (E 5)) := by rw [cell_of_row W0 _ 5 _ _ (0, 0) t1]; rfl
    have j0 := cell_keep hB k0
    have j1 := cell_keep hB k1
    have j2 := cell_keep hB k2
    have j3 := cell_keep hB k3
    have hB' := hB.drew
    clear k0 k1 k2 k3 t0 t1
    go_region_held3 (fun w' => Below w.heap.size w w' ∧ w'.cell? ⟨w.heap.size, 0, none⟩ = some (.int .u8 60) ∧ w'.cell? ⟨w.heap.size, 1, none⟩ = some (.slice (some ⟨b, 0, none⟩) 2 n) ∧
        w'.cell? ⟨w.heap.size + 1, 0, none⟩ = some (.int .i64 (E 0)) ∧ w'.cell? ⟨w.heap.size + 1, 1, none⟩ = some (.int .i64 (E 1)) ∧ w'.cell? ⟨w.heap.size + 1, 2, none⟩ = some (.int .i64 (E 2)) ∧ w'.cell? ⟨w.heap.size + 1, 3, none⟩ = some (.int .i64 (E 3)) ∧ w'.cell? ⟨w.heap.size + 1, 4, none⟩ = some (.int .i64 (E 4)) ∧ w'.cell? ⟨w.heap.size + 1, 5, none⟩ = some (.int .i64 (E 5)) ∧
        w'.cell? ⟨b, 0, none⟩ = some (.int .u8 x1) ∧ w'.cell? ⟨b, 1, none⟩ = some (.slice p1 m1 n1) ∧ w'.cell? ⟨b, 2, none⟩ = some (.int .u8 x2) ∧ w'.cell? ⟨b, 3, none⟩ = some (.slice p2 m2 n2))
      ((go_split_ands; refine ⟨?_, ?_, ?_, ?_, ?_, ?_, ?_, ?_, ?_, ?_, ?_, ?_, ?_⟩ <;> first | assumption | exact cell_keep hq (by assumption) | exact Below.trans (by assumption) (hq.mono (by have := Below.size (by assumption : Below w.heap.size w _); omega))))
      (first | (go_at_call 44; (first | (with_reducible refine (C1.out _ ?_).mono ?_) | (with_reducible refine (C2.out _ ?_).mono ?_)); (go_split_ands; assumption); rintro e w2 ⟨rfl, hq⟩))
    go_wp2_with fail
    go_split_ands
    go_ret
    exact ⟨rfl, by assumption⟩

set_option maxRecDepth 100000 in
set_option maxHeartbeats 4000000 in
theorem holds_not (c : UInt8) (va : Bool) (E : Nat → Int) (w : World) (hc : c = 33) (b n : Nat) (x1 : Int) (p1 : Option Addr) (m1 n1 : Nat)
    (k0 : w.cell? ⟨b, 0, none⟩ = some (.int .u8 x1)) (k1 : w.cell? ⟨b, 1, none⟩ = some (.slice p1 m1 n1))
    (c1 : ∀ w', Below w.heap.size w w' → Calls Tryd.prog 46 #[.agg #[.int .u8 x1, .slice p1 m1 n1], .agg #[.int .i64 (E 0), .int .i64 (E 1), .int .i64 (E 2), .int .i64 (E 3), .int .i64 (E 4), .int .i64 (E 5)]] w' fun e w2 => e = .returned (.bool va) ∧ Below w'.heap.size w' w2) :
    Calls Tryd.prog 46 #[.agg #[.int .u8 c.toNat, .slice (some ⟨b, 0, none⟩) 1 n], .agg #[.int .i64 (E 0), .int .i64 (E 1), .int .i64 (E 2), .int .i64 (E 3), .int .i64 (E 4), .int .i64 (E 5)]] w fun e w' => e = .returned (.bool (!va)) ∧ Below w.heap.size w w' := by
  have C1 := Lib.hid c1

  have hlt := cell_lt k0
  clear c1
  subst hc
  · skip
    go_enter Tryd.func46, Tryd.ntmps46
    go_wp2_with fail
    have t0 := (heap_at_old (heap_at_new (w := w) (o := .cells #[.int .u8 33, .slice (some ⟨b, 0, none⟩) 1 n] 40) rfl) : (World.alloc _ (.cells #[.int .i64 (E 0), .int .i64 (E 1), .int .i64 (E 2), .int .i64 (E 3), .int .i64 (E 4), .int .i64 (E 5)] 51)).heap[_]? = _)
    have t1 := (heap_at_new (w := w.alloc (.cells #[.int .u8 33, .slice (some ⟨b, 0, none⟩) 1 n] 40)) (o := .cells #[.int .i64 (E 0), .int .i64 (E 1), .int .i64 (E 2), .int .i64 (E 3), .int .i64 (E 4), .int .i64 (E 5)] 51) (k := w.heap.size + 1) (by simp))
    have hB := ((Below.refl w.heap.size w).alloc (Nat.le_refl _) (.cells #[.int .u8 33, .slice (some ⟨b, 0, none⟩) 1 n] 40)).alloc (by simp) (.cells #[.int .i64 (E 0), .int .i64 (E 1), .int .i64 (E 2), .int .i64 (E 3), .int .i64 (E 4), .int .i64 (E 5)] 51)
    generalize (w.alloc (.cells #[.int .u8 33, .slice (some ⟨b, 0, none⟩) 1 n] 40)).alloc (.cells #[.int .i64 (E 0), .int .i64 (E 1), .int .i64 (E 2), .int .i64 (E 3), .int .i64 (E 4), .int .i64 (E 5)] 51) = W0 at *
    have q0 : W0.cell? ⟨w.heap.size, 0, none⟩ = some (.int .u8 33) := by rw [cell_of_row W0 _ 0 _ _ (0, 0) t0]; rfl
    have q1 : W0.cell? ⟨w.heap.size, 1, none⟩ = some (.slice (some ⟨b, 0, none⟩) 1 n) := by rw [cell_of_row W0 _ 1 _ _ (0, 0) t0]; rfl
    have q2 : W0.cell? ⟨w.heap.size + 1, 0, none⟩ = some (.int .i64 (E 0)) := by rw [cell_of_row W0 _ 0 _ _ (0, 0) t1]; rfl
    have q3 : W0.cell? ⟨w.heap.size + 1, 1, none⟩ = some (.int .i64 (E 1)) := by rw [cell_of_row W0 _ 1 _ _ (0, 0) t1]; rfl
    have q4 : W0.cell? ⟨w.heap.size + 1, 2, none⟩ = some (.int .i64 (E 2)) := by rw [cell_of_row W0 _ 2 _ _ (0, 0) t1]; rfl
    have q5 : W0.cell? ⟨w.heap.size + 1, 3, none⟩ = some (.int .i64 (E 3)) := by rw [cell_of_row W0 _ 3 _ _ (0, 0) t1]; rfl
    have q6 : W0.cell? ⟨w.heap.size + 1, 4, none⟩ = some (.int .i64 (E 4)) := by rw [cell_of_row W0 _ 4 _ _ (0, 0) t1]; rfl
    have q7 : W0.cell? ⟨w.heap.size + 1, 5, none⟩ = some (.int .i64 (E 5)) := by rw [cell_of_row W0 _ 5 _ _ (0, 0) t1]; rfl
    have j0 := cell_keep hB k0
    have j1 := cell_keep hB k1
    have hB' := hB.drew
    clear k0 k1 t0 t1
    go_region_held3 (fun w' => Below w.heap.size w w' ∧ w'.cell? ⟨w.heap.size, 0, none⟩ = some (.int .u8 33) ∧ w'.cell? ⟨w.heap.size, 1, none⟩ = some (.slice (some ⟨b, 0, none⟩) 1 n) ∧
        w'.cell? ⟨w.heap.size + 1, 0, none⟩ = some (.int .i64 (E 0)) ∧ w'.cell? ⟨w.heap.size + 1, 1, none⟩ = some (.int .i64 (E 1)) ∧ w'.cell? ⟨w.heap.size + 1, 2, none⟩ = some (.int .i64 (E 2)) ∧ w'.cell? ⟨w.heap.size + 1, 3, none⟩ = some (.int .i64 (E 3)) ∧ w'.cell? ⟨w.heap.size + 1, 4, none⟩ = some (.int .i64 (E 4)) ∧ w'.cell? ⟨w.heap.size + 1, 5, none⟩ = some (.int .i64 (E 5)) ∧
        w'.cell? ⟨b, 0, none⟩ = some (.int .u8 x1) ∧ w'.cell? ⟨b, 1, none⟩ = some (.slice p1 m1 n1))
      ((go_split_ands; refine ⟨?_, ?_, ?_, ?_, ?_, ?_, ?_, ?_, ?_, ?_, ?_⟩ <;> first | assumption | exact cell_keep hq (by assumption) | exact Below.trans (by assumption) (hq.mono (by have := Below.size (by assumption : Below w.heap.size w _); omega))))
      (first | (go_at_call 46; (with_reducible refine (C1.out _ ?_).mono ?_); (go_split_ands; assumption); rintro e w2 ⟨rfl, hq⟩))
    go_wp2_with fail
    go_split_ands
    go_ret
    exact ⟨rfl, by assumption⟩

set_option maxRecDepth 100000 in
set_option maxHeartbeats 4000000 in
theorem holds_andT (c : UInt8) (va vb : Bool) (E : Nat → Int) (w : World) (hc : c = 38) (b n : Nat) (x1 x2 : Int) (p1 p2 : Option Addr) (m1 m2 n1 n2 : Nat)
    (k0 : w.cell? ⟨b, 0, none⟩ = some (.int .u8 x1)) (k1 : w.cell? ⟨b, 1, none⟩ = some (.slice p1 m1 n1)) (k2 : w.cell? ⟨b, 2, none⟩ = some (.int .u8 x2)) (k3 : w.cell? ⟨b, 3, none⟩ = some (.slice p2 m2 n2)) (hva : va = true)
    (c1 : ∀ w', Below w.heap.size w w' → Calls Tryd.prog 46 #[.agg #[.int .u8 x1, .slice p1 m1 n1], .agg #[.int .i64 (E 0), .int .i64 (E 1), .int .i64 (E 2), .int .i64 (E 3), .int .i64 (E 4), .int .i64 (E 5)]] w' fun e w2 => e = .returned (.bool va) ∧ Below w'.heap.size w' w2)
    (c2 : ∀ w', Below w.heap.size w w' → Calls Tryd.prog 46 #[.agg #[.int .u8 x2, .slice p2 m2 n2], .agg #[.int .i64 (E 0), .int .i64 (E 1), .int .i64 (E 2), .int .i64 (E 3), .int .i64 (E 4), .int .i64 (E 5)]] w' fun e w2 => e = .returned (.bool vb) ∧ Below w'.heap.size w' w2) :
    Calls Tryd.prog 46 #[.agg #[.int .u8 c.toNat, .slice (some ⟨b, 0, none⟩) 2 n], .agg #[.int .i64 (E 0), .int .i64 (E 1), .int .i64 (E 2), .int .i64 (E 3), .int .i64 (E 4), .int .i64 (E 5)]] w fun e w' => e = .returned (.bool (vb)) ∧ Below w.heap.size w w' := by
  have C1 := Lib.hid c1
  have C2 := Lib.hid c2
  have hlt := cell_lt k0
  clear c1 c2
  subst hc
  subst hva
  · skip
    go_enter Tryd.func46, Tryd.ntmps46
    go_wp2_with fail
    have t0 := (heap_at_old (heap_at_new (w := w) (o := .cells #[.int .u8 38, .slice (some ⟨b, 0, none⟩) 2 n] 40) rfl) : (World.alloc _ (.cells #[.int .i64 (E 0), .int .i64 (E 1), .int .i64 (E 2), .int .i64 (E 3), .int .i64 (E 4), .int .i64 (E 5)] 51)).heap[_]? = _)
    have t1 := (heap_at_new (w := w.alloc (.cells #[.int .u8 38, .slice (some ⟨b, 0, none⟩) 2 n] 40)) (o := .cells #[.int .i64 (E 0), .int .i64 (E 1), .int .i64 (E 2), .int .i64 (E 3), .int .i64 (E 4), .int .i64 (E 5)] 51) (k := w.heap.size + 1) (by simp))
    have hB := ((Below.refl w.heap.size w).alloc (Nat.le_refl _) (.cells #[.int .u8 38, .slice (some ⟨b, 0, none⟩) 2 n] 40)).alloc (by simp) (.cells #[.int .i64 (E 0), .int .i64 (E 1), .int .i64 (E 2), .int .i64 (E 3), .int .i64 (E 4), .int .i64 (E 5)] 51)
    generalize (w.alloc (.cells #[.int .u8 38, .slice (some ⟨b, 0, none⟩) 2 n] 40)).alloc (.cells #[.int .i64 (E 0), .int .i64 (E 1), .int .i64 (E 2), .int .i64 (E 3), .int .i64 (E 4), .int .i64 (E 5)] 51) = W0 at *
    have q0 : W0.cell? ⟨w.heap.size, 0, none⟩ = some (.int .u8 38) := by rw [cell_of_row W0 _ 0 _ _ (0, 0) t0]; rfl
    have q1 : W0.cell? ⟨w.heap.size, 1, none⟩ = some (.slice (some ⟨b, 0, none⟩) 2 n) := by rw [cell_of_row W0 _ 1 _ _ (0, 0) t0]; rfl
    have q2 : W0.cell? ⟨w.heap.size + 1, 0, none⟩ = some (.int .i64 (E 0)) := by rw [cell_of_row W0 _ 0 _ _ (0, 0) t1]; rfl
    have q3 : W0.cell? ⟨w.heap.size + 1, 1, none⟩ = some (.int .i64 (E 1)) := by rw [cell_of_row W0 _ 1 _ _ (0, 0) t1]; rfl
    have q4 : W0.cell? ⟨w.heap.size + 1, 2, none⟩ = some (.int .i64 (E 2)) := by rw [cell_of_row W0 _ 2 _ _ (0, 0) t1]; rfl
    have q5 : W0.cell? ⟨w.heap.size + 1, 3, none⟩ = some (.int .i64 (E 3)) := by rw [cell_of_row W0 _ 3 _ _ (0, 0) t1]; rfl
    have q6 : W0.cell? ⟨w.heap.size + 1, 4, none⟩ = some (.int .i64 (E 4)) := by rw [cell_of_row W0 _ 4 _ _ (0, 0) t1]; rfl
    have q7 : W0.cell? ⟨w.heap.size + 1, 5, none⟩ = some (.int .i64 (E 5)) := by rw [cell_of_row W0 _ 5 _ _ (0, 0) t1]; rfl
    have j0 := cell_keep hB k0
    have j1 := cell_keep hB k1
    have j2 := cell_keep hB k2
    have j3 := cell_keep hB k3
    have hB' := hB.drew
    clear k0 k1 k2 k3 t0 t1
    go_region_held3 (fun w' => Below w.heap.size w w' ∧ w'.cell? ⟨w.heap.size, 0, none⟩ = some (.int .u8 38) ∧ w'.cell? ⟨w.heap.size, 1, none⟩ = some (.slice (some ⟨b, 0, none⟩) 2 n) ∧
        w'.cell? ⟨w.heap.size + 1, 0, none⟩ = some (.int .i64 (E 0)) ∧ w'.cell? ⟨w.heap.size + 1, 1, none⟩ = some (.int .i64 (E 1)) ∧ w'.cell? ⟨w.heap.size + 1, 2, none⟩ = some (.int .i64 (E 2)) ∧ w'.cell? ⟨w.heap.size + 1, 3, none⟩ = some (.int .i64 (E 3)) ∧ w'.cell? ⟨w.heap.size + 1, 4, none⟩ = some (.int .i64 (E 4)) ∧ w'.cell? ⟨w.heap.size + 1, 5, none⟩ = some (.int .i64 (E 5)) ∧
        w'.cell? ⟨b, 0, none⟩ = some (.int .u8 x1) ∧ w'.cell? ⟨b, 1, none⟩ = some (.slice p1 m1 n1) ∧ w'.cell? ⟨b, 2, none⟩ = some (.int .u8 x2) ∧ w'.cell? ⟨b, 3, none⟩ = some (.slice p2 m2 n2))
      ((go_split_ands; refine ⟨?_, ?_, ?_, ?_, ?_, ?_, ?_, ?_, ?_, ?_, ?_, ?_, ?_⟩ <;> first | assumption | exact cell_keep hq (by assumption) | exact Below.trans (by assumption) (hq.mono (by have := Below.size (by assumption : Below w.heap.size w _); omega))))
      (first | (go_at_call 46; (first | (with_reducible refine (C1.out _ ?_).mono ?_) | (with_reducible refine (C2.out _ ?_).mono ?_)); (go_split_ands; assumption); rintro e w2 ⟨rfl, hq⟩))
    go_wp2_with fail
    go_split_ands
    go_ret
    exact ⟨rfl, by assumption⟩

set_option maxRecDepth 100000 in
set_option maxHeartbeats 4000000 in
theorem holds_orF (c : UInt8) (va vb : Bool) (E : Nat → Int) (w : World) (hc : c = 124) (b n : Nat) (x1 x2 : Int) (p1 p2 : Option Addr) (m1 m2 n1 n2 : Nat)
    (k0 : w.cell? ⟨b, 0, none⟩ = some (.int .u8 x1)) (k1 : w.cell? ⟨b, 1, none⟩ = some (.slice p1 m1 n1)) (k2 : w.cell? ⟨b, 2, none⟩ = some (.int .u8 x2)) (k3 : w.cell? ⟨b, 3, none⟩ = some (.slice p2 m2 n2)) (hva : va = false)
    (c1 : ∀ w', Below w.heap.size w w' → Calls Tryd.prog 46 #[.agg #[.int .u8 x1, .slice p1 m1 n1], .agg #[.int .i64 (E 0), .int .i64 (E 1), .int .i64 (E 2), .int .i64 (E 3), .int .i64 (E 4), .int .i64 (E 5)]] w' fun e w2 => e = .returned (.bool va) ∧ Below w'.heap.size w' w2)
    (c2 : ∀ w', Below w.heap.size w w' → Calls Tryd.prog 46 #[.agg #[.int .u8 x2, .slice p2 m2 n2], .agg #[.int .i64 (E 0), .int .i64 (E 1), .int .i64 (E 2), .int .i64 (E 3), .int .i64 (E 4), .int .i64 (E 5)]] w' fun e w2 => e = .returned (.bool vb) ∧ Below w'.heap.size w' w2) :
    Calls Tryd.prog 46 #[.agg #[.int .u8 c.toNat, .slice (some ⟨b, 0, none⟩) 2 n], .agg #[.int .i64 (E 0), .int .i64 (E 1), .int .i64 (E 2), .int .i64 (E 3), .int .i64 (E 4), .int .i64 (E 5)]] w fun e w' => e = .returned (.bool (vb)) ∧ Below w.heap.size w w' := by
  have C1 := Lib.hid c1
  have C2 := Lib.hid c2
  have hlt := cell_lt k0
  clear c1 c2
  subst hc
  subst hva
  · skip
    go_enter Tryd.func46, Tryd.ntmps46
    go_wp2_with fail
    have t0 := (heap_at_old (heap_at_new (w := w) (o := .cells #[.int .u8 124, .slice (some ⟨b, 0, none⟩) 2 n] 40) rfl) : (World.alloc _ (.cells #[.int .i64 (E 0), .int .i64 (E 1), .int .i64 (E 2), .int .i64 (E 3), .int .i64 (E 4), .int .i64 (E 5)] 51)).heap[_]? = _)
    have t1 := (heap_at_new (w := w.alloc (.cells #[.int .u8 124, .slice (some ⟨b, 0, none⟩) 2 n] 40)) (o := .cells #[.int .i64 (E 0), .int .i64 (E 1), .int .i64 (E 2), .int .i64 (E 3), .int .i64 (E 4), .int .i64 (E 5)] 51) (k := w.heap.size + 1) (by simp))
    have hB := ((Below.refl w.heap.size w).alloc (Nat.le_refl _) (.cells #[.int .u8 124, .slice (some ⟨b, 0, none⟩) 2 n] 40)).alloc (by simp) (.cells #[.int .i64 (E 0), .int .i64 (E 1), .int .i64 (E 2), .int .i64 (E 3), .int .i64 (E 4), .int .i64 (E 5)] 51)
    generalize (w.alloc (.cells #[.int .u8 124, .slice (some ⟨b, 0, none⟩) 2 n] 40)).alloc (.cells #[.int .i64 (E 0), .int .i64 (E 1), .int .i64 (E 2), .int .i64 (E 3), .int .i64 (E 4), .int .i64 (E 5)] 51) = W0 at *
    have q0 : W0.cell? ⟨w.heap.size, 0, none⟩ = some (.int .u8 124) := by rw [cell_of_row W0 _ 0 _ _ (0, 0) t0]; rfl
    have q1 : W0.cell? ⟨w.heap.size, 1, none⟩ = some (.slice (some ⟨b, 0, none⟩) 2 n) := by rw [cell_of_row W0 _ 1 _ _ (0, 0) t0]; rfl
    have q2 : W0.cell? ⟨w.heap.size + 1, 0, none⟩ = some (.int .i64 (E 0)) := by rw [cell_of_row W0 _ 0 _ _ (0, 0) t1]; rfl
    have q3 : W0.cell? ⟨w.heap.size + 1, 1, none⟩ = some (.int .i64 (E 1)) := by rw [cell_of_row W0 _ 1 _ _ (0, 0) t1]; rfl
    have q4 : W0.cell? ⟨w.heap.size + 1, 2, none⟩ = some (.int .i64 (E 2)) := by rw [cell_of_row W0 _ 2 _ _ (0, 0) t1]; rfl
    have q5 : W0.cell? ⟨w.heap.size + 1, 3, none⟩ = some (.int .i64 (E 3)) := by rw [cell_of_row W0 _ 3 _ _ (0, 0) t1]; rfl
    have q6 : W0.cell? ⟨w.heap.size + 1, 4, none⟩ = some (.int .i64 (E 4)) := by rw [cell_of_row W0 _ 4 _ _ (0, 0) t1]; rfl
    have q7 : W0.cell? ⟨w.heap.size + 1, 5, none⟩ = some (.int .i64 (E 5)) := by rw [cell_of_row W0 _ 5 _ _ (0, 0) t1]; rfl
    have j0 := cell_keep hB k0
    have j1 := cell_keep hB k1
    have j2 := cell_keep hB k2
    have j3 := cell_keep hB k3
    have hB' := hB.drew
    clear k0 k1 k2 k3 t0 t1
    go_region_held3 (fun w' => Below w.heap.size w w' ∧ w'.cell? ⟨w.heap.size, 0, none⟩ = some (.int .u8 124) ∧ w'.cell? ⟨w.heap.size, 1, none⟩ = some (.slice (some ⟨b, 0, none⟩) 2 n) ∧
        w'.cell? ⟨w.heap.size + 1, 0, none⟩ = some (.int .i64 (E 0)) ∧ w'.cell? ⟨w.heap.size + 1, 1, none⟩ = some (.int .i64 (E 1)) ∧ w'.cell? ⟨w.heap.size + 1, 2, none⟩ = some (.int .i64 (E 2)) ∧ w'.cell? ⟨w.heap.size + 1, 3, none⟩ = some (.int .i64 (E 3)) ∧ w'.cell? ⟨w.heap.size + 1, 4, none⟩ = some (.int .i64 (E 4)) ∧ w'.cell? ⟨w.heap.size + 1, 5, none⟩ = some (.int .i64 (E 5)) ∧
        w'.cell? ⟨b, 0, none⟩ = some (.int .u8 x1) ∧ w'.cell? ⟨b, 1, none⟩ = some (.slice p1 m1 n1) ∧ w'.cell? ⟨b, 2, none⟩ = some (.int .u8 x2) ∧ w'.cell? ⟨b, 3, none⟩ = some (.slice p2 m2 n2))
      ((go_split_ands; refine ⟨?_, ?_, ?_, ?_, ?_, ?_, ?_, ?_, ?_, ?_, ?_, ?_, ?_⟩ <;> first | assumption | exact cell_keep hq (by assumption) | exact Below.trans (by assumption) (hq.mono (by have := Below.size (by assumption : Below w.heap.size w _); omega))))
      (first | (go_at_call 46; (first | (with_reducible refine (C1.out _ ?_).mono ?_) | (with_reducible refine (C2.out _ ?_).mono ?_)); (go_split_ands; assumption); rintro e w2 ⟨rfl, hq⟩))
    go_wp2_with fail
    go_split_ands
    go_ret
    exact ⟨rfl, by assumption⟩
set_option maxRecDepth 100000 in
set_option maxHeartbeats 4000000 in
theorem holds_andF (c : UInt8) (va : Bool) (E : Nat → Int) (w : World) (hc : c = 38) (b n : Nat) (x1 x2 : Int) (p1 p2 : Option Addr) (m1 m2 n1 n2 : Nat)
    (k0 : w.cell? ⟨b, 0, none⟩ = some (.int .u8 x1)) (k1 : w.cell? ⟨b, 1, none⟩ = some (.slice p1 m1 n1)) (k2 : w.cell? ⟨b, 2, none⟩ = some (.int .u8 x2)) (k3 : w.cell? ⟨b, 3, none⟩ = some (.slice p2 m2 n2)) (hva : va = false)
    (c1 : ∀ w', Below w.heap.size w w' → Calls Tryd.prog 46 #[.agg #[.int .u8 x1, .slice p1 m1 n1], .agg #[.int .i64 (E 0), .int .i64 (E 1), .int .i64 (E 2), .int .i64 (E 3), .int .i64 (E 4), .int .i64 (E 5)]] w' fun e w2 => e = .returned (.bool va) ∧ Below w'.heap.size w' w2) :
    Calls Tryd.prog 46 #[.agg #[.int .u8 c.toNat, .slice (some ⟨b, 0, none⟩) 2 n], .agg #[.int .i64 (E 0), .int .i64 (E 1), .int .i64 (E 2), .int .i64 (E 3), .int .i64 (E 4), .int .i64 (E 5)]] w fun e w' => e = .returned (.bool false) ∧ Below w.heap.size w w' := by
  have C1 := Lib.hid c1
  have hlt := cell_lt k0
  clear c1
  subst hc
  subst hva
  · skip
    go_enter Tryd.func46, Tryd.ntmps46
    go_wp2_with fail
    have t0 := (heap_at_old (heap_at_new (w := w) (o := .cells #[.int .u8 38, .slice (some ⟨b, 0, none⟩) 2 n] 40) rfl) : (World.alloc _ (.cells #[.int .i64 (E 0), .int .i64 (E 1), .int .i64 (E 2), .int .i64 (E 3), .int .i64 (E 4), .int .i64 (E 5)] 51)).heap[_]? = _)
    have t1 := (heap_at_new (w := w.alloc (.cells #[.int .u8 38, .slice (some ⟨b, 0, none⟩) 2 n] 40)) (o := .cells #[.int .i64 (E 0), .int .i64 (E 1), .int .i64 (E 2), .int .i64 (E 3), .int .i64 (E 4), .int .i64 (E 5)] 51) (k := w.heap.size + 1) (by simp))
    have hB := ((Below.refl w.heap.size w).alloc (Nat.le_refl _) (.cells #[.int .u8 38, .slice (some ⟨b, 0, none⟩) 2 n] 40)).alloc (by simp) (.cells #[.int .i64 (E 0), .int .i64 (E 1), .int .i64 (E 2), .int .i64 (E 3), .int .i64 (E 4), .int .i64 (E 5)] 51)
    generalize (w.alloc (.cells #[.int .u8 38, .slice (some ⟨b, 0, none⟩) 2 n] 40)).alloc (.cells #[.int .i64 (E 0), .int .i64 (E 1), .int .i64 (E 2), .int .i64 (E 3), .int .i64 (E 4), .int .i64 (E 5)] 51) = W0 at *
    have q0 : W0.cell? ⟨w.heap.size, 0, none⟩ = some (.int .u8 38) := by rw [cell_of_row W0 _ 0 _ _ (0, 0) t0]; rfl
    have q1 : W0.cell? ⟨w.heap.size, 1, none⟩ = some (.slice (some ⟨b, 0, none⟩) 2 n) := by rw [cell_of_row W0 _ 1 _ _ (0, 0) t0]; rfl
    have q2 : W0.cell? ⟨w.heap.size + 1, 0, none⟩ = some (.int .i64 (E 0)) := by rw [cell_of_row W0 _ 0 _ _ (0, 0) t1]; rfl
    have q3 : W0.cell? ⟨w.heap.size + 1, 1, none⟩ = some (.int .i64 (E 1)) := by rw [cell_of_row W0 _ 1 _ _ (0, 0) t1]; rfl
    have q4 : W0.cell? ⟨w.heap.size + 1, 2, none⟩ = some (.int .i64 (E 2)) := by rw [cell_of_row W0 _ 2 _ _ (0, 0) t1]; rfl
    have q5 : W0.cell? ⟨w.heap.size + 1, 3, none⟩ = some (.int .i64 (E 3)) := by rw [cell_of_row W0 _ 3 _ _ (0, 0) t1]; rfl
    have q6 : W0.cell? ⟨w.heap.size + 1, 4, none⟩ = some (.int .i64 (E 4)) := by rw [cell_of_row W0 _ 4 _ _ (0, 0) t1]; rfl
    have q7 : W0.cell? ⟨w.heap.size + 1, 5, none⟩ = some (.int .i64 (E 5)) := by rw [cell_of_row W0 _ 5 _ _ (0, 0) t1]; rfl
    have j0 := cell_keep hB k0
    have j1 := cell_keep hB k1
    have j2 := cell_keep hB k2
    have j3 := cell_keep hB k3
    have hB' := hB.drew
    clear k0 k1 k2 k3 t0 t1
    first
      | (go_region_with ((go_at_call 46; (refine (C1.out _ ?_).mono ?_); (exact hB'); (rintro e w2 ⟨rfl, hq⟩))))
      | fail
    all_goals
      go_wp2_with fail
      go_ret
      exact ⟨rfl, hB'.trans (hq.mono hB'.size)⟩

set_option maxRecDepth 100000 in
set_option maxHeartbeats 4000000 in
theorem holds_orT (c : UInt8) (va : Bool) (E : Nat → Int) (w : World) (hc : c = 124) (b n : Nat) (x1 x2 : Int) (p1 p2 : Option Addr) (m1 m2 n1 n2 : Nat)
    (k0 : w.cell? ⟨b, 0, none⟩ = some (.int .u8 x1)) (k1 : w.cell? ⟨b, 1, none⟩ = some (.slice p1 m1 n1)) (k2 : w.cell? ⟨b, 2, none⟩ = some (.int .u8 x2)) (k3 : w.cell? ⟨b, 3, none⟩ = some (.slice p2 m2 n2)) (hva : va = true)
    (c1 : ∀ w', Below w.heap.size w w' → Calls Tryd.prog 46 #[.agg #[.int .u8 x1, .slice p1 m1 n1], .agg #[.int .i64 (E 0), .int .i64 (E 1), .int .i64 (E 2), .int .i64 (E 3), .int .i64 (E 4), .int .i64 (E 5)]] w' fun e w2 => e = .returned (.bool va) ∧ Below w'.heap.size w' w2) :
    Calls Tryd.prog 46 #[.agg #[.int .u8 c.toNat, .slice (some ⟨b, 0, none⟩) 2 n], .agg #[.int .i64 (E 0), .int .i64 (E 1), .int .i64 (E 2), .int .i64 (E 3), .int .i64 (E 4), .int .i64 (E 5)]] w fun e w' => e = .returned (.bool true) ∧ Below w.heap.size w w' := by
  have C1 := Lib.hid c1
  have hlt := cell_lt k0
  clear c1
  subst hc
  subst hva
  · skip
    go_enter Tryd.func46, Tryd.ntmps46
    go_wp2_with fail
    have t0 := (heap_at_old (heap_at_new (w := w) (o := .cells #[.int .u8 124, .slice (some ⟨b, 0, none⟩) 2 n] 40) rfl) : (World.alloc _ (.cells #[.int .i64 (E 0), .int .i64 (E 1), .int .i64 (E 2), .int .i64 (E 3), .int .i64 (E 4), .int .i64 (E 5)] 51)).heap[_]? = _)
    have t1 := (heap_at_new (w := w.alloc (.cells #[.int .u8 124, .slice (some ⟨b, 0, none⟩) 2 n] 40)) (o := .cells #[.int .i64 (E 0), .int .i64 (E 1), .int .i64 (E 2), .int .i64 (E 3), .int .i64 (E 4), .int .i64 (E 5)] 51) (k := w.heap.size + 1) (by simp))
    have hB := ((Below.refl w.heap.size w).alloc (Nat.le_refl _) (.cells #[.int .u8 124, .slice (some ⟨b, 0, none⟩) 2 n] 40)).alloc (by simp) (.cells #[.int .i64 (E 0), .int .i64 (E 1), .int .i64 (E 2), .int .i64 (E 3), .int .i64 (E 4), .int .i64 (E 5)] 51)
    generalize (w.alloc (.cells #[.int .u8 124, .slice (some ⟨b, 0, none⟩) 2 n] 40)).alloc (.cells #[.int .i64 (E 0), .int .i64 (E 1), .int .i64 (E 2), .int .i64 (E 3), .int .i64 (E 4), .int .i64 (E 5)] 51) = W0 at *
    have q0 : W0.cell? ⟨w.heap.size, 0, none⟩ = some (.int .u8 124) := by rw [cell_of_row W0 _ 0 _ _ (0, 0) t0]; rfl
    have q1 : W0.cell? ⟨w.heap.size, 1, none⟩ = some (.slice (some ⟨b, 0, none⟩) 2 n) := by rw [cell_of_row W0 _ 1 _ _ (0, 0) t0]; rfl
    have q2 : W0.cell? ⟨w.heap.size + 1, 0, none⟩ = some (.int .i64 (E 0)) := by rw [cell_of_row W0 _ 0 _ _ (0, 0) t1]; rfl
    have q3 : W0.cell? ⟨w.heap.size + 1, 1, none⟩ = some (.int .i64 (E 1)) := by rw [cell_of_row W0 _ 1 _ _ (0, 0) t1]; rfl
    have q4 : W0.cell? ⟨w.heap.size + 1, 2, none⟩ = some (.int .i64 (E 2)) := by rw [cell_of_row W0 _ 2 _ _ (0, 0) t1]; rfl
    have q5 : W0.cell? ⟨w.heap.size + 1, 3, none⟩ = some (.int .i64 (E 3)) := by rw [cell_of_row W0 _ 3 _ _ (0, 0) t1]; rfl
    have q6 : W0.cell? ⟨w.heap.size + 1, 4, none⟩ = some (.int .i64 (E 4)) := by rw [cell_of_row W0 _ 4 _ _ (0, 0) t1]; rfl
    have q7 : W0.cell? ⟨w.heap.size + 1, 5, none⟩ = some (.int .i64 (E 5)) := by rw [cell_of_row W0 _ 5 _ _ (0, 0) t1]; rfl
    have j0 := cell_keep hB k0
    have j1 := cell_keep hB k1
    have j2 := cell_keep hB k2
    have j3 := cell_keep hB k3
    have hB' := hB.drew
    clear k0 k1 k2 k3 t0 t1
    first
      | (go_region_with ((go_at_call 46; (refine (C1.out _ ?_).mono ?_); (exact hB'); (rintro e w2 ⟨rfl, hq⟩))))
      | fail
    all_goals
      go_wp2_with fail
      go_ret
      exact ⟨rfl, hB'.trans (hq.mono hB'.size)⟩

end Go.Proofs.YtpdepihggpfmiaaDoor
