import Derived.Test.YtgkoljphndgoeaaGreatDoorTopU
import Derived.Test.YtgkoljphndgoeaaGreatDoorTopB
namespace Go.Proofs.YtgkoljphndgoeaaGreatDoor
open Go.RowKit Tm
def tru (e : Nat → Int) : Tm → Bool
 | .leaf c => c == 116
 | .un _ a => !tru e a
 | .bin c a b => if c = 61 then val e a == val e b else if c = 60 then decide (val e a < val e b) else if c = 38 then tru e a && tru e b else tru e a || tru e b
theorem ok_test {wide : Bool} {t : Tm} (h : Ok wide true t) : (∃ c, t = .leaf c ∧ (c = 116 ∨ c = 102)) ∨ (∃ a, t = .un 33 a ∧ Ok wide true a) ∨
  (∃ c a b, t = .bin c a b ∧ (c = 61 ∨ c = 60) ∧ Ok wide false a ∧ Ok wide false b) ∨ (∃ c a b, t = .bin c a b ∧ (c = 38 ∨ c = 124) ∧ Ok wide true a ∧ Ok wide true b) := by
 have toU : ∀ {c : UInt8} {n : Nat}, c.toNat = n → n < 256 → c = UInt8.ofNat n := fun h hn => u8_of_nat h hn
 cases t with
 | leaf c =>
  rcases opk_t h with ⟨_, h2⟩ | ⟨h1, _⟩ | ⟨h1, _⟩ | ⟨h1, _⟩
  ·exact .inl ⟨c, rfl, h2.elim (fun h => .inl (toU h (by decide))) (fun h => .inr (toU h (by decide)))⟩
  ·cases h1
  ·cases h1
  ·cases h1
 | un c a =>
  obtain ⟨k1, h, ha⟩ := h
  rcases opk_t h with ⟨h1, _⟩ | ⟨h1, _⟩ | ⟨h1, h2⟩ | ⟨h1, _⟩
  ·cases h1
  ·cases h1
  ·cases h1
   obtain rfl := toU h2 (by decide)
   exact .inr (.inl ⟨a, rfl, ha⟩)
  ·cases h1
 | bin c a b =>
  obtain ⟨k1, k2, h, ha, hb⟩ := h
  rcases opk_t h with ⟨h1, _⟩ | ⟨h1, h2⟩ | ⟨h1, _⟩ | ⟨h1, h2⟩
  ·cases h1
  ·cases h1
   exact .inr (.inr (.inl ⟨c, a, b, rfl, h2.elim (fun h => .inl (toU h (by decide))) (fun h => .inr (toU h (by decide))), ha, hb⟩))
  ·cases h1
  ·cases h1
   exact .inr (.inr (.inr ⟨c, a, b, rfl, h2.elim (fun h => .inl (toU h (by decide))) (fun h => .inr (toU h (by decide))), ha, hb⟩))
set_option maxHeartbeats 1000000 in
theorem holds_leaf (c : UInt8) (E : Nat → Int) (w : World) (hc : c = 116 ∨ c = 102) (a : Option Addr) (n : Nat) :
  Calls Tryz.prog 220 #[.agg #[.int .u8 c.toNat, .slice a 0 n], .agg #[.int .i64 (E 0), .int .i64 (E 1), .int .i64 (E 2), .int .i64 (E 3), .int .i64 (E 4), .int .i64 (E 5)]] w fun e w' => e = .returned (.bool (c == 116)) ∧ Below w.heap.size w w' := by
 rcases hc with rfl | rfl
 all_goals
  go_enter Tryz.func220, Tryz.ntmps220
  go_wp2_with fail
  go_ret
  exact ⟨rfl, ((Below.refl _ _).alloc (Nat.le_refl _) _).alloc (by simp) _⟩
set_option maxRecDepth 100000 in
set_option maxHeartbeats 4000000 in
theorem holds_cmp (c : UInt8) (va vb : Int) (E : Nat → Int) (w : World) (hc : c = 61 ∨ c = 60) (b n : Nat) (x1 x2 : Int) (p1 p2 : Option Addr) (m1 m2 n1 n2 : Nat)
  (k0 : w.cell? ⟨b, 0, none⟩ = some (.int .u8 x1)) (k1 : w.cell? ⟨b, 1, none⟩ = some (.slice p1 m1 n1)) (k2 : w.cell? ⟨b, 2, none⟩ = some (.int .u8 x2)) (k3 : w.cell? ⟨b, 3, none⟩ = some (.slice p2 m2 n2))
  (c1 : ∀ w', Below w.heap.size w w' → Calls Tryz.prog 247 #[.agg #[.int .u8 x1, .slice p1 m1 n1], .agg #[.int .i64 (E 0), .int .i64 (E 1), .int .i64 (E 2), .int .i64 (E 3), .int .i64 (E 4), .int .i64 (E 5)]] w' fun e w2 => e = .returned (.int .i64 va) ∧ Below w'.heap.size w' w2)
  (c2 : ∀ w', Below w.heap.size w w' → Calls Tryz.prog 247 #[.agg #[.int .u8 x2, .slice p2 m2 n2], .agg #[.int .i64 (E 0), .int .i64 (E 1), .int .i64 (E 2), .int .i64 (E 3), .int .i64 (E 4), .int .i64 (E 5)]] w' fun e w2 => e = .returned (.int .i64 vb) ∧ Below w'.heap.size w' w2) :
  Calls Tryz.prog 220 #[.agg #[.int .u8 c.toNat, .slice (some ⟨b, 0, none⟩) 2 n], .agg #[.int .i64 (E 0), .int .i64 (E 1), .int .i64 (E 2), .int .i64 (E 3), .int .i64 (E 4), .int .i64 (E 5)]] w fun e w' => e = .returned (.bool (if c = 61 then va == vb else decide (va < vb))) ∧ Below w.heap.size w w' := by
 have C1 := Lib.hid c1
 have C2 := Lib.hid c2
 have hlt := cell_lt k0
 clear c1 c2
 rcases hc with rfl | rfl
 ·skip
  go_enter Tryz.func220, Tryz.ntmps220
  go_wp2_with fail
  have t0 := (heap_at_old (heap_at_new (w := w) (o := .cells #[.int .u8 61, .slice (some ⟨b, 0, none⟩) 2 n] 110) rfl) : (World.alloc _ (.cells #[.int .i64 (E 0), .int .i64 (E 1), .int .i64 (E 2), .int .i64 (E 3), .int .i64 (E 4), .int .i64 (E 5)] 242)).heap[_]? = _)
  have t1 := (heap_at_new (w := w.alloc (.cells #[.int .u8 61, .slice (some ⟨b, 0, none⟩) 2 n] 110)) (o := .cells #[.int .i64 (E 0), .int .i64 (E 1), .int .i64 (E 2), .int .i64 (E 3), .int .i64 (E 4), .int .i64 (E 5)] 242) (k := w.heap.size + 1) (by simp))
  have hB := ((Below.refl w.heap.size w).alloc (Nat.le_refl _) (.cells #[.int .u8 61, .slice (some ⟨b, 0, none⟩) 2 n] 110)).alloc (by simp) (.cells #[.int .i64 (E 0), .int .i64 (E 1), .int .i64 (E 2), .int .i64 (E 3), .int .i64 (E 4), .int .i64 (E 5)] 242)
  generalize (w.alloc (.cells #[.int .u8 61, .slice (some ⟨b, 0, none⟩) 2 n] 110)).alloc (.cells #[.int .i64 (E 0), .int .i64 (E 1), .int .i64 (E 2), .int .i64 (E 3), .int .i64 (E 4), .int .i64 (E 5)] 242) = W0 at *
  have q0 : W0.cell? ⟨w.heap.size, 0, none⟩ = some (.int .u8 61) := by rw [cell_of_row W0 _ 0 _ _ (0, 0) t0]; rfl
  have q1 : W0.cell? ⟨w.heap.size, 1, none⟩ = some (.slice (some ⟨b, 0, none⟩) 2 n) := by rw [cell_of_row W0 _ 1 _ _ (0, 0) t0]; rfl
  have q2 : W0.cell? ⟨w.heap.size + 1, 0, none⟩ = some (.int .i64 (E 0)) := by rw [cell_of_row W0 _ 0 _ _ (0, 0) t1]; rfl
  have q3 : W0.cell? ⟨w.heap.size + 1, 1, none⟩ = some (.int .i64 (E 1)) := by rw [cell_of_row W0 _ 1 _ _ (0, 0) t1]; rfl
  have q4 : W0.cell? ⟨w.heap.size + 1, 2, none⟩ = some (.int .i64 (E 2)) := by rw [cell_of_row W0 _ 2 _ _ (0, 0) t1]; rfl
  have q5 : W0.cell? ⟨w.heap.size + 1, 3, none⟩ = some (.int .i64 (E 3)) := by rw [cell_of_row W0 _ 3 _ _ (0, 0) t1]; rfl
  have q6 : W0.cell? ⟨w.heap.size + 1, 4, none⟩ = some (.int .i64 (E 4)) := by rw [cell_of_row W0 _ 4 _ _ (0, 0) t1]; rfl
  have q7 : W0.cell? ⟨w.heap.size + 1, 5, none⟩ = some (.int .i64 (E 5)) := by rw [cell_of_row W0 _ 5 _ _ (0, 0) t1]; rfl
  have j0 := cell_keep hB k0
  have j1 := cell_keep hB k1
  have j2 := cell_keep hB k2
  have j3 := cell_keep hB k3
  have hB' := hB.drew
  clear k0 k1 k2 k3 t0 t1
  go_region_held3 (fun w' => Below w.heap.size w w' ∧ w'.cell? ⟨w.heap.size, 0, none⟩ = some (.int .u8 61) ∧ w'.cell? ⟨w.heap.size, 1, none⟩ = some (.slice (some ⟨b, 0, none⟩) 2 n) ∧
    w'.cell? ⟨w.heap.size + 1, 0, none⟩ = some (.int .i64 (E 0)) ∧ w'.cell? ⟨w.heap.size + 1, 1, none⟩ = some (.int .i64 (E 1)) ∧ w'.cell? ⟨w.heap.size + 1, 2, none⟩ = some (.int .i64 (E 2)) ∧ w'.cell? ⟨w.heap.size + 1, 3, none⟩ = some (.int .i64 (E 3)) ∧ w'.cell? ⟨w.heap.size + 1, 4, none⟩ = some (.int .i64 (E 4)) ∧ w'.cell? ⟨w.heap.size + 1, 5, none⟩ = some (.int .i64 (E 5)) ∧
    w'.cell? ⟨b, 0, none⟩ = some (.int .u8 x1) ∧ w'.cell? ⟨b, 1, none⟩ = some (.slice p1 m1 n1) ∧ w'.cell? ⟨b, 2, none⟩ = some (.int .u8 x2) ∧ w'.cell? ⟨b, 3, none⟩ = some (.slice p2 m2 n2))
   ((go_split_ands; refine ⟨?_, ?_, ?_, ?_, ?_, ?_, ?_, ?_, ?_, ?_, ?_, ?_, ?_⟩ <;> first | assumption | exact cell_keep hq (by assumption) | exact Below.trans (by assumption) (hq.mono (by have := Below.size (by assumption : Below w.heap.size w _); omega))))
   (first | (go_at_call 247; (first | (with_reducible refine (C1.out _ ?_).mono ?_) | (with_reducible refine (C2.out _ ?_).mono ?_)); (go_split_ands; assumption); rintro e w2 ⟨rfl, hq⟩))
  go_wp2_with fail
  go_split_ands
  go_ret
  exact ⟨rfl, by assumption⟩
 ·skip
  go_enter Tryz.func220, Tryz.ntmps220
  go_wp2_with fail
  have t0 := (heap_at_old (heap_at_new (w := w) (o := .cells #[.int .u8 60, .slice (some ⟨b, 0, none⟩) 2 n] 110) rfl) : (World.alloc _ (.cells #[.int .i64 (E 0), .int .i64 (E 1), .int .i64 (E 2), .int .i64 (E 3), .int .i64 (E 4), .int .i64 (E 5)] 242)).heap[_]? = _)
  have t1 := (heap_at_new (w := w.alloc (.cells #[.int .u8 60, .slice (some ⟨b, 0, none⟩) 2 n] 110)) (o := .cells #[.int .i64 (E 0), .int .i64 (E 1), .int .i64 (E 2), .int .i64 (E 3), .int .i64 (E 4), .int .i64 (E 5)] 242) (k := w.heap.size + 1) (by simp))
  have hB := ((Below.refl w.heap.size w).alloc (Nat.le_refl _) (.cells #[.int .u8 60, .slice (some ⟨b, 0, none⟩) 2 n] 110)).alloc (by simp) (.cells #[.int .i64 (E 0), .int .i64 (E 1), .int .i64 (E 2), .int .i64 (E 3), .int .i64 (E 4), .int .i64 (E 5)] 242)
  generalize (w.alloc (.cells #[.int .u8 60, .slice (some ⟨b, 0, none⟩) 2 n] 110)).alloc (.cells #[.int .i64 (E 0), .int .i64 (E 1), .int .i64 (E 2), .int .i64 (E 3), .int .i64 (E 4), .int .i64 (E 5)] 242) = W0 at *
  have q0 : W0.cell? ⟨w.heap.size, 0, none⟩ = some (.int .u8 60) := by rw [cell_of_row W0 _ 0 _ _ (0, 0) t0]; rfl
  have q1 : W0.cell? ⟨w.heap.size, 1, none⟩ = some (.slice (some ⟨b, 0, none⟩) 2 n) := by rw [cell_of_row W0 _ 1 _ _ (0, 0) t0]; rfl
  have q2 : W0.cell? ⟨w.heap.size + 1, 0, none⟩ = some (.int .i64 (E 0)) := by rw [cell_of_row W0 _ 0 _ _ (0, 0) t1]; rfl
  have q3 : W0.cell? ⟨w.heap.size + 1, 1, none⟩ = some (.int .i64 (E 1)) := by rw [cell_of_row W0 _ 1 _ _ (0, 0) t1]; rfl
  have q4 : W0.cell? ⟨w.heap.size + 1, 2, none⟩ = some (.int .i64 (E 2)) := by rw [cell_of_row W0 _ 2 _ _ (0, 0) t1]; rfl
  have q5 : W0.cell? ⟨w.heap.size + 1, 3, none⟩ = some (.int .i64 (E 3)) := by rw [cell_of_row W0 _ 3 _ _ (0, 0) t1]; rfl
  have q6 : W0.cell? ⟨w.heap.size + 1, 4, none⟩ = some (.int .i64 (E 4)) := by rw [cell_of_row W0 _ 4 _ _ (0, 0) t1]; rfl
  have q7 : W0.cell? ⟨w.heap.size + 1, 5, none⟩ = some (.int .i64 (E 5)) := by rw [cell_of_row W0 _ 5 _ _ (0, 0) t1]; rfl
  have j0 := cell_keep hB k0
  have j1 := cell_keep hB k1
  have j2 := cell_keep hB k2
  have j3 := cell_keep hB k3
  have hB' := hB.drew
  clear k0 k1 k2 k3 t0 t1
  go_region_held3 (fun w' => Below w.heap.size w w' ∧ w'.cell? ⟨w.heap.size, 0, none⟩ = some (.int .u8 60) ∧ w'.cell? ⟨w.heap.size, 1, none⟩ = some (.slice (some ⟨b, 0, none⟩) 2 n) ∧
    w'.cell? ⟨w.heap.size + 1, 0, none⟩ = some (.int .i64 (E 0)) ∧ w'.cell? ⟨w.heap.size + 1, 1, none⟩ = some (.int .i64 (E 1)) ∧ w'.cell? ⟨w.heap.size + 1, 2, none⟩ = some (.int .i64 (E 2)) ∧ w'.cell? ⟨w.heap.size + 1, 3, none⟩ = some (.int .i64 (E 3)) ∧ w'.cell? ⟨w.heap.size + 1, 4, none⟩ = some (.int .i64 (E 4)) ∧ w'.cell? ⟨w.heap.size + 1, 5, none⟩ = some (.int .i64 (E 5)) ∧
    w'.cell? ⟨b, 0, none⟩ = some (.int .u8 x1) ∧ w'.cell? ⟨b, 1, none⟩ = some (.slice p1 m1 n1) ∧ w'.cell? ⟨b, 2, none⟩ = some (.int .u8 x2) ∧ w'.cell? ⟨b, 3, none⟩ = some (.slice p2 m2 n2))
   ((go_split_ands; refine ⟨?_, ?_, ?_, ?_, ?_, ?_, ?_, ?_, ?_, ?_, ?_, ?_, ?_⟩ <;> first | assumption | exact cell_keep hq (by assumption) | exact Below.trans (by assumption) (hq.mono (by have := Below.size (by assumption : Below w.heap.size w _); omega))))
   (first | (go_at_call 247; (first | (with_reducible refine (C1.out _ ?_).mono ?_) | (with_reducible refine (C2.out _ ?_).mono ?_)); (go_split_ands; assumption); rintro e w2 ⟨rfl, hq⟩))
  go_wp2_with fail
  go_split_ands
  go_ret
  exact ⟨rfl, by assumption⟩
set_option maxRecDepth 100000 in
set_option maxHeartbeats 4000000 in
theorem holds_not (c : UInt8) (va : Bool) (E : Nat → Int) (w : World) (hc : c = 33) (b n : Nat) (x1 : Int) (p1 : Option Addr) (m1 n1 : Nat)
  (k0 : w.cell? ⟨b, 0, none⟩ = some (.int .u8 x1)) (k1 : w.cell? ⟨b, 1, none⟩ = some (.slice p1 m1 n1))
  (c1 : ∀ w', Below w.heap.size w w' → Calls Tryz.prog 220 #[.agg #[.int .u8 x1, .slice p1 m1 n1], .agg #[.int .i64 (E 0), .int .i64 (E 1), .int .i64 (E 2), .int .i64 (E 3), .int .i64 (E 4), .int .i64 (E 5)]] w' fun e w2 => e = .returned (.bool va) ∧ Below w'.heap.size w' w2) :
  Calls Tryz.prog 220 #[.agg #[.int .u8 c.toNat, .slice (some ⟨b, 0, none⟩) 1 n], .agg #[.int .i64 (E 0), .int .i64 (E 1), .int .i64 (E 2), .int .i64 (E 3), .int .i64 (E 4), .int .i64 (E 5)]] w fun e w' => e = .returned (.bool (!va)) ∧ Below w.heap.size w w' := by
 have C1 := Lib.hid c1
 have hlt := cell_lt k0
 clear c1
 subst hc
 ·skip
  go_enter Tryz.func220, Tryz.ntmps220
  go_wp2_with fail
  have t0 := (heap_at_old (heap_at_new (w := w) (o := .cells #[.int .u8 33, .slice (some ⟨b, 0, none⟩) 1 n] 110) rfl) : (World.alloc _ (.cells #[.int .i64 (E 0), .int .i64 (E 1), .int .i64 (E 2), .int .i64 (E 3), .int .i64 (E 4), .int .i64 (E 5)] 242)).heap[_]? = _)
  have t1 := (heap_at_new (w := w.alloc (.cells #[.int .u8 33, .slice (some ⟨b, 0, none⟩) 1 n] 110)) (o := .cells #[.int .i64 (E 0), .int .i64 (E 1), .int .i64 (E 2), .int .i64 (E 3), .int .i64 (E 4), .int .i64 (E 5)] 242) (k := w.heap.size + 1) (by simp))
  have hB := ((Below.refl w.heap.size w).alloc (Nat.le_refl _) (.cells #[.int .u8 33, .slice (some ⟨b, 0, none⟩) 1 n] 110)).alloc (by simp) (.cells #[.int .i64 (E 0), .int .i64 (E 1), .int .i64 (E 2), .int .i64 (E 3), .int .i64 (E 4), .int .i64 (E 5)] 242)
  generalize (w.alloc (.cells #[.int .u8 33, .slice (some ⟨b, 0, none⟩) 1 n] 110)).alloc (.cells #[.int .i64 (E 0), .int .i64 (E 1), .int .i64 (E 2), .int .i64 (E 3), .int .i64 (E 4), .int .i64 (E 5)] 242) = W0 at *
  have q0 : W0.cell? ⟨w.heap.size, 0, none⟩ = some (.int .u8 33) := by rw [cell_of_row W0 _ 0 _ _ (0, 0) t0]; rfl
  have q1 : W0.cell? ⟨w.heap.size, 1, none⟩ = some (.slice (some ⟨b, 0, none⟩) 1 n) := by rw [cell_of_row W0 _ 1 _ _ (0, 0) t0]; rfl
  have q2 : W0.cell? ⟨w.heap.size + 1, 0, none⟩ = some (.int .i64 (E 0)) := by rw [cell_of_row W0 _ 0 _ _ (0, 0) t1]; rfl
  have q3 : W0.cell? ⟨w.heap.size + 1, 1, none⟩ = some (.int .i64 (E 1)) := by rw [cell_of_row W0 _ 1 _ _ (0, 0) t1]; rfl
  have q4 : W0.cell? ⟨w.heap.size + 1, 2, none⟩ = some (.int .i64 (E 2)) := by rw [cell_of_row W0 _ 2 _ _ (0, 0) t1]; rfl
  have q5 : W0.cell? ⟨w.heap.size + 1, 3, none⟩ = some (.int .i64 (E 3)) := by rw [cell_of_row W0 _ 3 _ _ (0, 0) t1]; rfl
  have q6 : W0.cell? ⟨w.heap.size + 1, 4, none⟩ = some (.int .i64 (E 4)) := by rw [cell_of_row W0 _ 4 _ _ (0, 0) t1]; rfl
  have q7 : W0.cell? ⟨w.heap.size + 1, 5, none⟩ = some (.int .i64 (E 5)) := by rw [cell_of_row W0 _ 5 _ _ (0, 0) t1]; rfl
  have j0 := cell_keep hB k0
  have j1 := cell_keep hB k1
  have hB' := hB.drew
  clear k0 k1 t0 t1
  go_region_held3 (fun w' => Below w.heap.size w w' ∧ w'.cell? ⟨w.heap.size, 0, none⟩ = some (.int .u8 33) ∧ w'.cell? ⟨w.heap.size, 1, none⟩ = some (.slice (some ⟨b, 0, none⟩) 1 n) ∧
    w'.cell? ⟨w.heap.size + 1, 0, none⟩ = some (.int .i64 (E 0)) ∧ w'.cell? ⟨w.heap.size + 1, 1, none⟩ = some (.int .i64 (E 1)) ∧ w'.cell? ⟨w.heap.size + 1, 2, none⟩ = some (.int .i64 (E 2)) ∧ w'.cell? ⟨w.heap.size + 1, 3, none⟩ = some (.int .i64 (E 3)) ∧ w'.cell? ⟨w.heap.size + 1, 4, none⟩ = some (.int .i64 (E 4)) ∧ w'.cell? ⟨w.heap.size + 1, 5, none⟩ = some (.int .i64 (E 5)) ∧
    w'.cell? ⟨b, 0, none⟩ = some (.int .u8 x1) ∧ w'.cell? ⟨b, 1, none⟩ = some (.slice p1 m1 n1))
   ((go_split_ands; refine ⟨?_, ?_, ?_, ?_, ?_, ?_, ?_, ?_, ?_, ?_, ?_⟩ <;> first | assumption | exact cell_keep hq (by assumption) | exact Below.trans (by assumption) (hq.mono (by have := Below.size (by assumption : Below w.heap.size w _); omega))))
   (first | (go_at_call 220; (with_reducible refine (C1.out _ ?_).mono ?_); (go_split_ands; assumption); rintro e w2 ⟨rfl, hq⟩))
  go_wp2_with fail
  go_split_ands
  go_ret
  exact ⟨rfl, by assumption⟩
set_option maxRecDepth 100000 in
set_option maxHeartbeats 4000000 in
theorem holds_andT (c : UInt8) (va vb : Bool) (E : Nat → Int) (w : World) (hc : c = 38) (b n : Nat) (x1 x2 : Int) (p1 p2 : Option Addr) (m1 m2 n1 n2 : Nat)
  (k0 : w.cell? ⟨b, 0, none⟩ = some (.int .u8 x1)) (k1 : w.cell? ⟨b, 1, none⟩ = some (.slice p1 m1 n1)) (k2 : w.cell? ⟨b, 2, none⟩ = some (.int .u8 x2)) (k3 : w.cell? ⟨b, 3, none⟩ = some (.slice p2 m2 n2)) (hva : va = true)
  (c1 : ∀ w', Below w.heap.size w w' → Calls Tryz.prog 220 #[.agg #[.int .u8 x1, .slice p1 m1 n1], .agg #[.int .i64 (E 0), .int .i64 (E 1), .int .i64 (E 2), .int .i64 (E 3), .int .i64 (E 4), .int .i64 (E 5)]] w' fun e w2 => e = .returned (.bool va) ∧ Below w'.heap.size w' w2)
  (c2 : ∀ w', Below w.heap.size w w' → Calls Tryz.prog 220 #[.agg #[.int .u8 x2, .slice p2 m2 n2], .agg #[.int .i64 (E 0), .int .i64 (E 1), .int .i64 (E 2), .int .i64 (E 3), .int .i64 (E 4), .int .i64 (E 5)]] w' fun e w2 => e = .returned (.bool vb) ∧ Below w'.heap.size w' w2) :
  Calls Tryz.prog 220 #[.agg #[.int .u8 c.toNat, .slice (some ⟨b, 0, none⟩) 2 n], .agg #[.int .i64 (E 0), .int .i64 (E 1), .int .i64 (E 2), .int .i64 (E 3), .int .i64 (E 4), .int .i64 (E 5)]] w fun e w' => e = .returned (.bool (vb)) ∧ Below w.heap.size w w' := by
 have C1 := Lib.hid c1
 have C2 := Lib.hid c2
 have hlt := cell_lt k0
 clear c1 c2
 subst hc
 subst hva
 ·skip
  go_enter Tryz.func220, Tryz.ntmps220
  go_wp2_with fail
  have t0 := (heap_at_old (heap_at_new (w := w) (o := .cells #[.int .u8 38, .slice (some ⟨b, 0, none⟩) 2 n] 110) rfl) : (World.alloc _ (.cells #[.int .i64 (E 0), .int .i64 (E 1), .int .i64 (E 2), .int .i64 (E 3), .int .i64 (E 4), .int .i64 (E 5)] 242)).heap[_]? = _)
  have t1 := (heap_at_new (w := w.alloc (.cells #[.int .u8 38, .slice (some ⟨b, 0, none⟩) 2 n] 110)) (o := .cells #[.int .i64 (E 0), .int .i64 (E 1), .int .i64 (E 2), .int .i64 (E 3), .int .i64 (E 4), .int .i64 (E 5)] 242) (k := w.heap.size + 1) (by simp))
  have hB := ((Below.refl w.heap.size w).alloc (Nat.le_refl _) (.cells #[.int .u8 38, .slice (some ⟨b, 0, none⟩) 2 n] 110)).alloc (by simp) (.cells #[.int .i64 (E 0), .int .i64 (E 1), .int .i64 (E 2), .int .i64 (E 3), .int .i64 (E 4), .int .i64 (E 5)] 242)
  generalize (w.alloc (.cells #[.int .u8 38, .slice (some ⟨b, 0, none⟩) 2 n] 110)).alloc (.cells #[.int .i64 (E 0), .int .i64 (E 1), .int .i64 (E 2), .int .i64 (E 3), .int .i64 (E 4), .int .i64 (E 5)] 242) = W0 at *
  have q0 : W0.cell? ⟨w.heap.size, 0, none⟩ = some (.int .u8 38) := by rw [cell_of_row W0 _ 0 _ _ (0, 0) t0]; rfl
  have q1 : W0.cell? ⟨w.heap.size, 1, none⟩ = some (.slice (some ⟨b, 0, none⟩) 2 n) := by rw [cell_of_row W0 _ 1 _ _ (0, 0) t0]; rfl
  have q2 : W0.cell? ⟨w.heap.size + 1, 0, none⟩ = some (.int .i64 (E 0)) := by rw [cell_of_row W0 _ 0 _ _ (0, 0) t1]; rfl
  have q3 : W0.cell? ⟨w.heap.size + 1, 1, none⟩ = some (.int .i64 (E 1)) := by rw [cell_of_row W0 _ 1 _ _ (0, 0) t1]; rfl
  have q4 : W0.cell? ⟨w.heap.size + 1, 2, none⟩ = some (.int .i64 (E 2)) := by rw [cell_of_row W0 _ 2 _ _ (0, 0) t1]; rfl
  have q5 : W0.cell? ⟨w.heap.size + 1, 3, none⟩ = some (.int .i64 (E 3)) := by rw [cell_of_row W0 _ 3 _ _ (0, 0) t1]; rfl
  have q6 : W0.cell? ⟨w.heap.size + 1, 4, none⟩ = some (.int .i64 (E 4)) := by rw [cell_of_row W0 _ 4 _ _ (0, 0) t1]; rfl
  have q7 : W0.cell? ⟨w.heap.size + 1, 5, none⟩ = some (.int .i64 (E 5)) := by rw [cell_of_row W0 _ 5 _ _ (0, 0) t1]; rfl
  have j0 := cell_keep hB k0
  have j1 := cell_keep hB k1
  have j2 := cell_keep hB k2
  have j3 := cell_keep hB k3
  have hB' := hB.drew
  clear k0 k1 k2 k3 t0 t1
  go_region_held3 (fun w' => Below w.heap.size w w' ∧ w'.cell? ⟨w.heap.size, 0, none⟩ = some (.int .u8 38) ∧ w'.cell? ⟨w.heap.size, 1, none⟩ = some (.slice (some ⟨b, 0, none⟩) 2 n) ∧
    w'.cell? ⟨w.heap.size + 1, 0, none⟩ = some (.int .i64 (E 0)) ∧ w'.cell? ⟨w.heap.size + 1, 1, none⟩ = some (.int .i64 (E 1)) ∧ w'.cell? ⟨w.heap.size + 1, 2, none⟩ = some (.int .i64 (E 2)) ∧ w'.cell? ⟨w.heap.size + 1, 3, none⟩ = some (.int .i64 (E 3)) ∧ w'.cell? ⟨w.heap.size + 1, 4, none⟩ = some (.int .i64 (E 4)) ∧ w'.cell? ⟨w.heap.size + 1, 5, none⟩ = some (.int .i64 (E 5)) ∧
    w'.cell? ⟨b, 0, none⟩ = some (.int .u8 x1) ∧ w'.cell? ⟨b, 1, none⟩ = some (.slice p1 m1 n1) ∧ w'.cell? ⟨b, 2, none⟩ = some (.int .u8 x2) ∧ w'.cell? ⟨b, 3, none⟩ = some (.slice p2 m2 n2))
   ((go_split_ands; refine ⟨?_, ?_, ?_, ?_, ?_, ?_, ?_, ?_, ?_, ?_, ?_, ?_, ?_⟩ <;> first | assumption | exact cell_keep hq (by assumption) | exact Below.trans (by assumption) (hq.mono (by have := Below.size (by assumption : Below w.heap.size w _); omega))))
   (first | (go_at_call 220; (first | (with_reducible refine (C1.out _ ?_).mono ?_) | (with_reducible refine (C2.out _ ?_).mono ?_)); (go_split_ands; assumption); rintro e w2 ⟨rfl, hq⟩))
  go_wp2_with fail
  go_split_ands
  go_ret
  exact ⟨rfl, by assumption⟩
set_option maxRecDepth 100000 in
set_option maxHeartbeats 4000000 in
theorem holds_orF (c : UInt8) (va vb : Bool) (E : Nat → Int) (w : World) (hc : c = 124) (b n : Nat) (x1 x2 : Int) (p1 p2 : Option Addr) (m1 m2 n1 n2 : Nat)
  (k0 : w.cell? ⟨b, 0, none⟩ = some (.int .u8 x1)) (k1 : w.cell? ⟨b, 1, none⟩ = some (.slice p1 m1 n1)) (k2 : w.cell? ⟨b, 2, none⟩ = some (.int .u8 x2)) (k3 : w.cell? ⟨b, 3, none⟩ = some (.slice p2 m2 n2)) (hva : va = false)
  (c1 : ∀ w', Below w.heap.size w w' → Calls Tryz.prog 220 #[.agg #[.int .u8 x1, .slice p1 m1 n1], .agg #[.int .i64 (E 0), .int .i64 (E 1), .int .i64 (E 2), .int .i64 (E 3), .int .i64 (E 4), .int .i64 (E 5)]] w' fun e w2 => e = .returned (.bool va) ∧ Below w'.heap.size w' w2)
  (c2 : ∀ w', Below w.heap.size w w' → Calls Tryz.prog 220 #[.agg #[.int .u8 x2, .slice p2 m2 n2], .agg #[.int .i64 (E 0), .int .i64 (E 1), .int .i64 (E 2), .int .i64 (E 3), .int .i64 (E 4), .int .i64 (E 5)]] w' fun e w2 => e = .returned (.bool vb) ∧ Below w'.heap.size w' w2) :
  Calls Tryz.prog 220 #[.agg #[.int .u8 c.toNat, .slice (some ⟨b, 0, none⟩) 2 n], .agg #[.int .i64 (E 0), .int .i64 (E 1), .int .i64 (E 2), .int .i64 (E 3), .int .i64 (E 4), .int .i64 (E 5)]] w fun e w' => e = .returned (.bool (vb)) ∧ Below w.heap.size w w' := by
 have C1 := Lib.hid c1
 have C2 := Lib.hid c2
 have hlt := cell_lt k0
 clear c1 c2
 subst hc
 subst hva
 ·skip
  go_enter Tryz.func220, Tryz.ntmps220
  go_wp2_with fail
  have t0 := (heap_at_old (heap_at_new (w := w) (o := .cells #[.int .u8 124, .slice (some ⟨b, 0, none⟩) 2 n] 110) rfl) : (World.alloc _ (.cells #[.int .i64 (E 0), .int .i64 (E 1), .int .i64 (E 2), .int .i64 (E 3), .int .i64 (E 4), .int .i64 (E 5)] 242)).heap[_]? = _)
  have t1 := (heap_at_new (w := w.alloc (.cells #[.int .u8 124, .slice (some ⟨b, 0, none⟩) 2 n] 110)) (o := .cells #[.int .i64 (E 0), .int .i64 (E 1), .int .i64 (E 2), .int .i64 (E 3), .int .i64 (E 4), .int .i64 (E 5)] 242) (k := w.heap.size + 1) (by simp))
  have hB := ((Below.refl w.heap.size w).alloc (Nat.le_refl _) (.cells #[.int .u8 124, .slice (some ⟨b, 0, none⟩) 2 n] 110)).alloc (by simp) (.cells #[.int .i64 (E 0), .int .i64 (E 1), .int .i64 (E 2), .int .i64 (E 3), .int .i64 (E 4), .int .i64 (E 5)] 242)
  generalize (w.alloc (.cells #[.int .u8 124, .slice (some ⟨b, 0, none⟩) 2 n] 110)).alloc (.cells #[.int .i64 (E 0), .int .i64 (E 1), .int .i64 (E 2), .int .i64 (E 3), .int .i64 (E 4), .int .i64 (E 5)] 242) = W0 at *
  have q0 : W0.cell? ⟨w.heap.size, 0, none⟩ = some (.int .u8 124) := by rw [cell_of_row W0 _ 0 _ _ (0, 0) t0]; rfl
  have q1 : W0.cell? ⟨w.heap.size, 1, none⟩ = some (.slice (some ⟨b, 0, none⟩) 2 n) := by rw [cell_of_row W0 _ 1 _ _ (0, 0) t0]; rfl
  have q2 : W0.cell? ⟨w.heap.size + 1, 0, none⟩ = some (.int .i64 (E 0)) := by rw [cell_of_row W0 _ 0 _ _ (0, 0) t1]; rfl
  have q3 : W0.cell? ⟨w.heap.size + 1, 1, none⟩ = some (.int .i64 (E 1)) := by rw [cell_of_row W0 _ 1 _ _ (0, 0) t1]; rfl
  have q4 : W0.cell? ⟨w.heap.size + 1, 2, none⟩ = some (.int .i64 (E 2)) := by rw [cell_of_row W0 _ 2 _ _ (0, 0) t1]; rfl
  have q5 : W0.cell? ⟨w.heap.size + 1, 3, none⟩ = some (.int .i64 (E 3)) := by rw [cell_of_row W0 _ 3 _ _ (0, 0) t1]; rfl
  have q6 : W0.cell? ⟨w.heap.size + 1, 4, none⟩ = some (.int .i64 (E 4)) := by rw [cell_of_row W0 _ 4 _ _ (0, 0) t1]; rfl
  have q7 : W0.cell? ⟨w.heap.size + 1, 5, none⟩ = some (.int .i64 (E 5)) := by rw [cell_of_row W0 _ 5 _ _ (0, 0) t1]; rfl
  have j0 := cell_keep hB k0
  have j1 := cell_keep hB k1
  have j2 := cell_keep hB k2
  have j3 := cell_keep hB k3
  have hB' := hB.drew
  clear k0 k1 k2 k3 t0 t1
  go_region_held3 (fun w' => Below w.heap.size w w' ∧ w'.cell? ⟨w.heap.size, 0, none⟩ = some (.int .u8 124) ∧ w'.cell? ⟨w.heap.size, 1, none⟩ = some (.slice (some ⟨b, 0, none⟩) 2 n) ∧
    w'.cell? ⟨w.heap.size + 1, 0, none⟩ = some (.int .i64 (E 0)) ∧ w'.cell? ⟨w.heap.size + 1, 1, none⟩ = some (.int .i64 (E 1)) ∧ w'.cell? ⟨w.heap.size + 1, 2, none⟩ = some (.int .i64 (E 2)) ∧ w'.cell? ⟨w.heap.size + 1, 3, none⟩ = some (.int .i64 (E 3)) ∧ w'.cell? ⟨w.heap.size + 1, 4, none⟩ = some (.int .i64 (E 4)) ∧ w'.cell? ⟨w.heap.size + 1, 5, none⟩ = some (.int .i64 (E 5)) ∧
    w'.cell? ⟨b, 0, none⟩ = some (.int .u8 x1) ∧ w'.cell? ⟨b, 1, none⟩ = some (.slice p1 m1 n1) ∧ w'.cell? ⟨b, 2, none⟩ = some (.int .u8 x2) ∧ w'.cell? ⟨b, 3, none⟩ = some (.slice p2 m2 n2))
   ((go_split_ands; refine ⟨?_, ?_, ?_, ?_, ?_, ?_, ?_, ?_, ?_, ?_, ?_, ?_, ?_⟩ <;> first | assumption | exact cell_keep hq (by assumption) | exact Below.trans (by assumption) (hq.mono (by have := Below.size (by assumption : Below w.heap.size w _); omega))))
   (first | (go_at_call 220; (first | (with_reducible refine (C1.out _ ?_).mono ?_) | (with_reducible refine (C2.out _ ?_).mono ?_)); (go_split_ands; assumption); rintro e w2 ⟨rfl, hq⟩))
  go_wp2_with fail
  go_split_ands
  go_ret
  exact ⟨rfl, by assumption⟩
set_option maxRecDepth 100000 in
set_option maxHeartbeats 4000000 in
theorem holds_andF (c : UInt8) (va : Bool) (E : Nat → Int) (w : World) (hc : c = 38) (b n : Nat) (x1 x2 : Int) (p1 p2 : Option Addr) (m1 m2 n1 n2 : Nat)
  (k0 : w.cell? ⟨b, 0, none⟩ = some (.int .u8 x1)) (k1 : w.cell? ⟨b, 1, none⟩ = some (.slice p1 m1 n1)) (k2 : w.cell? ⟨b, 2, none⟩ = some (.int .u8 x2)) (k3 : w.cell? ⟨b, 3, none⟩ = some (.slice p2 m2 n2)) (hva : va = false)
  (c1 : ∀ w', Below w.heap.size w w' → Calls Tryz.prog 220 #[.agg #[.int .u8 x1, .slice p1 m1 n1], .agg #[.int .i64 (E 0), .int .i64 (E 1), .int .i64 (E 2), .int .i64 (E 3), .int .i64 (E 4), .int .i64 (E 5)]] w' fun e w2 => e = .returned (.bool va) ∧ Below w'.heap.size w' w2) :
  Calls Tryz.prog 220 #[.agg #[.int .u8 c.toNat, .slice (some ⟨b, 0, none⟩) 2 n], .agg #[.int .i64 (E 0), .int .i64 (E 1), .int .i64 (E 2), .int .i64 (E 3), .int .i64 (E 4), .int .i64 (E 5)]] w fun e w' => e = .returned (.bool false) ∧ Below w.heap.size w w' := by
 have C1 := Lib.hid c1
 have hlt := cell_lt k0
 clear c1
 subst hc
 subst hva
 ·skip
  go_enter Tryz.func220, Tryz.ntmps220
  go_wp2_with fail
  have t0 := (heap_at_old (heap_at_new (w := w) (o := .cells #[.int .u8 38, .slice (some ⟨b, 0, none⟩) 2 n] 110) rfl) : (World.alloc _ (.cells #[.int .i64 (E 0), .int .i64 (E 1), .int .i64 (E 2), .int .i64 (E 3), .int .i64 (E 4), .int .i64 (E 5)] 242)).heap[_]? = _)
  have t1 := (heap_at_new (w := w.alloc (.cells #[.int .u8 38, .slice (some ⟨b, 0, none⟩) 2 n] 110)) (o := .cells #[.int .i64 (E 0), .int .i64 (E 1), .int .i64 (E 2), .int .i64 (E 3), .int .i64 (E 4), .int .i64 (E 5)] 242) (k := w.heap.size + 1) (by simp))
  have hB := ((Below.refl w.heap.size w).alloc (Nat.le_refl _) (.cells #[.int .u8 38, .slice (some ⟨b, 0, none⟩) 2 n] 110)).alloc (by simp) (.cells #[.int .i64 (E 0), .int .i64 (E 1), .int .i64 (E 2), .int .i64 (E 3), .int .i64 (E 4), .int .i64 (E 5)] 242)
  generalize (w.alloc (.cells #[.int .u8 38, .slice (some ⟨b, 0, none⟩) 2 n] 110)).alloc (.cells #[.int .i64 (E 0), .int .i64 (E 1), .int .i64 (E 2), .int .i64 (E 3), .int .i64 (E 4), .int .i64 (E 5)] 242) = W0 at *
  have q0 : W0.cell? ⟨w.heap.size, 0, none⟩ = some (.int .u8 38) := by rw [cell_of_row W0 _ 0 _ _ (0, 0) t0]; rfl
  have q1 : W0.cell? ⟨w.heap.size, 1, none⟩ = some (.slice (some ⟨b, 0, none⟩) 2 n) := by rw [cell_of_row W0 _ 1 _ _ (0, 0) t0]; rfl
  have q2 : W0.cell? ⟨w.heap.size + 1, 0, none⟩ = some (.int .i64 (E 0)) := by rw [cell_of_row W0 _ 0 _ _ (0, 0) t1]; rfl
  have q3 : W0.cell? ⟨w.heap.size + 1, 1, none⟩ = some (.int .i64 (E 1)) := by rw [cell_of_row W0 _ 1 _ _ (0, 0) t1]; rfl
  have q4 : W0.cell? ⟨w.heap.size + 1, 2, none⟩ = some (.int .i64 (E 2)) := by rw [cell_of_row W0 _ 2 _ _ (0, 0) t1]; rfl
  have q5 : W0.cell? ⟨w.heap.size + 1, 3, none⟩ = some (.int .i64 (E 3)) := by rw [cell_of_row W0 _ 3 _ _ (0, 0) t1]; rfl
  have q6 : W0.cell? ⟨w.heap.size + 1, 4, none⟩ = some (.int .i64 (E 4)) := by rw [cell_of_row W0 _ 4 _ _ (0, 0) t1]; rfl
  have q7 : W0.cell? ⟨w.heap.size + 1, 5, none⟩ = some (.int .i64 (E 5)) := by rw [cell_of_row W0 _ 5 _ _ (0, 0) t1]; rfl
  have j0 := cell_keep hB k0
  have j1 := cell_keep hB k1
  have j2 := cell_keep hB k2
  have j3 := cell_keep hB k3
  have hB' := hB.drew
  clear k0 k1 k2 k3 t0 t1
  first
   | (go_region_with ((go_at_call 220; (refine (C1.out _ ?_).mono ?_); (exact hB'); (rintro e w2 ⟨rfl, hq⟩))))
   | fail
  all_goals
   go_wp2_with fail
   go_ret
   exact ⟨rfl, hB'.trans (hq.mono hB'.size)⟩
set_option maxRecDepth 100000 in
set_option maxHeartbeats 4000000 in
theorem holds_orT (c : UInt8) (va : Bool) (E : Nat → Int) (w : World) (hc : c = 124) (b n : Nat) (x1 x2 : Int) (p1 p2 : Option Addr) (m1 m2 n1 n2 : Nat)
  (k0 : w.cell? ⟨b, 0, none⟩ = some (.int .u8 x1)) (k1 : w.cell? ⟨b, 1, none⟩ = some (.slice p1 m1 n1)) (k2 : w.cell? ⟨b, 2, none⟩ = some (.int .u8 x2)) (k3 : w.cell? ⟨b, 3, none⟩ = some (.slice p2 m2 n2)) (hva : va = true)
  (c1 : ∀ w', Below w.heap.size w w' → Calls Tryz.prog 220 #[.agg #[.int .u8 x1, .slice p1 m1 n1], .agg #[.int .i64 (E 0), .int .i64 (E 1), .int .i64 (E 2), .int .i64 (E 3), .int .i64 (E 4), .int .i64 (E 5)]] w' fun e w2 => e = .returned (.bool va) ∧ Below w'.heap.size w' w2) :
  Calls Tryz.prog 220 #[.agg #[.int .u8 c.toNat, .slice (some ⟨b, 0, none⟩) 2 n], .agg #[.int .i64 (E 0), .int .i64 (E 1), .int .i64 (E 2), .int .i64 (E 3), .int .i64 (E 4), .int .i64 (E 5)]] w fun e w' => e = .returned (.bool true) ∧ Below w.heap.size w w' := by
 have C1 := Lib.hid c1
 have hlt := cell_lt k0
 clear c1
 subst hc
 subst hva
 ·skip
  go_enter Tryz.func220, Tryz.ntmps220
  go_wp2_with fail
  have t0 := (heap_at_old (heap_at_new (w := w) (o := .cells #[.int .u8 124, .slice (some ⟨b, 0, none⟩) 2 n] 110) rfl) : (World.alloc _ (.cells #[.int .i64 (E 0), .int .i64 (E 1), .int .i64 (E 2), .int .i64 (E 3), .int .i64 (E 4), .int .i64 (E 5)] 242)).heap[_]? = _)
  have t1 := (heap_at_new (w := w.alloc (.cells #[.int .u8 124, .slice (some ⟨b, 0, none⟩) 2 n] 110)) (o := .cells #[.int .i64 (E 0), .int .i64 (E 1), .int .i64 (E 2), .int .i64 (E 3), .int .i64 (E 4), .int .i64 (E 5)] 242) (k := w.heap.size + 1) (by simp))
  have hB := ((Below.refl w.heap.size w).alloc (Nat.le_refl _) (.cells #[.int .u8 124, .slice (some ⟨b, 0, none⟩) 2 n] 110)).alloc (by simp) (.cells #[.int .i64 (E 0), .int .i64 (E 1), .int .i64 (E 2), .int .i64 (E 3), .int .i64 (E 4), .int .i64 (E 5)] 242)
  generalize (w.alloc (.cells #[.int .u8 124, .slice (some ⟨b, 0, none⟩) 2 n] 110)).alloc (.cells #[.int .i64 (E 0), .int .i64 (E 1), .int .i64 (E 2), .int .i64 (E 3), .int .i64 (E 4), .int .i64 (E 5)] 242) = W0 at *
  have q0 : W0.cell? ⟨w.heap.size, 0, none⟩ = some (.int .u8 124) := by rw [cell_of_row W0 _ 0 _ _ (0, 0) t0]; rfl
  have q1 : W0.cell? ⟨w.heap.size, 1, none⟩ = some (.slice (some ⟨b, 0, none⟩) 2 n) := by rw [cell_of_row W0 _ 1 _ _ (0, 0) t0]; rfl
  have q2 : W0.cell? ⟨w.heap.size + 1, 0, none⟩ = some (.int .i64 (E 0)) := by rw [cell_of_row W0 _ 0 _ _ (0, 0) t1]; rfl
  have q3 : W0.cell? ⟨w.heap.size + 1, 1, none⟩ = some (.int .i64 (E 1)) := by rw [cell_of_row W0 _ 1 _ _ (0, 0) t1]; rfl
  have q4 : W0.cell? ⟨w.heap.size + 1, 2, none⟩ = some (.int .i64 (E 2)) := by rw [cell_of_row W0 _ 2 _ _ (0, 0) t1]; rfl
  have q5 : W0.cell? ⟨w.heap.size + 1, 3, none⟩ = some (.int .i64 (E 3)) := by rw [cell_of_row W0 _ 3 _ _ (0, 0) t1]; rfl
  have q6 : W0.cell? ⟨w.heap.size + 1, 4, none⟩ = some (.int .i64 (E 4)) := by rw [cell_of_row W0 _ 4 _ _ (0, 0) t1]; rfl
  have q7 : W0.cell? ⟨w.heap.size + 1, 5, none⟩ = some (.int .i64 (E 5)) := by rw [cell_of_row W0 _ 5 _ _ (0, 0) t1]; rfl
  have j0 := cell_keep hB k0
  have j1 := cell_keep hB k1
  have j2 := cell_keep hB k2
  have j3 := cell_keep hB k3
  have hB' := hB.drew
  clear k0 k1 k2 k3 t0 t1
  first
   | (go_region_with ((go_at_call 220; (refine (C1.out _ ?_).mono ?_); (exact hB'); (rintro e w2 ⟨rfl, hq⟩))))
   | fail
  all_goals
   go_wp2_with fail
   go_ret
   exact ⟨rfl, hB'.trans (hq.mono hB'.size)⟩
theorem st3_bd {x y z : Int} (h : st3 x y z = true) : (0 ≤ x ∧ x ≤ 2) ∧ (0 ≤ y ∧ y ≤ 2) ∧ (0 ≤ z ∧ z ≤ 2) := by
 unfold st3 at h
 simp only [Bool.and_eq_true] at h
 have a := val3_bd h.1.1; have b := val3_bd h.1.2; have c := val3_bd h.2
 omega
theorem one_bd {x y z : Int} (h : st3 x y z = true) : ∀ i, 0 ≤ one x y z i ∧ one x y z i ≤ 2 := by
 have hb := st3_bd h
 intro i
 unfold one
 split
 ·exact hb.1
 ·exact hb.2.1
 ·exact hb.2.2
 ·exact ⟨Int.le_refl _, by decide⟩
set_option maxHeartbeats 1000000 in
theorem specOne (x y z : Int) (w : World) : Calls Tryz.prog 212 #[.agg #[.int .i64 x, .int .i64 y, .int .i64 z]] w fun e w' => e = .returned (envV (one x y z)) ∧ Below w.heap.size w w' := by
 go_enter Tryz.func212, Tryz.ntmps212
 go_wp2_with fail
 exact bodyPost_ret (v := envV (one x y z)) (by simp [results, Tryz.results212, go_sem, envV, one]) rfl ⟨rfl, ((Below.refl _ _).alloc (Nat.le_refl _) _).alloc (by simp) _⟩
theorem holds_any (E : Nat → Int) (he : ∀ i, 0 ≤ E i ∧ E i ≤ 2) : ∀ (t : Tm) (B : Nat) (x y : Value) (w : World), Ok true true t → RepT w B t x y →
  Calls Tryz.prog 220 #[.agg #[x, y], .agg #[.int .i64 (E 0), .int .i64 (E 1), .int .i64 (E 2), .int .i64 (E 3), .int .i64 (E 4), .int .i64 (E 5)]] w fun e w' => e = .returned (.bool (tru E t)) ∧ Below w.heap.size w w' := by
 intro t
 induction t with
 | leaf c =>
  intro B x y w ht hr
  obtain ⟨rfl, a, n, rfl⟩ := hr
  rcases ok_test ht with ⟨c', e1, hc⟩ | ⟨_, e1, _⟩ | ⟨_, _, _, e1, _⟩ | ⟨_, _, _, e1, _⟩
  ·cases e1; exact holds_leaf c E w hc a n
  ·cases e1
  ·cases e1
  ·cases e1
 | un c a iha =>
  intro B x y w ht hr
  rcases ok_test ht with ⟨c', e1, hc⟩ | ⟨_, e1, oa⟩ | ⟨_, _, _, e1, _⟩ | ⟨_, _, _, e1, _⟩
  ·cases e1
  ·cases e1
   obtain ⟨rfl, b, n, x1, y1, rfl, _, k0, k1, r1⟩ := hr
   obtain ⟨z1, p1, m1, n1, rfl, rfl⟩ := r1.forms
   exact holds_not 33 _ E w rfl b n z1 p1 m1 n1 k0 k1 (fun w' h => iha B _ _ w' oa (r1.below h))
  ·cases e1
  ·cases e1
 | bin c a d iha ihd =>
  intro B x y w ht hr
  rcases ok_test ht with ⟨c', e1, hc⟩ | ⟨_, e1, _⟩ | ⟨_, _, _, e1, hc, oa, od⟩ | ⟨_, _, _, e1, hc, oa, od⟩
  ·cases e1
  ·cases e1
  ·cases e1
   obtain ⟨rfl, b, n, x1, y1, x2, y2, rfl, _, k0, k1, k2, k3, r1, r2⟩ := hr
   obtain ⟨z1, p1, m1, n1, rfl, rfl⟩ := r1.forms
   obtain ⟨z2, p2, m2, n2, rfl, rfl⟩ := r2.forms
   have e2 : tru E (.bin c a d) = if c = 61 then val E a == val E d else decide (val E a < val E d) := by
    rcases hc with rfl | rfl <;> rfl
   rw [e2]
   exact holds_cmp c _ _ E w hc b n z1 z2 p1 p2 m1 m2 n1 n2 k0 k1 k2 k3 (fun w' h => value_any E he a B _ _ w' oa (r1.below h)) (fun w' h => value_any E he d B _ _ w' od (r2.below h))
  ·cases e1
   obtain ⟨rfl, b, n, x1, y1, x2, y2, rfl, _, k0, k1, k2, k3, r1, r2⟩ := hr
   obtain ⟨z1, p1, m1, n1, rfl, rfl⟩ := r1.forms
   obtain ⟨z2, p2, m2, n2, rfl, rfl⟩ := r2.forms
   have c1 : ∀ w', Below w.heap.size w w' → _ := fun w' h => iha B _ _ w' oa (r1.below h)
   have c2 : ∀ w', Below w.heap.size w w' → _ := fun w' h => ihd B _ _ w' od (r2.below h)
   rcases hc with rfl | rfl
   ·have e2 : tru E (.bin 38 a d) = (tru E a && tru E d) := rfl
    rw [e2]
    cases hv : tru E a
    ·rw [hv] at c1
     exact holds_andF 38 false E w rfl b n z1 z2 p1 p2 m1 m2 n1 n2 k0 k1 k2 k3 rfl c1
    ·rw [hv] at c1
     exact holds_andT 38 true _ E w rfl b n z1 z2 p1 p2 m1 m2 n1 n2 k0 k1 k2 k3 rfl c1 c2
   ·have e2 : tru E (.bin 124 a d) = (tru E a || tru E d) := rfl
    rw [e2]
    cases hv : tru E a
    ·rw [hv] at c1
     exact holds_orF 124 false _ E w rfl b n z1 z2 p1 p2 m1 m2 n1 n2 k0 k1 k2 k3 rfl c1 c2
    ·rw [hv] at c1
     exact holds_orT 124 true E w rfl b n z1 z2 p1 p2 m1 m2 n1 n2 k0 k1 k2 k3 rfl c1
set_option maxHeartbeats 2000000 in
theorem sph_leaf (e : Nat → Int) (s : ByteArray) (a : Nat) (w : World) (hs : s.size ≤ 1000000) (ha : a < s.size) (hc : s[a] = 116 ∨ s[a] = 102) :
  Calls Tryz.prog 211 #[.string s, .int .i64 a, envV e] w fun e' w' => e' = .returned (.tuple #[.bool (s[a] == 116), .int .i64 (a + 1)]) ∧ Below w.heap.size w w' := by
 have h0 : (0 : Int) ≤ (a : Int) := by omega
 have h1 : (a : Int) < (s.size : Int) := by omega
 unfold envV
 rcases hc with hc | hc
 ·have hcn : s[a].toNat = 116 := by rw [hc]; rfl
  have V : Hid ((s[a] == 116) = true) := by rw [hc]; rfl
  clear hc
  go_enter Tryz.func211, Tryz.ntmps211
  go_wp2_with fail
  go_ret2
  exact ⟨by rw [V.out]; rfl, (Below.refl _ _).alloc (Nat.le_refl _) _⟩
 ·have hcn : s[a].toNat = 102 := by rw [hc]; rfl
  have V : Hid ((s[a] == 116) = false) := by rw [hc]; rfl
  clear hc
  go_enter Tryz.func211, Tryz.ntmps211
  go_wp2_with fail
  go_ret2
  exact ⟨by rw [V.out]; rfl, (Below.refl _ _).alloc (Nat.le_refl _) _⟩
set_option maxRecDepth 100000 in
set_option maxHeartbeats 4000000 in
theorem sph_cmp (e : Nat → Int) (s : ByteArray) (a n1 n2 : Nat) (va vb : Int) (w : World) (hs : s.size ≤ 1000000) (ha : a < s.size) (r : Bool) (hr : (if s[a] = 61 then va == vb else decide (va < vb)) = r) (hc : s[a] = 61 ∨ s[a] = 60)
  (c1 : ∀ w, Calls Tryz.prog 252 #[.string s, .int .i64 (a + 1), envV e] w fun e' w' => e' = .returned (.tuple #[.int .i64 va, .int .i64 n1]) ∧ Below w.heap.size w w')
  (c2 : ∀ w, Calls Tryz.prog 252 #[.string s, .int .i64 n1, envV e] w fun e' w' => e' = .returned (.tuple #[.int .i64 vb, .int .i64 n2]) ∧ Below w.heap.size w w') :
  Calls Tryz.prog 211 #[.string s, .int .i64 a, envV e] w fun e' w' => e' = .returned (.tuple #[.bool r, .int .i64 n2]) ∧ Below w.heap.size w w' := by
 have h0 : (0 : Int) ≤ (a : Int) := by omega
 have h1 : (a : Int) < (s.size : Int) := by omega
 have C1 := Lib.hid c1
 have C2 := Lib.hid c2
 have HR := Lib.hid hr
 clear c1 c2 hr
 unfold envV at *
 rcases hc with hc | hc
 ·have hcn : s[a].toNat = 61 := by rw [hc]; rfl
  have hcc : Hid (s[a] = 61) := hc
  clear hc
  have V : Hid ((va == vb) = r) := by rw [← HR.out, hcc.out]; rfl
  cases ht : (va == vb)
  all_goals
   have T := Lib.hid ht
   skip
   go_enter Tryz.func211, Tryz.ntmps211
   go_wp2_with fail
   have bx := Box6.new w e
   have hB := (Below.refl w.heap.size w).alloc (Nat.le_refl _) (.cells #[.int .i64 (e 0), .int .i64 (e 1), .int .i64 (e 2), .int .i64 (e 3), .int .i64 (e 4), .int .i64 (e 5)] 233)
   generalize w.alloc (.cells #[.int .i64 (e 0), .int .i64 (e 1), .int .i64 (e 2), .int .i64 (e 3), .int .i64 (e 4), .int .i64 (e 5)] 233) = w0 at *
   refine (C1.out _).mono ?_
   rintro e' w1 ⟨rfl, hq⟩
   have q0 := cell_keep hq (bx 0 (by omega)); have q1 := cell_keep hq (bx 1 (by omega)); have q2 := cell_keep hq (bx 2 (by omega))
   have q3 := cell_keep hq (bx 3 (by omega)); have q4 := cell_keep hq (bx 4 (by omega)); have q5 := cell_keep hq (bx 5 (by omega))
   have HB := Lib.hid (hB.trans (hq.mono hB.size))
   clear hq hB bx
   go_wp2_with fail
   refine (C2.out _).mono ?_
   rintro e' w2 ⟨rfl, hq⟩
   have HB2 := Lib.hid (HB.out.trans (hq.mono HB.out.size))
   clear hq q0 q1 q2 q3 q4 q5
   go_wp2_with fail
   go_ret2
   exact ⟨by first | (rw [← V.out, T.out]; rfl) | (rw [← V.out]; rfl), HB2.out⟩
 ·have hcn : s[a].toNat = 60 := by rw [hc]; rfl
  have hcc : Hid (s[a] = 60) := hc
  clear hc
  have V : Hid ((decide (va < vb)) = r) := by rw [← HR.out, hcc.out]; rfl
  cases ht : (decide (va < vb))
  all_goals
   have T := Lib.hid ht
   simp only [decide_eq_false_iff_not, decide_eq_true_eq] at ht
   go_enter Tryz.func211, Tryz.ntmps211
   go_wp2_with fail
   have bx := Box6.new w e
   have hB := (Below.refl w.heap.size w).alloc (Nat.le_refl _) (.cells #[.int .i64 (e 0), .int .i64 (e 1), .int .i64 (e 2), .int .i64 (e 3), .int .i64 (e 4), .int .i64 (e 5)] 233)
   generalize w.alloc (.cells #[.int .i64 (e 0), .int .i64 (e 1), .int .i64 (e 2), .int .i64 (e 3), .int .i64 (e 4), .int .i64 (e 5)] 233) = w0 at *
   refine (C1.out _).mono ?_
   rintro e' w1 ⟨rfl, hq⟩
   have q0 := cell_keep hq (bx 0 (by omega)); have q1 := cell_keep hq (bx 1 (by omega)); have q2 := cell_keep hq (bx 2 (by omega))
   have q3 := cell_keep hq (bx 3 (by omega)); have q4 := cell_keep hq (bx 4 (by omega)); have q5 := cell_keep hq (bx 5 (by omega))
   have HB := Lib.hid (hB.trans (hq.mono hB.size))
   clear hq hB bx
   go_wp2_with fail
   refine (C2.out _).mono ?_
   rintro e' w2 ⟨rfl, hq⟩
   have HB2 := Lib.hid (HB.out.trans (hq.mono HB.out.size))
   clear hq q0 q1 q2 q3 q4 q5
   go_wp2_with fail
   go_ret2
   exact ⟨by first | (rw [← V.out, T.out]; rfl) | (rw [← V.out]; rfl), HB2.out⟩
set_option maxRecDepth 100000 in
set_option maxHeartbeats 4000000 in
theorem sph_bin (e : Nat → Int) (s : ByteArray) (a n1 n2 : Nat) (va vb : Bool) (w : World) (hs : s.size ≤ 1000000) (ha : a < s.size) (r : Bool) (hr : (if s[a] = 38 then va && vb else va || vb) = r) (hc : s[a] = 38 ∨ s[a] = 124)
  (c1 : ∀ w, Calls Tryz.prog 211 #[.string s, .int .i64 (a + 1), envV e] w fun e' w' => e' = .returned (.tuple #[.bool va, .int .i64 n1]) ∧ Below w.heap.size w w')
  (c2 : ∀ w, Calls Tryz.prog 211 #[.string s, .int .i64 n1, envV e] w fun e' w' => e' = .returned (.tuple #[.bool vb, .int .i64 n2]) ∧ Below w.heap.size w w') :
  Calls Tryz.prog 211 #[.string s, .int .i64 a, envV e] w fun e' w' => e' = .returned (.tuple #[.bool r, .int .i64 n2]) ∧ Below w.heap.size w w' := by
 have h0 : (0 : Int) ≤ (a : Int) := by omega
 have h1 : (a : Int) < (s.size : Int) := by omega
 have C1 := Lib.hid c1
 have C2 := Lib.hid c2
 have HR := Lib.hid hr
 clear c1 c2 hr
 unfold envV at *
 rcases hc with hc | hc
 ·have hcn : s[a].toNat = 38 := by rw [hc]; rfl
  have hcc : Hid (s[a] = 38) := hc
  clear hc
  have V : Hid ((va && vb) = r) := by rw [← HR.out, hcc.out]; rfl
  cases va <;> cases vb
  all_goals
   go_enter Tryz.func211, Tryz.ntmps211
   go_wp2_with fail
   have bx := Box6.new w e
   have hB := (Below.refl w.heap.size w).alloc (Nat.le_refl _) (.cells #[.int .i64 (e 0), .int .i64 (e 1), .int .i64 (e 2), .int .i64 (e 3), .int .i64 (e 4), .int .i64 (e 5)] 233)
   generalize w.alloc (.cells #[.int .i64 (e 0), .int .i64 (e 1), .int .i64 (e 2), .int .i64 (e 3), .int .i64 (e 4), .int .i64 (e 5)] 233) = w0 at *
   refine (C1.out _).mono ?_
   rintro e' w1 ⟨rfl, hq⟩
   have q0 := cell_keep hq (bx 0 (by omega)); have q1 := cell_keep hq (bx 1 (by omega)); have q2 := cell_keep hq (bx 2 (by omega))
   have q3 := cell_keep hq (bx 3 (by omega)); have q4 := cell_keep hq (bx 4 (by omega)); have q5 := cell_keep hq (bx 5 (by omega))
   have HB := Lib.hid (hB.trans (hq.mono hB.size))
   clear hq hB bx
   go_wp2_with fail
   refine (C2.out _).mono ?_
   rintro e' w2 ⟨rfl, hq⟩
   have HB2 := Lib.hid (HB.out.trans (hq.mono HB.out.size))
   clear hq q0 q1 q2 q3 q4 q5
   go_wp2_with fail
   go_ret2
   exact ⟨by rw [← V.out]; rfl, HB2.out⟩
 ·have hcn : s[a].toNat = 124 := by rw [hc]; rfl
  have hcc : Hid (s[a] = 124) := hc
  clear hc
  have V : Hid ((va || vb) = r) := by rw [← HR.out, hcc.out]; rfl
  cases va <;> cases vb
  all_goals
   go_enter Tryz.func211, Tryz.ntmps211
   go_wp2_with fail
   have bx := Box6.new w e
   have hB := (Below.refl w.heap.size w).alloc (Nat.le_refl _) (.cells #[.int .i64 (e 0), .int .i64 (e 1), .int .i64 (e 2), .int .i64 (e 3), .int .i64 (e 4), .int .i64 (e 5)] 233)
   generalize w.alloc (.cells #[.int .i64 (e 0), .int .i64 (e 1), .int .i64 (e 2), .int .i64 (e 3), .int .i64 (e 4), .int .i64 (e 5)] 233) = w0 at *
   refine (C1.out _).mono ?_
   rintro e' w1 ⟨rfl, hq⟩
   have q0 := cell_keep hq (bx 0 (by omega)); have q1 := cell_keep hq (bx 1 (by omega)); have q2 := cell_keep hq (bx 2 (by omega))
   have q3 := cell_keep hq (bx 3 (by omega)); have q4 := cell_keep hq (bx 4 (by omega)); have q5 := cell_keep hq (bx 5 (by omega))
   have HB := Lib.hid (hB.trans (hq.mono hB.size))
   clear hq hB bx
   go_wp2_with fail
   refine (C2.out _).mono ?_
   rintro e' w2 ⟨rfl, hq⟩
   have HB2 := Lib.hid (HB.out.trans (hq.mono HB.out.size))
   clear hq q0 q1 q2 q3 q4 q5
   go_wp2_with fail
   go_ret2
   exact ⟨by rw [← V.out]; rfl, HB2.out⟩
set_option maxRecDepth 100000 in
set_option maxHeartbeats 4000000 in
theorem sph_not (e : Nat → Int) (s : ByteArray) (a n1 : Nat) (va : Bool) (w : World) (hs : s.size ≤ 1000000) (ha : a < s.size) (hc : s[a] = 33)
  (c1 : ∀ w, Calls Tryz.prog 211 #[.string s, .int .i64 (a + 1), envV e] w fun e' w' => e' = .returned (.tuple #[.bool va, .int .i64 n1]) ∧ Below w.heap.size w w') :
  Calls Tryz.prog 211 #[.string s, .int .i64 a, envV e] w fun e' w' => e' = .returned (.tuple #[.bool (!va), .int .i64 n1]) ∧ Below w.heap.size w w' := by
 have h0 : (0 : Int) ≤ (a : Int) := by omega
 have h1 : (a : Int) < (s.size : Int) := by omega
 have C1 := Lib.hid c1
 clear c1
 unfold envV at *
 ·have hcn : s[a].toNat = 33 := by rw [hc]; rfl
  clear hc
  go_enter Tryz.func211, Tryz.ntmps211
  go_wp2_with fail
  have bx := Box6.new w e
  have hB := (Below.refl w.heap.size w).alloc (Nat.le_refl _) (.cells #[.int .i64 (e 0), .int .i64 (e 1), .int .i64 (e 2), .int .i64 (e 3), .int .i64 (e 4), .int .i64 (e 5)] 233)
  generalize w.alloc (.cells #[.int .i64 (e 0), .int .i64 (e 1), .int .i64 (e 2), .int .i64 (e 3), .int .i64 (e 4), .int .i64 (e 5)] 233) = w0 at *
  refine (C1.out _).mono ?_
  rintro e' w1 ⟨rfl, hq⟩
  have HB := Lib.hid (hB.trans (hq.mono hB.size))
  clear hq hB bx
  go_wp2_with fail
  go_ret2
  exact ⟨rfl, HB.out⟩
theorem sph_any (e : Nat → Int) (he : ∀ i, 0 ≤ e i ∧ e i ≤ 2) (s : ByteArray) (hs : s.size ≤ 1000000) : ∀ (t : Tm) (a : Nat) (r : List UInt8) (w : World), Ok true true t → s.data.toList.drop a = t.ser ++ r →
  Calls Tryz.prog 211 #[.string s, .int .i64 a, envV e] w fun e' w' => e' = .returned (.tuple #[.bool (tru e t), .int .i64 ((a + t.ser.length : Nat) : Int)]) ∧ Below w.heap.size w w' := by
 intro t
 induction t with
 | leaf c =>
  intro a r w ht hd
  rcases ok_test ht with ⟨c', e1, hc⟩ | ⟨_, e1, _⟩ | ⟨_, _, _, e1, _⟩ | ⟨_, _, _, e1, _⟩
  ·cases e1
   obtain ⟨hl, rfl⟩ := byte_at hd
   exact sph_leaf e s a w hs hl hc
  ·cases e1
  ·cases e1
  ·cases e1
 | un c x ihx =>
  intro a r w ht hd
  rcases ok_test ht with ⟨c', e1, hc⟩ | ⟨_, e1, oa⟩ | ⟨_, _, _, e1, _⟩ | ⟨_, _, _, e1, _⟩
  ·cases e1
  ·cases e1
   have hd0 : s.data.toList.drop a = 33 :: (x.ser ++ r) := by rw [hd]; simp [ser]
   obtain ⟨hl, hc⟩ := byte_at hd0
   have hd1 : s.data.toList.drop (a + 1) = x.ser ++ r := drop_next hd0
   have e2 : a + (Tm.un 33 x).ser.length = a + 1 + x.ser.length := by simp [ser]; omega
   rw [e2]
   exact sph_not e s a (a + 1 + x.ser.length) _ w hs hl hc (fun w => ihx (a + 1) _ w oa hd1)
  ·cases e1
  ·cases e1
 | bin c x y ihx ihy =>
  intro a r w ht hd
  have hd0 : s.data.toList.drop a = c :: (x.ser ++ (y.ser ++ r)) := by rw [hd]; simp [ser]
  obtain ⟨hl, rfl⟩ := byte_at hd0
  have hd1 : s.data.toList.drop (a + 1) = x.ser ++ (y.ser ++ r) := drop_next hd0
  have hd2 : s.data.toList.drop (a + 1 + x.ser.length) = y.ser ++ r := by rw [← List.drop_drop, hd1, List.drop_left' rfl]
  have e2 : a + (Tm.bin s[a] x y).ser.length = a + 1 + x.ser.length + y.ser.length := by simp [ser]; omega
  rw [e2]
  rcases ok_test ht with ⟨c', e1, hc⟩ | ⟨_, e1, oa⟩ | ⟨c', x', y', e1, hc, ox, oy⟩ | ⟨c', x', y', e1, hc, ox, oy⟩
  ·cases e1
  ·cases e1
  ·injection e1 with e3 e4 e5
   subst e4 e5
   rw [← e3] at hc
   have e6 : tru e (.bin s[a] x y) = if s[a] = 61 then val e x == val e y else decide (val e x < val e y) := by
    rcases hc with h | h <;> rw [h] <;> rfl
   rw [e6]
   exact sph_cmp e s a (a + 1 + x.ser.length) (a + 1 + x.ser.length + y.ser.length) (val e x) (val e y) w hs hl _ rfl hc (fun w => spv_any e he s hs x (a + 1) _ w ox hd1) (fun w => spv_any e he s hs y _ _ w oy hd2)
  ·injection e1 with e3 e4 e5
   subst e4 e5
   rw [← e3] at hc
   have e6 : tru e (.bin s[a] x y) = if s[a] = 38 then tru e x && tru e y else tru e x || tru e y := by
    rcases hc with h | h <;> rw [h] <;> rfl
   rw [e6]
   exact sph_bin e s a (a + 1 + x.ser.length) (a + 1 + x.ser.length + y.ser.length) (tru e x) (tru e y) w hs hl _ rfl hc (fun w => ihx (a + 1) _ w ox hd1) (fun w => ihy _ _ w oy hd2)
def env (i : Nat) : Nat → Int := one (ax i) (ay i) (az i)
def tst (t : Tm) (i : Nat) : Bool := tru (env i) t
end Go.Proofs.YtgkoljphndgoeaaGreatDoor
