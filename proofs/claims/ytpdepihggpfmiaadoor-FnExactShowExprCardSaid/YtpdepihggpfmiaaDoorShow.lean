/-
  (impl.term).show on a tree in memory: the usual form.
-/
import Derived.Test.YtpdepihggpfmiaaDoorHolds
import Derived.Test.YtpdepihggpfmiaaDoorBytes
namespace Go.Proofs.YtpdepihggpfmiaaDoor
open Go.RowKit Tm

/-- The usual form of an expression or a test. -/
def shw : Tm → List UInt8
  | .leaf c => if c = 116 then [116, 114, 117, 101] else if c = 102 then [102, 97, 108, 115, 101] else [c]
  | .un _ a => [33, 40] ++ shw a ++ [41]
  | .bin c a b => if c = 61 ∨ c = 60 then shw a ++ [c] ++ shw b else [40] ++ shw a ++ [c] ++ shw b ++ [41]


set_option maxHeartbeats 4000000 in
theorem show_leaf (c : UInt8) (w : World) (hc : c = 120 ∨ c = 121 ∨ c = 122 ∨ c = 48 ∨ c = 49 ∨ c = 50 ∨ c = 116 ∨ c = 102 ∨ c = 88 ∨ c = 89 ∨ c = 90) (a : Option Addr) (n : Nat) :
    Calls Tryd.prog 65 #[.agg #[.int .u8 c.toNat, .slice a 0 n]] w fun e w' => e = .returned (.string (bs (shw (.leaf c)))) ∧ Below w.heap.size w w' := by
  rcases hc with rfl | rfl | rfl | rfl | rfl | rfl | rfl | rfl | rfl | rfl | rfl
  all_goals
    go_enter Tryd.func65, Tryd.ntmps65
    go_wp2_with fail
    go_ret
    exact ⟨rfl, (Below.refl _ _).alloc (Nat.le_refl _) _⟩

set_option maxRecDepth 100000 in
set_option maxHeartbeats 8000000 in
theorem show_cmp (c : UInt8) (w : World) (hc : c = 61 ∨ c = 60) (b n : Nat) (x1 x2 : Int) (p1 p2 : Option Addr) (m1 m2 n1 n2 : Nat) (s1 s2 : ByteArray) (h1 : s1.size ≤ 1000000) (h2 : s2.size ≤ 1000000) (r : ByteArray) (hr : s1 ++ bs [c] ++ s2 = r)
    (k0 : w.cell? ⟨b, 0, none⟩ = some (.int .u8 x1)) (k1 : w.cell? ⟨b, 1, none⟩ = some (.slice p1 m1 n1)) (k2 : w.cell? ⟨b, 2, none⟩ = some (.int .u8 x2)) (k3 : w.cell? ⟨b, 3, none⟩ = some (.slice p2 m2 n2))
    (c1 : ∀ w', Below w.heap.size w w' → Calls Tryd.prog 65 #[.agg #[.int .u8 x1, .slice p1 m1 n1]] w' fun e w2 => e = .returned (.string s1) ∧ Below w'.heap.size w' w2)
    (c2 : ∀ w', Below w.heap.size w w' → Calls Tryd.prog 65 #[.agg #[.int .u8 x2, .slice p2 m2 n2]] w' fun e w2 => e = .returned (.string s2) ∧ Below w'.heap.size w' w2) :
    Calls Tryd.prog 65 #[.agg #[.int .u8 c.toNat, .slice (some ⟨b, 0, none⟩) 2 n]] w fun e w' => e = .returned (.string r) ∧ Below w.heap.size w w' := by
  have C1 := Lib.hid c1
  have C2 := Lib.hid c2
  have HR := Lib.hid hr
  have hlt := cell_lt k0
  clear c1 c2 hr
  rcases hc with rfl | rfl
  · skip
    have e1 : (Utf8.encode 61).size ≤ 4 := by decide
    have e2 : (ByteArray.mk #[40]).size ≤ 1 := by decide
    have e3 : (ByteArray.mk #[41]).size ≤ 1 := by decide
    have e4 : (ByteArray.mk #[33, 40]).size ≤ 2 := by decide
    have f0 : ¬ (9223372036854775807 < s1.size + (Utf8.encode 61).size) := by omega
    have f1 : ¬ (9223372036854775807 < s1.size + (Utf8.encode 61).size + s2.size) := by omega
    have t0 := heap_at_new (w := w) (o := .cells #[.int .u8 61, .slice (some ⟨b, 0, none⟩) 2 n] 40) rfl
    have hB := (Below.refl w.heap.size w).alloc (Nat.le_refl _) (.cells #[.int .u8 61, .slice (some ⟨b, 0, none⟩) 2 n] 40)
    go_enter Tryd.func65, Tryd.ntmps65
    go_wp2_with fail
    generalize w.alloc (.cells #[.int .u8 61, .slice (some ⟨b, 0, none⟩) 2 n] 40) = W0 at *
    have q0 : W0.cell? ⟨w.heap.size, 0, none⟩ = some (.int .u8 61) := by rw [cell_of_row W0 _ 0 _ _ (0, 0) t0]; rfl
    have q1 : W0.cell? ⟨w.heap.size, 1, none⟩ = some (.slice (some ⟨b, 0, none⟩) 2 n) := by rw [cell_of_row W0 _ 1 _ _ (0, 0) t0]; rfl
    have j0 := cell_keep hB k0
    have j1 := cell_keep hB k1
    have j2 := cell_keep hB k2
    have j3 := cell_keep hB k3
    have hB' := hB.drew
    clear k0 k1 k2 k3 t0
    go_region_held3 (fun w' => Below w.heap.size w w' ∧ w'.cell? ⟨w.heap.size, 0, none⟩ = some (.int .u8 61) ∧ w'.cell? ⟨w.heap.size, 1, none⟩ = some (.slice (some ⟨b, 0, none⟩) 2 n) ∧
        w'.cell? ⟨b, 0, none⟩ = some (.int .u8 x1) ∧ w'.cell? ⟨b, 1, none⟩ = some (.slice p1 m1 n1) ∧ w'.cell? ⟨b, 2, none⟩ = some (.int .u8 x2) ∧ w'.cell? ⟨b, 3, none⟩ = some (.slice p2 m2 n2))
      ((go_split_ands; refine ⟨?_, ?_, ?_, ?_, ?_, ?_, ?_⟩ <;> first | assumption | exact cell_keep hq (by assumption) | exact Below.trans (by assumption) (hq.mono (by have := Below.size (by assumption : Below w.heap.size w _); omega))))
      (first | (go_at_call 65; (first | (with_reducible refine (C1.out _ ?_).mono ?_) | (with_reducible refine (C2.out _ ?_).mono ?_)); (go_split_ands; assumption); rintro e w2 ⟨rfl, hq⟩))
    go_wp2_with fail
    go_split_ands
    go_ret
    exact ⟨by rw [← HR.out]; rfl, by assumption⟩
  · skip
    have e1 : (Utf8.encode 60).size ≤ 4 := by decide
    have e2 : (ByteArray.mk #[40]).size ≤ 1 := by decide
    have e3 : (ByteArray.mk #[41]).size ≤ 1 := by decide
    have e4 : (ByteArray.mk #[33, 40]).size ≤ 2 := by decide
    have f0 : ¬ (9223372036854775807 < s1.size + (Utf8.encode 60).size) := by omega
    have f1 : ¬ (9223372036854775807 < s1.size + (Utf8.encode 60).size + s2.size) := by omega
    have t0 := heap_at_new (w := w) (o := .cells #[.int .u8 60, .slice (some ⟨b, 0, none⟩) 2 n] 40) rfl
    have hB := (Below.refl w.heap.size w).alloc (Nat.le_refl _) (.cells #[.int .u8 60, .slice (some ⟨b, 0, none⟩) 2 n] 40)
    go_enter Tryd.func65, Tryd.ntmps65
    go_wp2_with fail
    generalize w.alloc (.cells #[.int .u8 60, .slice (some ⟨b, 0, none⟩) 2 n] 40) = W0 at *
    have q0 : W0.cell? ⟨w.heap.size, 0, none⟩ = some (.int .u8 60) := by rw [cell_of_row W0 _ 0 _ _ (0, 0) t0]; rfl
    have q1 : W0.cell? ⟨w.heap.size, 1, none⟩ = some (.slice (some ⟨b, 0, none⟩) 2 n) := by rw [cell_of_row W0 _ 1 _ _ (0, 0) t0]; rfl
    have j0 := cell_keep hB k0
    have j1 := cell_keep hB k1
    have j2 := cell_keep hB k2
    have j3 := cell_keep hB k3
    have hB' := hB.drew
    clear k0 k1 k2 k3 t0
    go_region_held3 (fun w' => Below w.heap.size w w' ∧ w'.cell? ⟨w.heap.size, 0, none⟩ = some (.int .u8 60) ∧ w'.cell? ⟨w.heap.size, 1, none⟩ = some (.slice (some ⟨b, 0, none⟩) 2 n) ∧
        w'.cell? ⟨b, 0, none⟩ = some (.int .u8 x1) ∧ w'.cell? ⟨b, 1, none⟩ = some (.slice p1 m1 n1) ∧ w'.cell? ⟨b, 2, none⟩ = some (.int .u8 x2) ∧ w'.cell? ⟨b, 3, none⟩ = some (.slice p2 m2 n2))
      ((go_split_ands; refine ⟨?_, ?_, ?_, ?_, ?_, ?_, ?_⟩ <;> first | assumption | exact cell_keep hq (by assumption) | exact Below.trans (by assumption) (hq.mono (by have := Below.size (by assumption : Below w.heap.size w _); omega))))
      (first | (go_at_call 65; (first | (with_reducible refine (C1.out _ ?_).mono ?_) | (with_reducible refine (C2.out _ ?_).mono ?_)); (go_split_ands; assumption); rintro e w2 ⟨rfl, hq⟩))
    go_wp2_with fail
    go_split_ands
    go_ret
    exact ⟨by rw [← HR.out]; rfl, by assumption⟩

set_option maxRecDepth 100000 in
set_option maxHeartbeats 8000000 in
theorem show_bin (c : UInt8) (w : World) (hc : c = 43 ∨ c = 45 ∨ c = 42 ∨ c = 38 ∨ c = 124) (b n : Nat) (x1 x2 : Int) (p1 p2 : Option Addr) (m1 m2 n1 n2 : Nat) (s1 s2 : ByteArray) (h1 : s1.size ≤ 1000000) (h2 : s2.size ≤ 1000000) (r : ByteArray) (hr : bs [40] ++ s1 ++ bs [c] ++ s2 ++ bs [41] = r)
    (k0 : w.cell? ⟨b, 0, none⟩ = some (.int .u8 x1)) (k1 : w.cell? ⟨b, 1, none⟩ = some (.slice p1 m1 n1)) (k2 : w.cell? ⟨b, 2, none⟩ = some (.int .u8 x2)) (k3 : w.cell? ⟨b, 3, none⟩ = some (.slice p2 m2 n2))
    (c1 : ∀ w', Below w.heap.size w w' → Calls Tryd.prog 65 #[.agg #[.int .u8 x1, .slice p1 m1 n1]] w' fun e w2 => e = .returned (.string s1) ∧ Below w'.heap.size w' w2)
    (c2 : ∀ w', Below w.heap.size w w' → Calls Tryd.prog 65 #[.agg #[.int .u8 x2, .slice p2 m2 n2]] w' fun e w2 => e = .returned (.string s2) ∧ Below w'.heap.size w' w2) :
    Calls Tryd.prog 65 #[.agg #[.int .u8 c.toNat, .slice (some ⟨b, 0, none⟩) 2 n]] w fun e w' => e = .returned (.string r) ∧ Below w.heap.size w w' := by
  have C1 := Lib.hid c1
  have C2 := Lib.hid c2
  have HR := Lib.hid hr
  have hlt := cell_lt k0
  clear c1 c2 hr
  rcases hc with rfl | rfl | rfl | rfl | rfl
  · skip
    have e1 : (Utf8.encode 43).size ≤ 4 := by decide
    have e2 : (ByteArray.mk #[40]).size ≤ 1 := by decide
    have e3 : (ByteArray.mk #[41]).size ≤ 1 := by decide
    have e4 : (ByteArray.mk #[33, 40]).size ≤ 2 := by decide
    have f0 : ¬ (9223372036854775807 < 1 + s1.size) := by omega
    have f1 : ¬ (9223372036854775807 < 1 + s1.size + (Utf8.encode 43).size) := by omega
    have f2 : ¬ (9223372036854775807 < 1 + s1.size + (Utf8.encode 43).size + s2.size) := by omega
    have f3 : ¬ (9223372036854775807 < 1 + s1.size + (Utf8.encode 43).size + s2.size + 1) := by omega
    have t0 := heap_at_new (w := w) (o := .cells #[.int .u8 43, .slice (some ⟨b, 0, none⟩) 2 n] 40) rfl
    have hB := (Below.refl w.heap.size w).alloc (Nat.le_refl _) (.cells #[.int .u8 43, .slice (some ⟨b, 0, none⟩) 2 n] 40)
    go_enter Tryd.func65, Tryd.ntmps65
    go_wp2_with fail
    generalize w.alloc (.cells #[.int .u8 43, .slice (some ⟨b, 0, none⟩) 2 n] 40) = W0 at *
    have q0 : W0.cell? ⟨w.heap.size, 0, none⟩ = some (.int .u8 43) := by rw [cell_of_row W0 _ 0 _ _ (0, 0) t0]; rfl
    have q1 : W0.cell? ⟨w.heap.size, 1, none⟩ = some (.slice (some ⟨b, 0, none⟩) 2 n) := by rw [cell_of_row W0 _ 1 _ _ (0, 0) t0]; rfl
    have j0 := cell_keep hB k0
    have j1 := cell_keep hB k1
    have j2 := cell_keep hB k2
    have j3 := cell_keep hB k3
    have hB' := hB.drew
    clear k0 k1 k2 k3 t0
    go_region_held3 (fun w' => Below w.heap.size w w' ∧ w'.cell? ⟨w.heap.size, 0, none⟩ = some (.int .u8 43) ∧ w'.cell? ⟨w.heap.size, 1, none⟩ = some (.slice (some ⟨b, 0, none⟩) 2 n) ∧
        w'.cell? ⟨b, 0, none⟩ = some (.int .u8 x1) ∧ w'.cell? ⟨b, 1, none⟩ = some (.slice p1 m1 n1) ∧ w'.cell? ⟨b, 2, none⟩ = some (.int .u8 x2) ∧ w'.cell? ⟨b, 3, none⟩ = some (.slice p2 m2 n2))
      ((go_split_ands; refine ⟨?_, ?_, ?_, ?_, ?_, ?_, ?_⟩ <;> first | assumption | exact cell_keep hq (by assumption) | exact Below.trans (by assumption) (hq.mono (by have := Below.size (by assumption : Below w.heap.size w _); omega))))
      (first | (go_at_call 65; (first | (with_reducible refine (C1.out _ ?_).mono ?_) | (with_reducible refine (C2.out _ ?_).mono ?_)); (go_split_ands; assumption); rintro e w2 ⟨rfl, hq⟩))
    go_wp2_with fail
    go_split_ands
    go_ret
    exact ⟨by rw [← HR.out]; rfl, by assumption⟩
  · skip
    have e1 : (Utf8.encode 45).size ≤ 4 := by decide
    have e2 : (ByteArray.mk #[40]).size ≤ 1 := by decide
    have e3 : (ByteArray.mk #[41]).size ≤ 1 := by decide
    have e4 : (ByteArray.mk #[33, 40]).size ≤ 2 := by decide
    have f0 : ¬ (9223372036854775807 < 1 + s1.size) := by omega
    have f1 : ¬ (9223372036854775807 < 1 + s1.size + (Utf8.encode 45).size) := by omega
    have f2 : ¬ (9223372036854775807 < 1 + s1.size + (Utf8.encode 45).size + s2.size) := by omega
    have f3 : ¬ (9223372036854775807 < 1 + s1.size + (Utf8.encode 45).size + s2.size + 1) := by omega
    have t0 := heap_at_new (w := w) (o := .cells #[.int .u8 45, .slice (some ⟨b, 0, none⟩) 2 n] 40) rfl
    have hB := (Below.refl w.heap.size w).alloc (Nat.le_refl _) (.cells #[.int .u8 45, .slice (some ⟨b, 0, none⟩) 2 n] 40)
    go_enter Tryd.func65, Tryd.ntmps65
    go_wp2_with fail
    generalize w.alloc (.cells #[.int .u8 45, .slice (some ⟨b, 0, none⟩) 2 n] 40) = W0 at *
    have q0 : W0.cell? ⟨w.heap.size, 0, none⟩ = some (.int .u8 45) := by rw [cell_of_row W0 _ 0 _ _ (0, 0) t0]; rfl
    have q1 : W0.cell? ⟨w.heap.size, 1, none⟩ = some (.slice (some ⟨b, 0, none⟩) 2 n) := by rw [cell_of_row W0 _ 1 _ _ (0, 0) t0]; rfl
    have j0 := cell_keep hB k0
    have j1 := cell_keep hB k1
    have j2 := cell_keep hB k2
    have j3 := cell_keep hB k3
    have hB' := hB.drew
    clear k0 k1 k2 k3 t0
    go_region_held3 (fun w' => Below w.heap.size w w' ∧ w'.cell? ⟨w.heap.size, 0, none⟩ = some (.int .u8 45) ∧ w'.cell? ⟨w.heap.size, 1, none⟩ = some (.slice (some ⟨b, 0, none⟩) 2 n) ∧
        w'.cell? ⟨b, 0, none⟩ = some (.int .u8 x1) ∧ w'.cell? ⟨b, 1, none⟩ = some (.slice p1 m1 n1) ∧ w'.cell? ⟨b, 2, none⟩ = some (.int .u8 x2) ∧ w'.cell? ⟨b, 3, none⟩ = some (.slice p2 m2 n2))
      ((go_split_ands; refine ⟨?_, ?_, ?_, ?_, ?_, ?_, ?_⟩ <;> first | assumption | exact cell_keep hq (by assumption) | exact Below.trans (by assumption) (hq.mono (by have := Below.size (by assumption : Below w.heap.size w _); omega))))
      (first | (go_at_call 65; (first | (with_reducible refine (C1.out _ ?_).mono ?_) | (with_reducible refine (C2.out _ ?_).mono ?_)); (go_split_ands; assumption); rintro e w2 ⟨rfl, hq⟩))
    go_wp2_with fail
    go_split_ands
    go_ret
    exact ⟨by rw [← HR.out]; rfl, by assumption⟩
  · skip
    have e1 : (Utf8.encode 42).size ≤ 4 := by decide
    have e2 : (ByteArray.mk #[40]).size ≤ 1 := by decide
    have e3 : (ByteArray.mk #[41]).size ≤ 1 := by decide
    have e4 : (ByteArray.mk #[33, 40]).size ≤ 2 := by decide
    have f0 : ¬ (9223372036854775807 < 1 + s1.size) := by omega
    have f1 : ¬ (9223372036854775807 < 1 + s1.size + (Utf8.encode 42).size) := by omega
    have f2 : ¬ (9223372036854775807 < 1 + s1.size + (Utf8.encode 42).size + s2.size) := by omega
    have f3 : ¬ (9223372036854775807 < 1 + s1.size + (Utf8.encode 42).size + s2.size + 1) := by omega
    have t0 := heap_at_new (w := w) (o := .cells #[.int .u8 42, .slice (some ⟨b, 0, none⟩) 2 n] 40) rfl
    have hB := (Below.refl w.heap.size w).alloc (Nat.le_refl _) (.cells #[.int .u8 42, .slice (some ⟨b, 0, none⟩) 2 n] 40)
    go_enter Tryd.func65, Tryd.ntmps65
    go_wp2_with fail
    generalize w.alloc (.cells #[.int .u8 42, .slice (some ⟨b, 0, none⟩) 2 n] 40) = W0 at *
    have q0 : W0.cell? ⟨w.heap.size, 0, none⟩ = some (.int .u8 42) := by rw [cell_of_row W0 _ 0 _ _ (0, 0) t0]; rfl
    have q1 : W0.cell? ⟨w.heap.size, 1, none⟩ = some (.slice (some ⟨b, 0, none⟩) 2 n) := by rw [cell_of_row W0 _ 1 _ _ (0, 0) t0]; rfl
    have j0 := cell_keep hB k0
    have j1 := cell_keep hB k1
    have j2 := cell_keep hB k2
    have j3 := cell_keep hB k3
    have hB' := hB.drew
    clear k0 k1 k2 k3 t0
    go_region_held3 (fun w' => Below w.heap.size w w' ∧ w'.cell? ⟨w.heap.size, 0, none⟩ = some (.int .u8 42) ∧ w'.cell? ⟨w.heap.size, 1, none⟩ = some (.slice (some ⟨b, 0, none⟩) 2 n) ∧
        w'.cell? ⟨b, 0, none⟩ = some (.int .u8 x1) ∧ w'.cell? ⟨b, 1, none⟩ = some (.slice p1 m1 n1) ∧ w'.cell? ⟨b, 2, none⟩ = some (.int .u8 x2) ∧ w'.cell? ⟨b, 3, none⟩ = some (.slice p2 m2 n2))
      ((go_split_ands; refine ⟨?_, ?_, ?_, ?_, ?_, ?_, ?_⟩ <;> first | assumption | exact cell_keep hq (by assumption) | exact Below.trans (by assumption) (hq.mono (by have := Below.size (by assumption : Below w.heap.size w _); omega))))
      (first | (go_at_call 65; (first | (with_reducible refine (C1.out _ ?_).mono ?_) | (with_reducible refine (C2.out _ ?_).mono ?_)); (go_split_ands; assumption); rintro e w2 ⟨rfl, hq⟩))
    go_wp2_with fail
    go_split_ands
    go_ret
    exact ⟨by rw [← HR.out]; rfl, by assumption⟩
  · skip
    have e1 : (Utf8.encode 38).size ≤ 4 := by decide
    have e2 : (ByteArray.mk #[40]).size ≤ 1 := by decide
    have e3 : (ByteArray.mk #[41]).size ≤ 1 := by decide
    have e4 : (ByteArray.mk #[33, 40]).size ≤ 2 := by decide
    have f0 : ¬ (9223372036854775807 < 1 + s1.size) := by omega
    have f1 : ¬ (9223372036854775807 < 1 + s1.size + (Utf8.encode 38).size) := by omega
    have f2 : ¬ (9223372036854775807 < 1 + s1.size + (Utf8.encode 38).size + s2.size) := by omega
    have f3 : ¬ (9223372036854775807 < 1 + s1.size + (Utf8.encode 38).size + s2.size + 1) := by omega
    have t0 := heap_at_new (w := w) (o := .cells #[.int .u8 38, .slice (some ⟨b, 0, none⟩) 2 n] 40) rfl
    have hB := (Below.refl w.heap.size w).alloc (Nat.le_refl _) (.cells #[.int .u8 38, .slice (some ⟨b, 0, none⟩) 2 n] 40)
    go_enter Tryd.func65, Tryd.ntmps65
    go_wp2_with fail
    generalize w.alloc (.cells #[.int .u8 38, .slice (some ⟨b, 0, none⟩) 2 n] 40) = W0 at *
    have q0 : W0.cell? ⟨w.heap.size, 0, none⟩ = some (.int .u8 38) := by rw [cell_of_row W0 _ 0 _ _ (0, 0) t0]; rfl
    have q1 : W0.cell? ⟨w.heap.size, 1, none⟩ = some (.slice (some ⟨b, 0, none⟩) 2 n) := by rw [cell_of_row W0 _ 1 _ _ (0, 0) t0]; rfl
    have j0 := cell_keep hB k0
    have j1 := cell_keep hB k1
    have j2 := cell_keep hB k2
    have j3 := cell_keep hB k3
    have hB' := hB.drew
    clear k0 k1 k2 k3 t0
    go_region_held3 (fun w' => Below w.heap.size w w' ∧ w'.cell? ⟨w.heap.size, 0, none⟩ = some (.int .u8 38) ∧ w'.cell? ⟨w.heap.size, 1, none⟩ = some (.slice (some ⟨b, 0, none⟩) 2 n) ∧
        w'.cell? ⟨b, 0, none⟩ = some (.int .u8 x1) ∧ w'.cell? ⟨b, 1, none⟩ = some (.slice p1 m1 n1) ∧ w'.cell? ⟨b, 2, none⟩ = some (.int .u8 x2) ∧ w'.cell? ⟨b, 3, none⟩ = some (.slice p2 m2 n2))
      ((go_split_ands; refine ⟨?_, ?_, ?_, ?_, ?_, ?_, ?_⟩ <;> first | assumption | exact cell_keep hq (by assumption) | exact Below.trans (by assumption) (hq.mono (by have := Below.size (by assumption : Below w.heap.size w _); omega))))
      (first | (go_at_call 65; (first | (with_reducible refine (C1.out _ ?_).mono ?_) | (with_reducible refine (C2.out _ ?_).mono ?_)); (go_split_ands; assumption); rintro e w2 ⟨rfl, hq⟩))
    go_wp2_with fail
    go_split_ands
    go_ret
    exact ⟨by rw [← HR.out]; rfl, by assumption⟩
  · skip
    have e1 : (Utf8.encode 124).size ≤ 4 := by decide
    have e2 : (ByteArray.mk #[40]).size ≤ 1 := by decide
    have e3 : (ByteArray.mk #[41]).size ≤ 1 := by decide
    have e4 : (ByteArray.mk #[33, 40]).size ≤ 2 := by decide
    have f0 : ¬ (9223372036854775807 < 1 + s1.size) := by omega
    have f1 : ¬ (9223372036854775807 < 1 + s1.size + (Utf8.encode 124).size) := by omega
    have f2 : ¬ (9223372036854775807 < 1 + s1.size + (Utf8.encode 124).size + s2.size) := by omega
    have f3 : ¬ (9223372036854775807 < 1 + s1.size + (Utf8.encode 124).size + s2.size + 1) := by omega
    have t0 := heap_at_new (w := w) (o := .cells #[.int .u8 124, .slice (some ⟨b, 0, none⟩) 2 n] 40) rfl
    have hB := (Below.refl w.heap.size w).alloc (Nat.le_refl _) (.cells #[.int .u8 124, .slice (some ⟨b, 0, none⟩) 2 n] 40)
    go_enter Tryd.func65, Tryd.ntmps65
    go_wp2_with fail
    generalize w.alloc (.cells #[.int .u8 124, .slice (some ⟨b, 0, none⟩) 2 n] 40) = W0 at *
    have q0 : W0.cell? ⟨w.heap.size, 0, none⟩ = some (.int .u8 124) := by rw [cell_of_row W0 _ 0 _ _ (0, 0) t0]; rfl
    have q1 : W0.cell? ⟨w.heap.size, 1, none⟩ = some (.slice (some ⟨b, 0, none⟩) 2 n) := by rw [cell_of_row W0 _ 1 _ _ (0, 0) t0]; rfl
    have j0 := cell_keep hB k0
    have j1 := cell_keep hB k1
    have j2 := cell_keep hB k2
    have j3 := cell_keep hB k3
    have hB' := hB.drew
    clear k0 k1 k2 k3 t0
    go_region_held3 (fun w' => Below w.heap.size w w' ∧ w'.cell? ⟨w.heap.size, 0, none⟩ = some (.int .u8 124) ∧ w'.cell? ⟨w.heap.size, 1, none⟩ = some (.slice (some ⟨b, 0, none⟩) 2 n) ∧
        w'.cell? ⟨b, 0, none⟩ = some (.int .u8 x1) ∧ w'.cell? ⟨b, 1, none⟩ = some (.slice p1 m1 n1) ∧ w'.cell? ⟨b, 2, none⟩ = some (.int .u8 x2) ∧ w'.cell? ⟨b, 3, none⟩ = some (.slice p2 m2 n2))
      ((go_split_ands; refine ⟨?_, ?_, ?_, ?_, ?_, ?_, ?_⟩ <;> first | assumption | exact cell_keep hq (by assumption) | exact Below.trans (by assumption) (hq.mono (by have := Below.size (by assumption : Below w.heap.size w _); omega))))
      (first | (go_at_call 65; (first | (with_reducible refine (C1.out _ ?_).mono ?_) | (with_reducible refine (C2.out _ ?_).mono ?_)); (go_split_ands; assumption); rintro e w2 ⟨rfl, hq⟩))
    go_wp2_with fail
    go_split_ands
    go_ret
    exact ⟨by rw [← HR.out]; rfl, by assumption⟩

set_option maxRecDepth 100000 in
set_option maxHeartbeats 8000000 in
theorem show_not (c : UInt8) (w : World) (hc : c = 33) (b n : Nat) (x1 : Int) (p1 : Option Addr) (m1 n1 : Nat) (s1 : ByteArray) (h1 : s1.size ≤ 1000000) (r : ByteArray) (hr : bs [33, 40] ++ s1 ++ bs [41] = r)
    (k0 : w.cell? ⟨b, 0, none⟩ = some (.int .u8 x1)) (k1 : w.cell? ⟨b, 1, none⟩ = some (.slice p1 m1 n1))
    (c1 : ∀ w', Below w.heap.size w w' → Calls Tryd.prog 65 #[.agg #[.int .u8 x1, .slice p1 m1 n1]] w' fun e w2 => e = .returned (.string s1) ∧ Below w'.heap.size w' w2) :
    Calls Tryd.prog 65 #[.agg #[.int .u8 c.toNat, .slice (some ⟨b, 0, none⟩) 1 n]] w fun e w' => e = .returned (.string r) ∧ Below w.heap.size w w' := by
  have C1 := Lib.hid c1

  have HR := Lib.hid hr
  have hlt := cell_lt k0
  clear c1 hr
  subst hc
  · skip
    have e1 : (Utf8.encode 33).size ≤ 4 := by decide
    have e2 : (ByteArray.mk #[40]).size ≤ 1 := by decide
    have e3 : (ByteArray.mk #[41]).size ≤ 1 := by decide
    have e4 : (ByteArray.mk #[33, 40]).size ≤ 2 := by decide
    go_enter Tryd.func65, Tryd.ntmps65
    go_wp2_with fail
    refine (C1.out _ ((Below.refl _ _).alloc (Nat.le_refl _) _)).mono ?_
    rintro e w2 ⟨rfl, hq⟩
    have HB := Lib.hid (((Below.refl w.heap.size w).alloc (Nat.le_refl _) (.cells #[.int .u8 33, .slice (some ⟨b, 0, none⟩) 1 n] 40)).trans (hq.mono (by simp)))
    clear hq
    go_wp2_with fail
    go_ret
    exact ⟨by rw [← HR.out]; rfl, HB.out⟩
end Go.Proofs.YtpdepihggpfmiaaDoor
