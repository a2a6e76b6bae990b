/-
  Statements in memory: the value of a statement is an interface that holds the struct of its kind; terms within it lie in memory. impl.statementOf and impl.twoPartsOf make it out of the term that was read.
-/
import Derived.Test.YtpdepihggpfmiabDoorTxt
import Derived.Test.YtpdepihggpfmiabDoorPgW
namespace Go.Proofs.YtpdepihggpfmiabDoor
open Go.RowKit

def StV (w : World) (B : Nat) : Pg → Value → Prop
  | .skip, v => v = .iface 93 (.agg #[])
  | .asg x e, v => ∃ a b, v = .iface 72 (.agg #[.string (bs [x]), a, b]) ∧ RepH w B e a b
  | .seq p q, v => ∃ a b, v = .iface 83 (.agg #[a, b]) ∧ StV w B p a ∧ StV w B q b
  | .ite t p q, v => ∃ x y a b, v = .iface 85 (.agg #[x, y, a, b]) ∧ RepH w B t x y ∧ StV w B p a ∧ StV w B q b
  | .whl t p, v => ∃ x y a, v = .iface 51 (.agg #[x, y, a]) ∧ RepH w B t x y ∧ StV w B p a
  | .cho p q, v => ∃ a b, v = .iface 59 (.agg #[a, b]) ∧ StV w B p a ∧ StV w B q b
  | .asm t, v => ∃ x y, v = .iface 62 (.agg #[x, y]) ∧ RepH w B t x y

theorem StV.forms {w : World} {B : Nat} {p : Pg} {v : Value} (h : StV w B p v) : ∃ T u, v = .iface T (.agg u) := by
  cases p with
  | skip => exact ⟨_, _, h⟩
  | asg x e => obtain ⟨a, b, rfl, _⟩ := h; exact ⟨_, _, rfl⟩
  | seq p q => obtain ⟨a, b, rfl, _⟩ := h; exact ⟨_, _, rfl⟩
  | ite t p q => obtain ⟨x, y, a, b, rfl, _⟩ := h; exact ⟨_, _, rfl⟩
  | whl t p => obtain ⟨x, y, a, rfl, _⟩ := h; exact ⟨_, _, rfl⟩
  | cho p q => obtain ⟨a, b, rfl, _⟩ := h; exact ⟨_, _, rfl⟩
  | asm t => obtain ⟨x, y, rfl, _⟩ := h; exact ⟨_, _, rfl⟩
theorem StV.below {w w' : World} {B : Nat} (hb : Below w.heap.size w w') : ∀ {p : Pg} {v : Value}, StV w B p v → StV w' B p v := by
  intro p
  induction p with
  | skip => exact fun h => h
  | asg x e => rintro v ⟨a, b, h, h1⟩; exact ⟨a, b, h, h1.below hb⟩
  | seq p q ihp ihq => rintro v ⟨a, b, h, h1, h2⟩; exact ⟨a, b, h, ihp h1, ihq h2⟩
  | ite t p q ihp ihq => rintro v ⟨x, y, a, b, h, h0, h1, h2⟩; exact ⟨x, y, a, b, h, h0.below hb, ihp h1, ihq h2⟩
  | whl t p ihp => rintro v ⟨x, y, a, h, h0, h1⟩; exact ⟨x, y, a, h, h0.below hb, ihp h1⟩
  | cho p q ihp ihq => rintro v ⟨a, b, h, h1, h2⟩; exact ⟨a, b, h, ihp h1, ihq h2⟩
  | asm t => rintro v ⟨x, y, h, h0⟩; exact ⟨x, y, h, h0.below hb⟩

/-- The statement is made of terms that lay in the world w0. -/
def StPost (w0 : World) (B : Nat) (p : Pg) (w : World) (e : Ending) (w' : World) : Prop := ∃ T u, e = .returned (.iface T (.agg u)) ∧ StV w0 B p (.iface T (.agg u)) ∧ Below w.heap.size w w'
def TwoPost (w0 : World) (B : Nat) (p q : Pg) (w : World) (e : Ending) (w' : World) : Prop := ∃ T u T2 u2, e = .returned (.agg #[.iface T (.agg u), .iface T2 (.agg u2)]) ∧ StV w0 B p (.iface T (.agg u)) ∧ StV w0 B q (.iface T2 (.agg u2)) ∧ Below w.heap.size w w'

set_option maxRecDepth 100000 in
set_option maxHeartbeats 4000000 in
theorem two_of (w0 : World) (B : Nat) (p q : Pg) (w : World) (b o n : Nat) (x1 x2 : Int) (p1 p2 : Option Addr) (m1 m2 n1 n2 : Nat)
    (k0 : w.cell? ⟨b, o, none⟩ = some (.int .u8 x1)) (k1 : w.cell? ⟨b, o + 1, none⟩ = some (.slice p1 m1 n1)) (k2 : w.cell? ⟨b, o + 2, none⟩ = some (.int .u8 x2)) (k3 : w.cell? ⟨b, o + 3, none⟩ = some (.slice p2 m2 n2))
    (c1 : ∀ w', Below w.heap.size w w' → Calls Tryd.prog 77 #[.agg #[.int .u8 x1, .slice p1 m1 n1]] w' (StPost w0 B p w'))
    (c2 : ∀ w', Below w.heap.size w w' → Calls Tryd.prog 77 #[.agg #[.int .u8 x2, .slice p2 m2 n2]] w' (StPost w0 B q w')) :
    Calls Tryd.prog 81 #[.slice (some ⟨b, o, none⟩) 2 n] w (TwoPost w0 B p q w) := by
  have C1 := Lib.hid c1
  have C2 := Lib.hid c2
  clear c1 c2
  go_enter Tryd.func81, Tryd.ntmps81
  go_wp2_with fail
  have hB := (Below.refl w.heap.size w).alloc (Nat.le_refl _) (.cells #[.nilIface, .nilIface] 57)
  have t0 := Blk.new w #[.nilIface, .nilIface] 57
  generalize w.alloc (.cells #[.nilIface, .nilIface] 57) = W0 at *
  have q0 : W0.cell? ⟨w.heap.size, 0, none⟩ = some .nilIface := t0.cell 0
  have q1 : W0.cell? ⟨w.heap.size, 1, none⟩ = some .nilIface := t0.cell 1
  have r0 := t0.free 0
  have r1 := t0.free 1
  have hlt := t0.lt
  have j0 := ckeep hB k0
  have j1 := ckeep hB k1
  have j2 := ckeep hB k2
  have j3 := ckeep hB k3
  have hB' := hB.drew
  clear k0 k1 k2 k3 t0
  go_region_with (first
    | (go_at_call 77; (with_reducible refine (C1.out _ hB').mono ?_); rintro e w2 ⟨T1, u1, rfl, hst1, hq⟩;
       have z0 := ckeep hq q0; have z1 := ckeep hq q1; have y0 := (hq.frozen (p := ⟨w.heap.size, 0, none⟩) hlt).trans r0; have y1 := (hq.frozen (p := ⟨w.heap.size, 1, none⟩) hlt).trans r1;
       have i2 := ckeep hq j2; have i3 := ckeep hq j3; have hlt2 := cell_lt z0; have hB2 := hB'.trans (hq.mono hB'.size))
    | (go_at_call 77; (with_reducible refine (C2.out _ hB2).mono ?_); rintro e w3 ⟨T2, u2, rfl, hst2, hq2⟩;
       have z0 := ckeep hq2 z0; have z1 := ckeep hq2 z1; have y0 := (hq2.frozen (p := ⟨w.heap.size, 0, none⟩) hlt2).trans y0; have y1 := (hq2.frozen (p := ⟨w.heap.size, 1, none⟩) hlt2).trans y1;
       have hB3 := hB2.trans (hq2.mono hB2.size)))
  all_goals
    go_wp2_with fail
    have a0 : ((w3.setCell ⟨w.heap.size, 0, none⟩ (.iface T1 (.agg u1))).setCell ⟨w.heap.size, 1, none⟩ (.iface T2 (.agg u2))).cell? ⟨w.heap.size, 0, none⟩ = some (.iface T1 (.agg u1)) := by simp [go_sem, z0]
    have a1 : ((w3.setCell ⟨w.heap.size, 0, none⟩ (.iface T1 (.agg u1))).setCell ⟨w.heap.size, 1, none⟩ (.iface T2 (.agg u2))).cell? ⟨w.heap.size, 1, none⟩ = some (.iface T2 (.agg u2)) := by simp [go_sem, z1]
    exact bodyPost_ret (v := .agg #[.iface T1 (.agg u1), .iface T2 (.agg u2)]) (by simp [results, Tryd.results81, go_sem, a0, a1]) rfl ⟨T1, u1, T2, u2, rfl, hst1, hst2, (hB3.setCell (p := ⟨w.heap.size, 0, none⟩) (Nat.le_refl _) _).setCell (p := ⟨w.heap.size, 1, none⟩) (Nat.le_refl _) _⟩

theorem len_emb (t : Tm) (r : Fo) : (emb t r).len = r.len + 1 := by cases t <;> rfl

theorem st_skip (w0 : World) (B : Nat) (w : World) (ya : Option Addr) (ym : Nat) :
    Calls Tryd.prog 77 #[.agg #[.int .u8 115, .slice ya 0 ym]] w (StPost w0 B .skip w) := by
  go_enter Tryd.func77, Tryd.ntmps77
  go_wp2_with fail
  go_ret
  exact ⟨_, _, rfl, rfl, (Below.refl _ _).alloc (Nat.le_refl _) _⟩

/-- The frame behind the box of the argument. -/
theorem boxed (w : World) (c : Int) (a : Option Addr) (m n : Nat) : ∃ W0, w.alloc (.cells #[.int .u8 c, .slice a m n] 47) = W0 ∧ Below w.heap.size w W0 ∧ Below w.heap.size w W0.drew ∧ w.heap.size < W0.heap.size ∧
    W0.cell? ⟨w.heap.size, 0, none⟩ = some (.int .u8 c) ∧ W0.cell? ⟨w.heap.size, 1, none⟩ = some (.slice a m n) := by
  have t0 := Blk.new w #[.int .u8 c, .slice a m n] 47
  have hB := (Below.refl w.heap.size w).alloc (Nat.le_refl _) (.cells #[.int .u8 c, .slice a m n] 47)
  exact ⟨_, rfl, hB, hB.drew, t0.lt, t0.cell 0, t0.cell 1⟩

set_option maxRecDepth 100000 in
set_option maxHeartbeats 4000000 in
theorem st_seq (w0 : World) (B : Nat) (p q : Pg) (w : World) (b n : Nat)
    (c1 : ∀ w', Below w.heap.size w w' → Calls Tryd.prog 81 #[.slice (some ⟨b, 0, none⟩) 2 n] w' (TwoPost w0 B p q w')) :
    Calls Tryd.prog 77 #[.agg #[.int .u8 59, .slice (some ⟨b, 0, none⟩) 2 n]] w (StPost w0 B (.seq p q) w) := by
  have C1 := Lib.hid c1
  clear c1
  obtain ⟨W0, hW0, hB, hB', hlt, q0, q1⟩ := boxed w 59 (some ⟨b, 0, none⟩) 2 n
  go_enter Tryd.func77, Tryd.ntmps77
  go_wp2_with fail
  refine (C1.out _ hB).mono ?_
  rintro e w2 ⟨T1, u1, T2, u2, rfl, hst1, hst2, hq⟩
  have HB := Lib.hid (hB.trans (hq.mono hB.size))
  have H1 := Lib.hid hst1
  have H2 := Lib.hid hst2
  clear hq hst1 hst2 hB hB' q0 q1
  go_wp2_with fail
  go_ret
  exact ⟨_, _, rfl, ⟨_, _, rfl, H1.out, H2.out⟩, HB.out⟩

set_option maxRecDepth 100000 in
set_option maxHeartbeats 4000000 in
theorem st_cho (w0 : World) (B : Nat) (p q : Pg) (w : World) (b n : Nat)
    (c1 : ∀ w', Below w.heap.size w w' → Calls Tryd.prog 81 #[.slice (some ⟨b, 0, none⟩) 2 n] w' (TwoPost w0 B p q w')) :
    Calls Tryd.prog 77 #[.agg #[.int .u8 47, .slice (some ⟨b, 0, none⟩) 2 n]] w (StPost w0 B (.cho p q) w) := by
  have C1 := Lib.hid c1
  clear c1
  obtain ⟨W0, hW0, hB, hB', hlt, q0, q1⟩ := boxed w 47 (some ⟨b, 0, none⟩) 2 n
  go_enter Tryd.func77, Tryd.ntmps77
  go_wp2_with fail
  refine (C1.out _ hB).mono ?_
  rintro e w2 ⟨T1, u1, T2, u2, rfl, hst1, hst2, hq⟩
  have HB := Lib.hid (hB.trans (hq.mono hB.size))
  have H1 := Lib.hid hst1
  have H2 := Lib.hid hst2
  clear hq hst1 hst2 hB hB' q0 q1
  go_wp2_with fail
  go_ret
  exact ⟨_, _, rfl, ⟨_, _, rfl, H1.out, H2.out⟩, HB.out⟩

set_option maxRecDepth 100000 in
set_option maxHeartbeats 4000000 in
theorem st_asm (w0 : World) (B : Nat) (t : Tm) (w : World) (b n : Nat) (x1 : Int) (p1 : Option Addr) (m1 n1 : Nat)
    (k0 : w.cell? ⟨b, 0, none⟩ = some (.int .u8 x1)) (k1 : w.cell? ⟨b, 1, none⟩ = some (.slice p1 m1 n1)) (hr : RepH w0 B t (.int .u8 x1) (.slice p1 m1 n1)) :
    Calls Tryd.prog 77 #[.agg #[.int .u8 126, .slice (some ⟨b, 0, none⟩) 1 n]] w (StPost w0 B (.asm t) w) := by
  have HR := Lib.hid hr
  clear hr
  obtain ⟨W0, hW0, hB, hB', hlt, q0, q1⟩ := boxed w 126 (some ⟨b, 0, none⟩) 1 n
  have j0 := ckeep hB k0
  have j1 := ckeep hB k1
  clear k0 k1
  go_enter Tryd.func77, Tryd.ntmps77
  go_wp2_with fail
  go_ret
  exact ⟨_, _, rfl, ⟨_, _, rfl, HR.out⟩, hB⟩

set_option maxRecDepth 100000 in
set_option maxHeartbeats 4000000 in
theorem st_asg (w0 : World) (B : Nat) (v : UInt8) (x : Tm) (w : World) (b n : Nat) (x1 x2 : Int) (p1 p2 : Option Addr) (m1 m2 n1 n2 : Nat)
    (k0 : w.cell? ⟨b, 0, none⟩ = some (.int .u8 x1)) (k1 : w.cell? ⟨b, 1, none⟩ = some (.slice p1 m1 n1)) (k2 : w.cell? ⟨b, 2, none⟩ = some (.int .u8 x2)) (k3 : w.cell? ⟨b, 3, none⟩ = some (.slice p2 m2 n2))
    (hr : RepH w0 B x (.int .u8 x2) (.slice p2 m2 n2))
    (c1 : ∀ w', Below w.heap.size w w' → Calls Tryd.prog 55 #[.agg #[.int .u8 x1, .slice p1 m1 n1]] w' fun e w2 => e = .returned (.string (bs [v])) ∧ Below w'.heap.size w' w2) :
    Calls Tryd.prog 77 #[.agg #[.int .u8 97, .slice (some ⟨b, 0, none⟩) 2 n]] w (StPost w0 B (.asg v x) w) := by
  have HR := Lib.hid hr
  have C1 := Lib.hid c1
  clear hr c1
  obtain ⟨W0, hW0, hB, hB', hlt, q0, q1⟩ := boxed w 97 (some ⟨b, 0, none⟩) 2 n
  have j0 := ckeep hB k0
  have j1 := ckeep hB k1
  have j2 := ckeep hB k2
  have j3 := ckeep hB k3
  clear k0 k1 k2 k3
  go_enter Tryd.func77, Tryd.ntmps77
  go_wp2_with fail
  go_region_held3 (fun w' => Below w.heap.size w w' ∧ w'.cell? ⟨w.heap.size, 0, none⟩ = some (.int .u8 97) ∧ w'.cell? ⟨w.heap.size, 1, none⟩ = some (.slice (some ⟨b, 0, none⟩) 2 n) ∧
      w'.cell? ⟨b, 0, none⟩ = some (.int .u8 x1) ∧ w'.cell? ⟨b, 1, none⟩ = some (.slice p1 m1 n1) ∧ w'.cell? ⟨b, 2, none⟩ = some (.int .u8 x2) ∧ w'.cell? ⟨b, 3, none⟩ = some (.slice p2 m2 n2))
    ((go_split_ands; refine ⟨?_, ?_, ?_, ?_, ?_, ?_, ?_⟩ <;> first | assumption | exact ckeep hq (by assumption) | exact Below.trans (by assumption) (hq.mono (by have := Below.size (by assumption : Below w.heap.size w _); omega))))
    (first | (go_at_call 55; (with_reducible refine (C1.out _ ?_).mono ?_); (go_split_ands; assumption); rintro e w2 ⟨rfl, hq⟩))
  go_wp2_with fail
  go_split_ands
  go_ret
  exact ⟨_, _, rfl, ⟨_, _, rfl, HR.out⟩, by assumption⟩

set_option maxRecDepth 100000 in
set_option maxHeartbeats 4000000 in
theorem st_ite (w0 : World) (B : Nat) (t : Tm) (p q : Pg) (w : World) (b n : Nat) (x1 : Int) (p1 : Option Addr) (m1 n1 : Nat) (hn : 3 ≤ n)
    (k0 : w.cell? ⟨b, 0, none⟩ = some (.int .u8 x1)) (k1 : w.cell? ⟨b, 1, none⟩ = some (.slice p1 m1 n1))
    (hr : RepH w0 B t (.int .u8 x1) (.slice p1 m1 n1))
    (c1 : ∀ w', Below w.heap.size w w' → Calls Tryd.prog 81 #[.slice (some ⟨b, 2, none⟩) 2 (n - 1)] w' (TwoPost w0 B p q w')) :
    Calls Tryd.prog 77 #[.agg #[.int .u8 63, .slice (some ⟨b, 0, none⟩) 3 n]] w (StPost w0 B (.ite t p q) w) := by
  have HR := Lib.hid hr
  have C1 := Lib.hid c1
  clear hr c1
  obtain ⟨W0, hW0, hB, hB', hlt, q0, q1⟩ := boxed w 63 (some ⟨b, 0, none⟩) 3 n
  have j0 := ckeep hB k0
  have j1 := ckeep hB k1
  have hn1 : ¬ n = 1 := by omega
  clear k0 k1
  go_enter Tryd.func77, Tryd.ntmps77
  go_wp2_with fail
  go_region_held3 (fun w' => Below w.heap.size w w' ∧ w'.cell? ⟨w.heap.size, 0, none⟩ = some (.int .u8 63) ∧ w'.cell? ⟨w.heap.size, 1, none⟩ = some (.slice (some ⟨b, 0, none⟩) 3 n) ∧
      w'.cell? ⟨b, 0, none⟩ = some (.int .u8 x1) ∧ w'.cell? ⟨b, 1, none⟩ = some (.slice p1 m1 n1))
    ((go_split_ands; refine ⟨?_, ?_, ?_, ?_, ?_⟩ <;> first | assumption | exact ckeep hq (by assumption) | exact Below.trans (by assumption) (hq.mono (by have := Below.size (by assumption : Below w.heap.size w _); omega))))
    (first | (go_at_call 81; (with_reducible refine (C1.out _ ?_).mono ?_); (go_split_ands; assumption); rintro e w2 ⟨T1, u1, T2, u2, rfl, hst1, hst2, hq⟩))
  go_wp2_with fail
  go_split_ands
  go_ret
  exact ⟨_, _, rfl, ⟨_, _, _, _, rfl, HR.out, hst1, hst2⟩, by assumption⟩

set_option maxRecDepth 100000 in
set_option maxHeartbeats 4000000 in
theorem st_whl (w0 : World) (B : Nat) (t : Tm) (p : Pg) (w : World) (b n : Nat) (x1 x2 : Int) (p1 p2 : Option Addr) (m1 m2 n1 n2 : Nat)
    (k0 : w.cell? ⟨b, 0, none⟩ = some (.int .u8 x1)) (k1 : w.cell? ⟨b, 1, none⟩ = some (.slice p1 m1 n1)) (k2 : w.cell? ⟨b, 2, none⟩ = some (.int .u8 x2)) (k3 : w.cell? ⟨b, 3, none⟩ = some (.slice p2 m2 n2))
    (hr : RepH w0 B t (.int .u8 x1) (.slice p1 m1 n1))
    (c1 : ∀ w', Below w.heap.size w w' → Calls Tryd.prog 77 #[.agg #[.int .u8 x2, .slice p2 m2 n2]] w' (StPost w0 B p w')) :
    Calls Tryd.prog 77 #[.agg #[.int .u8 64, .slice (some ⟨b, 0, none⟩) 2 n]] w (StPost w0 B (.whl t p) w) := by
  have HR := Lib.hid hr
  have C1 := Lib.hid c1
  clear hr c1
  obtain ⟨W0, hW0, hB, hB', hlt, q0, q1⟩ := boxed w 64 (some ⟨b, 0, none⟩) 2 n
  have j0 := ckeep hB k0
  have j1 := ckeep hB k1
  have j2 := ckeep hB k2
  have j3 := ckeep hB k3
  clear k0 k1 k2 k3
  go_enter Tryd.func77, Tryd.ntmps77
  go_wp2_with fail
  go_region_held3 (fun w' => Below w.heap.size w w' ∧ w'.cell? ⟨w.heap.size, 0, none⟩ = some (.int .u8 64) ∧ w'.cell? ⟨w.heap.size, 1, none⟩ = some (.slice (some ⟨b, 0, none⟩) 2 n) ∧
      w'.cell? ⟨b, 0, none⟩ = some (.int .u8 x1) ∧ w'.cell? ⟨b, 1, none⟩ = some (.slice p1 m1 n1) ∧ w'.cell? ⟨b, 2, none⟩ = some (.int .u8 x2) ∧ w'.cell? ⟨b, 3, none⟩ = some (.slice p2 m2 n2))
    ((go_split_ands; refine ⟨?_, ?_, ?_, ?_, ?_, ?_, ?_⟩ <;> first | assumption | exact ckeep hq (by assumption) | exact Below.trans (by assumption) (hq.mono (by have := Below.size (by assumption : Below w.heap.size w _); omega))))
    (first | (go_at_call 77; (with_reducible refine (C1.out _ ?_).mono ?_); (go_split_ands; assumption); rintro e w2 ⟨T1, u1, rfl, hst1, hq⟩))
  go_wp2_with fail
  go_split_ands
  go_ret
  exact ⟨_, _, rfl, ⟨_, _, _, rfl, HR.out, hst1⟩, by assumption⟩

/-- A statement's term in a row of terms. -/
theorem pg_cells {w : World} {B : Nat} {p : Pg} {r : Fo} {b o : Nat} (h : RepF w B (p.fo r) b o) : (∃ (a : Option Addr) (m : Nat), w.cell? ⟨b, o, none⟩ = some (.int .u8 p.letter.toNat) ∧ w.cell? ⟨b, o + 1, none⟩ = some (.slice a p.kids.len m) ∧ RepN w B p.letter p.kids (.int .u8 p.letter.toNat) (.slice a p.kids.len m)) ∧ RepF w B r b (o + 2) := by
  rw [Pg.fo_eq] at h
  obtain ⟨⟨x, y, h1, h2, h3⟩, h4⟩ := h
  obtain ⟨a, m, rfl, rfl⟩ := RepN.forms (show RepN w B p.letter p.kids x y from h3)
  exact ⟨⟨a, m, h1, h2, h3⟩, h4⟩

theorem st_any {wide : Bool} : ∀ (p : Pg), p.ok wide → p.ser.length ≤ 1000 → ∀ (w0 : World) (B : Nat) (w : World) (ya : Option Addr) (ym : Nat), Below w0.heap.size w0 w → RepN w0 B p.letter p.kids (.int .u8 p.letter.toNat) (.slice ya p.kids.len ym) →
    Calls Tryd.prog 77 #[.agg #[.int .u8 p.letter.toNat, .slice ya p.kids.len ym]] w (StPost w0 B p w) := by
  have two : ∀ (p q : Pg) (w0 w : World) (B kb o n : Nat), Below w0.heap.size w0 w → RepF w0 B (p.fo (q.fo .nil)) kb o →
      (∀ (w : World) (ya : Option Addr) (ym : Nat), Below w0.heap.size w0 w → RepN w0 B p.letter p.kids (.int .u8 p.letter.toNat) (.slice ya p.kids.len ym) → Calls Tryd.prog 77 #[.agg #[.int .u8 p.letter.toNat, .slice ya p.kids.len ym]] w (StPost w0 B p w)) →
      (∀ (w : World) (ya : Option Addr) (ym : Nat), Below w0.heap.size w0 w → RepN w0 B q.letter q.kids (.int .u8 q.letter.toNat) (.slice ya q.kids.len ym) → Calls Tryd.prog 77 #[.agg #[.int .u8 q.letter.toNat, .slice ya q.kids.len ym]] w (StPost w0 B q w)) →
      ∀ w', Below w.heap.size w w' → Calls Tryd.prog 81 #[.slice (some ⟨kb, o, none⟩) 2 n] w' (TwoPost w0 B p q w') := by
    intro p q w0 w B kb o n hb hr ip iq w' hb2
    obtain ⟨⟨a1, m1, k0, k1, hr1⟩, hr'⟩ := pg_cells hr
    obtain ⟨⟨a2, m2, k2, k3, hr2⟩, _⟩ := pg_cells hr'
    have hb3 := bnext hb hb2
    exact two_of w0 B p q w' kb o n _ _ _ _ _ _ _ _ (ckeep hb3 k0) (ckeep hb3 k1) (ckeep hb3 k2) (ckeep hb3 k3) (fun w' h => ip w' _ _ (bnext hb3 h) hr1) (fun w' h => iq w' _ _ (bnext hb3 h) hr2)
  intro p
  induction p with
  | skip => intro _ _ w0 B w ya ym _ _; exact st_skip w0 B w ya ym
  | asg v e =>
    intro hok hn w0 B w ya ym hb ⟨_, a, n, h1, hcap, h2⟩
    cases h1
    rcases h2 with h2 | ⟨kb, rfl, hkb, hr⟩
    · cases h2
    obtain ⟨⟨x, y, k0, k1, hrv⟩, hr'⟩ := RepF.cons.1 hr
    obtain ⟨va, vm, rfl, rfl⟩ := RepN.forms hrv
    obtain ⟨⟨pe, ne, me, k2, k3, hre⟩, _⟩ := RepH.of hr'
    obtain ⟨kv, hv⟩ : ∃ kv, FOk false (.nd v .nil .nil) [kv] := by
      have h1 := hok.1
      cases wide
      · exact ⟨118, 118, [], [], rfl, by simp [gopk, gopk0, wideK, h1], rfl, rfl⟩
      · exact ⟨86, 86, [], [], rfl, by simp [gopk, gopk0, wideK, h1], rfl, rfl⟩
    have hl : (Pg.asg v e).kids.len = 2 := by simp only [Pg.kids, Fo.len, len_emb]
    rw [hl] at hcap ⊢
    exact st_asg w0 B v e w kb ym _ _ _ _ _ _ _ _ (ckeep hb k0) (ckeep hb k1) (ckeep hb k2) (ckeep hb k3) hre (fun w' h => text_node v .nil kv B w' va vm (by simp [Fo.ser]) hv (RepN.below (bnext hb h) hrv))
  | seq p q ip iq =>
    intro hok hn w0 B w ya ym hb ⟨_, a, n, h1, hcap, h2⟩
    cases h1
    simp [Pg.ser] at hn
    rcases h2 with h2 | ⟨kb, rfl, hkb, hr⟩
    · have h3 := congrArg Fo.len h2; simp only [Pg.kids, Pg.len_fo, Fo.len] at h3; omega
    have hl : (Pg.seq p q).kids.len = 2 := by simp only [Pg.kids, Pg.len_fo, Fo.len]
    rw [hl] at hcap ⊢
    exact st_seq w0 B p q w kb ym (two p q w0 w B kb 0 ym hb hr (fun w ya ym => ip hok.1 (by omega) w0 B w ya ym) (fun w ya ym => iq hok.2 (by omega) w0 B w ya ym))
  | ite t p q ip iq =>
    intro hok hn w0 B w ya ym hb ⟨_, a, n, h1, hcap, h2⟩
    cases h1
    simp [Pg.ser] at hn
    rcases h2 with h2 | ⟨kb, rfl, hkb, hr⟩
    · obtain ⟨kids, e⟩ := emb_nd t
      simp only [Pg.kids, e] at h2; cases h2
    obtain ⟨⟨pe, ne, me, k0, k1, hre⟩, hr'⟩ := RepH.of hr
    have hl : (Pg.ite t p q).kids.len = 3 := by simp only [Pg.kids, Pg.len_fo, len_emb, Fo.len]
    rw [hl] at hcap ⊢
    exact st_ite w0 B t p q w kb ym _ _ _ _ hcap (ckeep hb k0) (ckeep hb k1) hre (two p q w0 w B kb 2 (ym - 1) hb hr' (fun w ya ym => ip hok.2.1 (by omega) w0 B w ya ym) (fun w ya ym => iq hok.2.2 (by omega) w0 B w ya ym))
  | whl t p ip =>
    intro hok hn w0 B w ya ym hb ⟨_, a, n, h1, hcap, h2⟩
    cases h1
    simp [Pg.ser] at hn
    rcases h2 with h2 | ⟨kb, rfl, hkb, hr⟩
    · obtain ⟨kids, e⟩ := emb_nd t
      simp only [Pg.kids, e] at h2; cases h2
    obtain ⟨⟨pe, ne, me, k0, k1, hre⟩, hr'⟩ := RepH.of hr
    obtain ⟨⟨a2, m2, k2, k3, hr2⟩, _⟩ := pg_cells hr'
    have hl : (Pg.whl t p).kids.len = 2 := by simp only [Pg.kids, Pg.len_fo, len_emb, Fo.len]
    rw [hl] at hcap ⊢
    exact st_whl w0 B t p w kb ym _ _ _ _ _ _ _ _ (ckeep hb k0) (ckeep hb k1) (ckeep hb k2) (ckeep hb k3) hre (fun w' h => ip hok.2 (by omega) w0 B w' _ _ (bnext hb h) hr2)
  | cho p q ip iq =>
    intro hok hn w0 B w ya ym hb ⟨_, a, n, h1, hcap, h2⟩
    cases h1
    simp [Pg.ser] at hn
    rcases h2 with h2 | ⟨kb, rfl, hkb, hr⟩
    · have h3 := congrArg Fo.len h2; simp only [Pg.kids, Pg.len_fo, Fo.len] at h3; omega
    have hl : (Pg.cho p q).kids.len = 2 := by simp only [Pg.kids, Pg.len_fo, Fo.len]
    rw [hl] at hcap ⊢
    exact st_cho w0 B p q w kb ym (two p q w0 w B kb 0 ym hb hr (fun w ya ym => ip hok.1 (by omega) w0 B w ya ym) (fun w ya ym => iq hok.2 (by omega) w0 B w ya ym))
  | asm t =>
    intro hok hn w0 B w ya ym hb ⟨_, a, n, h1, hcap, h2⟩
    cases h1
    rcases h2 with h2 | ⟨kb, rfl, hkb, hr⟩
    · obtain ⟨kids, e⟩ := emb_nd t
      simp only [Pg.kids, e] at h2; cases h2
    obtain ⟨⟨pe, ne, me, k0, k1, hre⟩, _⟩ := RepH.of hr
    have hl : (Pg.asm t).kids.len = 1 := by simp only [Pg.kids, len_emb, Fo.len]
    rw [hl] at hcap ⊢
    exact st_asm w0 B t w kb ym _ _ _ _ (ckeep hb k0) (ckeep hb k1) hre
end Go.Proofs.YtpdepihggpfmiabDoor
