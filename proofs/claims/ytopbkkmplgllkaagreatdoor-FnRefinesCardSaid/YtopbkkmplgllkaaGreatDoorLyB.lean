/-
  A flow is laid: a statement alone, and two in sequence.
-/
import Derived.Test.YtopbkkmplgllkaaGreatDoorLyA
namespace Go.Proofs.YtopbkkmplgllkaaGreatDoor
open Go.RowKit Tm Go.ChangeMaps

theorem kc2 {a b : Nat} {w w' : World} (hk : Kp2 a b w w') {k o : Nat} {v : Value} (h : w.cell? ⟨k, o, none⟩ = some v) (h1 : k ≠ a) (h2 : k ≠ b) : w'.cell? ⟨k, o, none⟩ = some v :=
  (World.cell?_of_block (w := w) (hk.block k (World.block_lt_of_cell? w ⟨k, o, none⟩ h) h1 h2)).trans h
def LayC (w0 : World) (B bf : Nat) (p : Pg) (v : Value) : Prop := ∀ (a : Nat) (G : List Stp) (rb cap : Nat) (nb : Nat → Nat) (xs : List Value) (w : World), Lain w0 w B bf rb cap nb xs G → G.length + p.all.length ≤ 1200 →
  Calls Tryz.prog 84 #[.pointer (some ⟨bf, 0, none⟩), v, .int .i64 a] w (LayPost w0 B bf rb nb G.length w.heap.size (layF p a G).1 (layF p a G).2 w)
theorem LayPost.from {w0 : World} {B bf rb : Nat} {nb : Nat → Nat} {n lo lo2 : Nat} {G1 : List Stp} {r : Nat} {w w1 w' : World} {e : Ending} (hb : Below w.heap.size w w1) (hl : lo2 ≤ lo) (h : LayPost w0 B bf rb nb n lo G1 r w1 e w') : LayPost w0 B bf rb nb n lo2 G1 r w e w' := by
  obtain ⟨he, rb', cap', nb', xs', h1, h2, h3, h4⟩ := h
  exact ⟨he, rb', cap', nb', xs', h1, (Kp2.of hb).trans h2, h3.imp id fun h => Nat.le_trans hb.size h, h4.1, fun k hk hk2 => Nat.le_trans hl (h4.2 k hk hk2)⟩
theorem kp2_two {bf rb rb2 : Nat} {w w2 w3 : World} (h1 : Kp2 bf rb w w2) (h2 : Kp2 bf rb2 w2 w3) (ho : rb2 = rb ∨ w.heap.size ≤ rb2) : Kp2 bf rb w w3 :=
  ⟨h2.os.trans h1.os, h2.tape.trans h1.tape, h2.output.trans h1.output, Nat.le_trans h1.size h2.size, fun k hk a b => (h2.block k (Nat.lt_of_lt_of_le hk h1.size) a (by rcases ho with e | e <;> omega)).trans (h1.block k hk a b)⟩
theorem or_two {rb rb2 rb3 n n2 : Nat} (h2 : rb2 = rb ∨ n ≤ rb2) (h3 : rb3 = rb2 ∨ n2 ≤ rb3) (hn : n ≤ n2) : rb3 = rb ∨ n ≤ rb3 := by omega
theorem cput {w : World} {b o : Nat} {v : Value} (h : w.cell? ⟨b, o, none⟩ = some v) (ob : Obj) : (w.alloc ob).cell? ⟨b, o, none⟩ = some v := ckeep ((Below.refl _ _).alloc (Nat.le_refl _) ob) h
theorem layF_len (p : Pg) : ∀ (a : Nat) (G : List Stp), (layF p a G).1.length ≤ G.length + p.all.length := by
  induction p with
  | skip => intro a G; simp [layF, Pg.all]
  | asg v e => intro a G; simp [layF, Pg.all]
  | asm t => intro a G; simp [layF, Pg.all]
  | seq p q ihp ihq =>
    intro a G
    have h1 := ihp (layF q a G).2 (layF q a G).1
    have h2 := ihq a G
    simp only [layF, Pg.all, List.length_cons, List.length_append]
    omega
  | ite t p q ihp ihq =>
    intro a G
    have h1 := ihp a G
    have h2 := ihq a (layF p a G).1
    simp only [layF, Pg.all, List.length_cons, List.length_append, List.length_nil]
    omega
  | cho p q ihp ihq =>
    intro a G
    have h1 := ihp a G
    have h2 := ihq a (layF p a G).1
    simp only [layF, Pg.all, List.length_cons, List.length_append, List.length_nil]
    omega
  | whl t p ihp =>
    intro a G
    have h1 := ihp G.length (G ++ [⟨some (.whl t p), [0, a]⟩])
    simp only [layF, Pg.all, List.length_cons, List.length_set, List.length_append, List.length_nil] at h1 ⊢
    omega

set_option maxRecDepth 1000000 in
set_option maxHeartbeats 4000000 in
theorem lay_one (w0 : World) (B bf : Nat) (p : Pg) (T : TypeId) (u : Array Value) (z1 z2 z3 z4 : Value) (hv : StV w0 B p (.iface T (.agg u)))
    (t1 : ∀ W, (Instr.typeAssert (.iface T (.agg u)) 53 152 true).run Tryz.prog W = .ok (.tuple #[z1, .bool false]) W)
    (t2 : ∀ W, (Instr.typeAssert (.iface T (.agg u)) 53 156 true).run Tryz.prog W = .ok (.tuple #[z2, .bool false]) W)
    (t3 : ∀ W, (Instr.typeAssert (.iface T (.agg u)) 53 159 true).run Tryz.prog W = .ok (.tuple #[z3, .bool false]) W)
    (t4 : ∀ W, (Instr.typeAssert (.iface T (.agg u)) 53 158 true).run Tryz.prog W = .ok (.tuple #[z4, .bool false]) W)
    (hF : ∀ a G, layF p a G = (G ++ [⟨some p, [a]⟩], G.length)) : LayC w0 B bf p (.iface T (.agg u)) := by
  intro a G rb cap nb xs w h hlen
  rw [hF]
  have bx := (Below.refl w.heap.size w).alloc (Nat.le_refl _) (.cells #[.int .i64 a] 3)
  have hr := h.rlo
  have hbl := h.box.lt
  have C := add_any w0 B bf rb cap nb xs G p T u w.heap.size [a] (w.alloc (.cells #[.int .i64 a] 3)) (h.kept bx) (by omega) hv (Blk.new w #[.int .i64 a] 3) h.bel.size (by omega) (by omega) (fun k hk => by have := (h.nbo k hk).2.2.2; omega) 1 rfl
  have HC := Lib.hid C
  have HB := Lib.hid bx
  clear C hr hbl h hv hF bx hlen
  go_enter Tryz.func84, Tryz.ntmps84
  go_wp2_with fail
  refine HC.out.mono ?_
  rintro e w' hp
  have HP := Lib.hid (LayPost.from HB.out (Nat.le_refl _) hp)
  obtain ⟨rfl, _⟩ := hp
  go_wp2_with fail
  go_ret
  exact HP.out

set_option maxRecDepth 1000000 in
set_option maxHeartbeats 4000000 in
theorem lay_seq (w0 : World) (B bf : Nat) (p q : Pg) (T1 T2 : TypeId) (u1 u2 : Array Value) (c1 : LayC w0 B bf p (.iface T1 (.agg u1))) (c2 : LayC w0 B bf q (.iface T2 (.agg u2))) : LayC w0 B bf (.seq p q) (.iface 152 (.agg #[.iface T1 (.agg u1), .iface T2 (.agg u2)])) := by
  intro a G rb cap nb xs w h hlen
  have t1 := tas_seq_seq (.agg #[.iface T1 (.agg u1), .iface T2 (.agg u2)])
  have bx := (Below.refl w.heap.size w).alloc (Nat.le_refl _) (.cells #[.iface T1 (.agg u1), .iface T2 (.agg u2)] 152)
  have t0 := Blk.new w #[.iface T1 (.agg u1), .iface T2 (.agg u2)] 152
  have hl2 := layF_len q a G
  simp only [Pg.all, List.length_cons, List.length_append] at hlen
  have hr := h.rlo
  have hbl := h.box.lt
  have L0 := Lib.hid (h.kept bx.drew)
  have C2 := Lib.hid (c2 a G rb cap nb xs (w.alloc (.cells #[.iface T1 (.agg u1), .iface T2 (.agg u2)] 152)).drew L0.out (by omega))
  have C1 := Lib.hid c1
  have HB := Lib.hid bx.drew
  clear c1 c2 h bx L0
  go_enter Tryz.func84, Tryz.ntmps84
  go_wp2_with fail
  generalize w.alloc (.cells #[.iface T1 (.agg u1), .iface T2 (.agg u2)] 152) = W0 at *
  have q0 : W0.cell? ⟨w.heap.size, 0, none⟩ = some (.iface T1 (.agg u1)) := t0.cell 0
  have q1 : W0.cell? ⟨w.heap.size, 1, none⟩ = some (.iface T2 (.agg u2)) := t0.cell 1
  have d0 : W0.drew.cell? ⟨w.heap.size, 0, none⟩ = some (.iface T1 (.agg u1)) := q0
  have hn1 : w.heap.size ≠ bf := by omega
  have hn2 : w.heap.size ≠ rb := by omega
  go_region_with (first
    | (go_at_call 84; (with_reducible refine C2.out.mono ?_); rintro e w2 ⟨rfl, rb2, cap2, nb2, xs2, hL2, hk2, ho2, hx2⟩; have z0 := kc2 hk2 d0 hn1 hn2)
    | (go_at_call 84; (refine (C1.out _ _ rb2 cap2 nb2 xs2 w2 hL2 (by omega)).mono ?_); rintro e w3 ⟨rfl, rb3, cap3, nb3, xs3, hL3, hk3, ho3, hx3⟩))
  all_goals
    have HR : Hid (LayPost w0 B bf rb nb G.length w.heap.size (layF p (layF q a G).2 (layF q a G).1).1 (layF p (layF q a G).2 (layF q a G).1).2 w (.returned (.int .i64 ((layF p (layF q a G).2 (layF q a G).1).2 : Nat))) w3) :=
      LayPost.from (lo := W0.drew.heap.size) HB.out HB.out.size ⟨rfl, rb3, cap3, nb3, xs3, hL3, kp2_two hk2 hk3 ho2, or_two ho2 ho3 hk2.size, hx2.trans hx3 hk2.size (Nat.le_of_lt (layF_ok q a G).len)⟩
    clear hL3 hk3 ho3 hL2 hk2 ho2 hx2 hx3 z0 C1 C2 HB
    go_wp2_with fail
    go_ret
    exact HR.out
end Go.Proofs.YtopbkkmplgllkaaGreatDoor
