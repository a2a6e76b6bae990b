/-
  A flow is laid: an if.
-/
import Derived.Test.YtopbkkmplgllkaaGreatDoorLyB
namespace Go.Proofs.YtopbkkmplgllkaaGreatDoor
open Go.RowKit Tm Go.ChangeMaps

set_option maxRecDepth 1000000 in
set_option maxHeartbeats 8000000 in
theorem lay_ite (w0 : World) (B bf : Nat) (t : Tm) (xc : Int) (ya : Option Addr) (yn ym : Nat) (p q : Pg) (T1 T2 : TypeId) (u1 u2 : Array Value) (hv : StV w0 B (.ite t p q) (.iface 156 (.agg #[.int .u8 xc, .slice ya yn ym, .iface T1 (.agg u1), .iface T2 (.agg u2)]))) (c1 : LayC w0 B bf p (.iface T1 (.agg u1))) (c2 : LayC w0 B bf q (.iface T2 (.agg u2))) : LayC w0 B bf (.ite t p q) (.iface 156 (.agg #[.int .u8 xc, .slice ya yn ym, .iface T1 (.agg u1), .iface T2 (.agg u2)])) := by
  intro a G rb cap nb xs w h hlen
  have t1 := tas_seq_ite (.agg #[.int .u8 xc, .slice ya yn ym, .iface T1 (.agg u1), .iface T2 (.agg u2)])
  have t2 := tas_ite_ite (.agg #[.int .u8 xc, .slice ya yn ym, .iface T1 (.agg u1), .iface T2 (.agg u2)])
  have bx := (Below.refl w.heap.size w).alloc (Nat.le_refl _) (.cells #[.int .u8 xc, .slice ya yn ym, .iface T1 (.agg u1), .iface T2 (.agg u2)] 156)
  have t0 := Blk.new w #[.int .u8 xc, .slice ya yn ym, .iface T1 (.agg u1), .iface T2 (.agg u2)] 156
  have hl1 := layF_len p a G
  have hl2 := layF_len q a (layF p a G).1
  simp only [Pg.all, List.length_cons, List.length_append] at hlen
  have hr := h.rlo
  have hbl := h.box.lt
  have L0 := Lib.hid (h.kept bx.drew)
  have C1 := Lib.hid (c1 a G rb cap nb xs (w.alloc (.cells #[.int .u8 xc, .slice ya yn ym, .iface T1 (.agg u1), .iface T2 (.agg u2)] 156)).drew L0.out (by omega))
  have C2 := Lib.hid c2
  have HB := Lib.hid bx.drew
  have HV := Lib.hid hv
  have hz : (w.alloc (.cells #[.int .u8 xc, .slice ya yn ym, .iface T1 (.agg u1), .iface T2 (.agg u2)] 156)).drew.heap.size = w.heap.size + 1 := by simp
  clear c1 c2 h bx L0 hv
  go_enter Tryz.func84, Tryz.ntmps84
  go_wp2_with fail
  generalize w.alloc (.cells #[.int .u8 xc, .slice ya yn ym, .iface T1 (.agg u1), .iface T2 (.agg u2)] 156) = W0 at *
  have d0 : W0.drew.cell? ⟨w.heap.size, 0, none⟩ = some (.int .u8 xc) := t0.cell 0
  have d1 : W0.drew.cell? ⟨w.heap.size, 1, none⟩ = some (.slice ya yn ym) := t0.cell 1
  have d2 : W0.drew.cell? ⟨w.heap.size, 2, none⟩ = some (.iface T1 (.agg u1)) := t0.cell 2
  have d3 : W0.drew.cell? ⟨w.heap.size, 3, none⟩ = some (.iface T2 (.agg u2)) := t0.cell 3
  have q0 : W0.cell? ⟨w.heap.size, 0, none⟩ = some (.int .u8 xc) := t0.cell 0
  have q1 : W0.cell? ⟨w.heap.size, 1, none⟩ = some (.slice ya yn ym) := t0.cell 1
  have q2 : W0.cell? ⟨w.heap.size, 2, none⟩ = some (.iface T1 (.agg u1)) := t0.cell 2
  have q3 : W0.cell? ⟨w.heap.size, 3, none⟩ = some (.iface T2 (.agg u2)) := t0.cell 3
  have hn1 : w.heap.size ≠ bf := by omega
  have hn2 : w.heap.size ≠ rb := by omega
  have HZ := Lib.hid hz
  clear hz
  go_region_held3 (fun w' => w'.cell? ⟨w.heap.size, 0, none⟩ = some (.int .u8 xc) ∧ w'.cell? ⟨w.heap.size, 1, none⟩ = some (.slice ya yn ym) ∧ w'.cell? ⟨w.heap.size, 2, none⟩ = some (.iface T1 (.agg u1)) ∧ w'.cell? ⟨w.heap.size, 3, none⟩ = some (.iface T2 (.agg u2)))
    ((go_split_ands; refine ⟨?_, ?_, ?_, ?_⟩ <;> first | assumption | exact kc2 hq (by assumption) hn1 (by assumption) | exact cput (by assumption) _))
    (first
    | (go_at_call 84; (with_reducible refine C1.out.mono ?_); rintro e w2 ⟨rfl, rb2, cap2, nb2, xs2, hL2, hq, ho2, hx2⟩; have hk2 := hq; have hn3 : w.heap.size ≠ rb2 := by (have := HZ.out; omega))
    | (go_at_call 84; (refine (C2.out a (layF p a G).1 rb2 cap2 nb2 xs2 w2 hL2 (by omega)).mono ?_); rintro e w3 ⟨rfl, rb3, cap3, nb3, xs3, hL3, hq, ho3, hx3⟩; have hk3 := hq; have hn4 : w.heap.size ≠ rb3 := by (have := HZ.out; have := hk2.size; omega))
    | (go_at_call 96; have hr3 := hL3.rlo; have hb3 := hL3.box.lt; have bx3 := (Below.refl w3.heap.size w3).alloc (Nat.le_refl _) (.cells (ints [(layF p a G).2, (layF q a (layF p a G).1).2]) 3); (refine (add_any w0 B bf rb3 cap3 nb3 xs3 (layF q a (layF p a G).1).1 (.ite t p q) 156 #[.int .u8 xc, .slice ya yn ym, .iface T1 (.agg u1), .iface T2 (.agg u2)] w3.heap.size [(layF p a G).2, (layF q a (layF p a G).1).2] (w3.alloc (.cells (ints [(layF p a G).2, (layF q a (layF p a G).1).2]) 3)) (hL3.kept bx3) (by omega) HV.out (Blk.new w3 _ _) hL3.bel.size (by omega) (by omega) (fun k hk => by (have := (hL3.nbo k hk).2.2.2; omega)) 2 rfl).mono ?_); rintro e w4 ⟨rfl, rb4, cap4, nb4, xs4, hL4, hq, ho4, hx4⟩; have hk4 := hq))
  all_goals
    have HR : Hid (LayPost w0 B bf rb nb G.length w.heap.size (layF (.ite t p q) a G).1 (layF (.ite t p q) a G).2 w (.returned (.int .i64 ((layF (.ite t p q) a G).2 : Nat))) w4) :=
      LayPost.from (lo := W0.drew.heap.size) HB.out HB.out.size ⟨rfl, rb4, cap4, nb4, xs4, hL4, kp2_two hk2 (kp2_two hk3 ((Kp2.of bx3).trans hk4) ho3) ho2, or_two ho2 (or_two ho3 (ho4.imp id fun h => Nat.le_trans bx3.size h) hk3.size) hk2.size, hx2.trans (hx3.trans hx4 hk3.size (Nat.le_of_lt (layF_ok q a _).len)) hk2.size (Nat.le_of_lt (layF_ok p a G).len)⟩
    clear hL4 hk4 ho4 hL3 hk3 ho3 hL2 hk2 ho2 hx2 hx3 hx4 C1 C2 HB bx3
    go_wp2_with fail
    go_ret
    exact HR.out
end Go.Proofs.YtopbkkmplgllkaaGreatDoor
