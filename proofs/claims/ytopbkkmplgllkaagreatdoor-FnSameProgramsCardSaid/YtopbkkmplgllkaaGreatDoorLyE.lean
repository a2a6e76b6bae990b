/-
  A flow is laid: a loop; the whole; the flow of a program.
-/
import Derived.Test.YtopbkkmplgllkaaGreatDoorLyC
import Derived.Test.YtopbkkmplgllkaaGreatDoorLyD
import Derived.Test.YtopbkkmplgllkaaGreatDoorFw0
namespace Go.Proofs.YtopbkkmplgllkaaGreatDoor
open Go.RowKit Tm Go.ChangeMaps

/-- The number of the body is written into its place. -/
theorem Lain.set {w0 w : World} {B bf rb cap : Nat} {nb : Nat → Nat} {xs : List Value} {G : List Stp} {k a0 a b : Nat} {p : Pg} (h : Lain w0 w B bf rb cap nb xs G) (hk : G[k]? = some ⟨some p, [a0, a]⟩) :
    Lain w0 (w.setCell ⟨nb k, 0, none⟩ (.int .i64 (b : Nat))) B bf rb cap nb xs (G.set k ⟨some p, [b, a]⟩) := by
  have hlt := getG_lt hk
  obtain ⟨n1, n2, n3, n4⟩ := h.nbo k hlt
  constructor
  · rw [List.length_set]; exact h.box.setOther (by exact fun e => n3 e.symm) _
  · rw [List.length_set]
    obtain ⟨h1, h2⟩ := h.row
    refine ⟨h1, ?_⟩
    rcases h2 with h2 | ⟨g, cp, cur, e1, a1, c1, d1⟩
    · exact .inl h2
    · refine .inr ⟨g, cp, cur, e1, a1, ?_, d1⟩
      injection e1 with e1
      injection e1 with e1
      injection e1 with e1
      subst e1
      rw [Below.heap_setCell _ _ _ _ (fun e => n2 e.symm)]
      exact c1
  · intro j s hj
    by_cases e : j = k
    · subst e
      rw [List.getElem?_set_self hlt] at hj
      injection hj with hj
      subst hj
      obtain ⟨x, y, h1, h2, h3⟩ := h.st _ _ hk
      obtain ⟨g1, g2, g3⟩ := h3
      refine ⟨x, y, h1, h2, g1, g2, ?_⟩
      exact Blk.set g3 0 (.int .i64 (b : Nat))
    · rw [List.getElem?_set_ne (fun h => e h.symm)] at hj
      obtain ⟨x, y, h1, h2, h3⟩ := h.st j s hj
      refine ⟨x, y, h1, h2, h3.kept fun _ => Below.heap_setCell _ _ _ _ (h.inj j k (getG_lt hj) hlt e)⟩
  · intro j hj
    rw [List.length_set] at hj
    obtain ⟨m1, m2, m3, m4⟩ := h.nbo j hj
    exact ⟨m1, m2, m3, by simpa [World.setCell] using m4⟩
  · intro i j hi hj
    rw [List.length_set] at hi hj
    exact h.inj i j hi hj
  · exact h.ne
  · exact h.lo
  · exact h.bel.setCell (p := ⟨nb k, 0, none⟩) n1 _

set_option maxRecDepth 1000000 in
set_option maxHeartbeats 8000000 in
theorem lay_whl (w0 : World) (B bf : Nat) (t : Tm) (xc : Int) (ya : Option Addr) (yn ym : Nat) (p : Pg) (T1 : TypeId) (u1 : Array Value) (hv : StV w0 B (.whl t p) (.iface 158 (.agg #[.int .u8 xc, .slice ya yn ym, .iface T1 (.agg u1)]))) (c1 : LayC w0 B bf p (.iface T1 (.agg u1))) : LayC w0 B bf (.whl t p) (.iface 158 (.agg #[.int .u8 xc, .slice ya yn ym, .iface T1 (.agg u1)])) := by
  intro a G rb cap nb xs w h hlen
  have t1 := tas_seq_whl (.agg #[.int .u8 xc, .slice ya yn ym, .iface T1 (.agg u1)])
  have t2 := tas_ite_whl (.agg #[.int .u8 xc, .slice ya yn ym, .iface T1 (.agg u1)])
  have t3 := tas_cho_whl (.agg #[.int .u8 xc, .slice ya yn ym, .iface T1 (.agg u1)])
  have t4 := tas_whl_whl (.agg #[.int .u8 xc, .slice ya yn ym, .iface T1 (.agg u1)])
  have bx := (Below.refl w.heap.size w).alloc (Nat.le_refl _) (.cells #[.int .u8 xc, .slice ya yn ym, .iface T1 (.agg u1)] 158)
  have t0 := Blk.new w #[.int .u8 xc, .slice ya yn ym, .iface T1 (.agg u1)] 158
  have hz : (w.alloc (.cells #[.int .u8 xc, .slice ya yn ym, .iface T1 (.agg u1)] 158)).heap.size = w.heap.size + 1 := by simp
  simp only [Pg.all, List.length_cons] at hlen
  have hr := h.rlo
  have hbl := h.box.lt
  have HL0 := Lib.hid (h.kept bx)
  have C1 := Lib.hid c1
  have HB := Lib.hid bx
  have HV := Lib.hid hv
  have HN := Lib.hid h.nbo
  clear c1 h bx hv
  go_enter Tryz.func84, Tryz.ntmps84
  generalize hW : w.alloc (.cells #[.int .u8 xc, .slice ya yn ym, .iface T1 (.agg u1)] 158) = W0 at t0 hz HL0 HB
  have b2 := (Below.refl W0.heap.size W0).alloc (Nat.le_refl _) (.cells #[.int .i64 0, .int .i64 a] 3)
  have kb : Blk (W0.alloc (.cells #[.int .i64 0, .int .i64 a] 3)) (w.heap.size + 1) (ints [0, a]) 3 := by
    have := Blk.new W0 #[.int .i64 0, .int .i64 a] 3
    rw [hz] at this
    exact this
  have hws := HL0.out.bel.size
  rw [hz] at hws
  have A0 := Lib.hid (add_any w0 B bf rb cap nb xs G (.whl t p) 158 #[.int .u8 xc, .slice ya yn ym, .iface T1 (.agg u1)] (w.heap.size + 1) [0, a] (W0.alloc (.cells #[.int .i64 0, .int .i64 a] 3)) (HL0.out.kept b2) (by omega) HV.out kb hws (by omega) (by omega) (fun k hk => by have := (HN.out k hk).2.2.2; omega) 2 rfl)
  clear kb hws
  have b3 := Lib.hid b2
  have hn1 : w.heap.size ≠ bf := by omega
  have hn2 : w.heap.size ≠ rb := by omega
  have tb := t0.kept b2
  have HT := Lib.hid tb
  clear b2 tb t0
  subst hW
  go_wp2_with fail
  (with_reducible refine A0.out.mono ?_)
  rintro e w2 ⟨rfl, rb2, cap2, nb2, xs2, hL2, hk2, ho2, hx2⟩
  have T2 := HT.out.kp2 hk2 hn1 hn2
  have c0 : w2.cell? ⟨w.heap.size, 0, none⟩ = some (.int .u8 xc) := T2.cell 0
  have c1 : w2.cell? ⟨w.heap.size, 1, none⟩ = some (.slice ya yn ym) := T2.cell 1
  have c2 : w2.cell? ⟨w.heap.size, 2, none⟩ = some (.iface T1 (.agg u1)) := T2.cell 2
  have D := Lib.hid (C1.out G.length (G ++ [⟨some (.whl t p), [0, a]⟩]) rb2 cap2 nb2 xs2 w2 hL2 (by simp; omega))
  have hnb : nb2 G.length ≥ w.heap.size + 1 := hx2.2 G.length (Nat.le_refl _) (by simp)
  have HX2 := Lib.hid hx2
  have HK2 := Lib.hid hk2
  have HO2 := Lib.hid ho2
  have HNB := Lib.hid hnb
  clear hL2 hk2 ho2 hx2 hnb A0 C1
  go_wp2_with fail
  (with_reducible refine D.out.mono ?_)
  rintro e w3 ⟨rfl, rb3, cap3, nb3, xs3, hL3, hk3, ho3, hx3⟩
  have hlo := layF_ok p G.length (G ++ [⟨some (.whl t p), [0, a]⟩])
  have hgk : (layF p G.length (G ++ [⟨some (.whl t p), [0, a]⟩])).1[G.length]? = some ⟨some (.whl t p), [0, a]⟩ := by rw [hlo.old G.length (by simp)]; simp
  obtain ⟨x, y, e1, e2, e3⟩ := hL3.st G.length _ hgk
  obtain ⟨e4, rfl, e6⟩ := e3
  have hlen3 := getG_lt hgk
  have m0 : w3.cell? ⟨bf, 0, none⟩ = some (.slice (some ⟨rb3, 0, none⟩) (layF p G.length (G ++ [⟨some (.whl t p), [0, a]⟩])).1.length cap3) := hL3.box.cell 0
  have m1 : w3.cell? ⟨rb3, G.length * 2 + 1, none⟩ = some (.slice (some ⟨nb3 G.length, 0, none⟩) 2 2) := by
    rw [World.ownsRow.cellAt hL3.row (G.length * 2 + 1) (by omega)]; exact e2
  have m2 : w3.cell? ⟨nb3 G.length, 0, none⟩ = some (.int .i64 0) := e6.cell 0
  have m3 := e6.free 0
  have HR : Hid (LayPost w0 B bf rb nb G.length w.heap.size (layF (.whl t p) a G).1 (layF (.whl t p) a G).2 w (.returned (.int .i64 (G.length : Nat))) (w3.setCell ⟨nb3 G.length, 0, none⟩ (.int .i64 ((layF p G.length (G ++ [⟨some (.whl t p), [0, a]⟩])).2 : Nat)))) := by
    have hb13 := hx3.1 G.length (by simp)
    have hset := hL3.set (b := (layF p G.length (G ++ [⟨some (.whl t p), [0, a]⟩])).2) hgk
    have k13 := kp2_two (Kp2.trans (Kp2.of (bnext HB.out b3.out)) HK2.out) hk3 (HO2.out.imp id fun h => Nat.le_trans (bnext HB.out b3.out).size h)
    have n13 := HX2.out.trans hx3 (lo := w.heap.size + 1) (by have := (bnext HB.out b3.out).size; have := HK2.out.size; have := b3.out.size; omega) (by simp)
    refine ⟨rfl, rb3, cap3, nb3, xs3, hset, ⟨k13.os, k13.tape, k13.output, by have := k13.size; simpa [World.setCell] using this, fun j hj h1 h2 => ?_⟩, ?_, ?_⟩
    · rw [Below.heap_setCell _ _ _ _ (by have := HNB.out; show j ≠ nb3 G.length; omega)]
      exact k13.block j hj h1 h2
    · have := HO2.out
      have := (bnext HB.out b3.out).size
      have := HK2.out.size
      omega
    · show NbX nb nb3 G.length (List.length (List.set _ _ _)) w.heap.size
      rw [List.length_set]
      exact ⟨n13.1, fun k hk hk2 => by have := n13.2 k hk hk2; omega⟩
  have hl1 : (G.length : Int) < ((layF p G.length (G ++ [⟨some (.whl t p), [0, a]⟩])).1.length : Nat) := by omega
  clear hL3 hk3 ho3 hx3 hlo e1 e2 e4 e6 hgk D HX2 HK2 HO2 c0 c1 c2 T2
  generalize (layF p G.length (G ++ [⟨some (.whl t p), [0, a]⟩])).1.length = N3 at *
  generalize (layF p G.length (G ++ [⟨some (.whl t p), [0, a]⟩])).2 = r3 at *
  go_wp2_with fail
  go_ret
  exact HR.out
end Go.Proofs.YtopbkkmplgllkaaGreatDoor
