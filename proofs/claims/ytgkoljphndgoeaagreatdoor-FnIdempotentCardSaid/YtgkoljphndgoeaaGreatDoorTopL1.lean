import Derived.Test.YtgkoljphndgoeaaGreatDoorTopF1
import Derived.Deep.RegionHeld3
import Derived.Deep.RegionWith
namespace Go.Proofs.YtgkoljphndgoeaaGreatDoor
open Go.RowKit Tm Go.ChangeMaps
def ints (l : List Nat) : Array Value := (l.map fun n => Value.int .i64 (n : Nat)).toArray
def StopB (w0 w : World) (B b : Nat) (s : Stp) (x y : Value) : Prop :=
 match s.d with
 | none => x = .nilIface ∧ y = .slice none 0 0 ∧ s.nx = []
 | some p => StV w0 B p x ∧ y = .slice (some ⟨b, 0, none⟩) s.nx.length s.nx.length ∧ Blk w b (ints s.nx) 3
structure Lain (w0 w : World) (B bf rb cap : Nat) (nb : Nat → Nat) (xs : List Value) (G : List Stp) : Prop where
 box : Blk w bf #[.slice (some ⟨rb, 0, none⟩) G.length cap, .int .i64 0] 131
 row : w.ownsRow w0.heap.size 281 2 (.slice (some ⟨rb, 0, none⟩) G.length cap) G.length xs
 st : ∀ (k : Nat) (s : Stp), G[k]? = some s → ∃ x y, xs[k * 2]? = some x ∧ xs[k * 2 + 1]? = some y ∧ StopB w0 w B (nb k) s x y
 nbo : ∀ k, k < G.length → w0.heap.size ≤ nb k ∧ nb k ≠ rb ∧ nb k ≠ bf ∧ nb k < w.heap.size
 inj : ∀ j k, j < G.length → k < G.length → j ≠ k → nb j ≠ nb k
 ne : rb ≠ bf
 lo : w0.heap.size ≤ bf
 bel : Below w0.heap.size w0 w
theorem Lain.rlo {w0 w : World} {B bf rb cap : Nat} {nb : Nat → Nat} {xs : List Value} {G : List Stp} (h : Lain w0 w B bf rb cap nb xs G) : w0.heap.size ≤ rb ∧ rb < w.heap.size := World.ownsRow.lt h.row rb rfl
theorem StopB.kept {w0 w w' : World} {B b : Nat} {s : Stp} {x y : Value} (h : StopB w0 w B b s x y) (hb : b < w.heap.size → w'.heap[b]? = w.heap[b]?) : StopB w0 w' B b s x y := by
 unfold StopB at *
 cases hd : s.d with
 | none => rw [hd] at h; exact h
 | some p =>
  rw [hd] at h
  exact ⟨h.1, h.2.1, (hb h.2.2.lt).trans h.2.2⟩
theorem Lain.kept {w0 w w' : World} {B bf rb cap : Nat} {nb : Nat → Nat} {xs : List Value} {G : List Stp} (h : Lain w0 w B bf rb cap nb xs G) (hb : Below w.heap.size w w') : Lain w0 w' B bf rb cap nb xs G where
 box := h.box.kept hb
 row := by
  obtain ⟨h1, h2⟩ := h.row
  refine ⟨h1, ?_⟩
  rcases h2 with h2 | ⟨g, cap, cur, a, b, c, d⟩
  ·exact .inl h2
  ·exact .inr ⟨g, cap, cur, a, b, (hb.block g (Array.getElem?_eq_some_iff.1 c).1).trans c, d⟩
 st := fun k s hk => by
  obtain ⟨x, y, h1, h2, h3⟩ := h.st k s hk
  exact ⟨x, y, h1, h2, h3.kept fun hlt => hb.block _ hlt⟩
 nbo := fun k hk => by
  obtain ⟨h1, h2, h3, h4⟩ := h.nbo k hk
  exact ⟨h1, h2, h3, Nat.lt_of_lt_of_le h4 hb.size⟩
 inj := h.inj
 ne := h.ne
 lo := h.lo
 bel := bnext h.bel hb
theorem infoStop : (Tryz.prog.info? 281).map (fun i => (i.zero, i.size, i.bytes)) = some (some (.agg #[.nilIface, .slice none 0 0]), 2, 40) := by kernel_rfl
def NbX (nb nb' : Nat → Nat) (n n1 lo : Nat) : Prop := (∀ k, k < n → nb' k = nb k) ∧ ∀ k, n ≤ k → k < n1 → lo ≤ nb' k
theorem NbX.trans {nb nb2 nb3 : Nat → Nat} {n n1 n2 lo lo2 : Nat} (h : NbX nb nb2 n n1 lo) (h2 : NbX nb2 nb3 n1 n2 lo2) (hl : lo ≤ lo2) (hn : n ≤ n1) : NbX nb nb3 n n2 lo := by
 refine ⟨fun k hk => (h2.1 k (by omega)).trans (h.1 k hk), fun k hk hk2 => ?_⟩
 by_cases e : k < n1
 ·rw [h2.1 k e]; exact h.2 k hk e
 ·have := h2.2 k (by omega) hk2; omega
def LayPost (w0 : World) (B bf rb : Nat) (nb : Nat → Nat) (n lo : Nat) (G1 : List Stp) (r : Nat) (w : World) (e : Ending) (w' : World) : Prop :=
 e = .returned (.int .i64 r) ∧ ∃ rb' cap' nb' xs', Lain w0 w' B bf rb' cap' nb' xs' G1 ∧ Kp2 bf rb w w' ∧ (rb' = rb ∨ w.heap.size ≤ rb') ∧ NbX nb nb' n G1.length lo
set_option maxRecDepth 1000000 in
set_option maxHeartbeats 4000000 in
theorem add_any (w0 : World) (B bf rb cap : Nat) (nb : Nat → Nat) (xs : List Value) (G : List Stp) (p : Pg) (T : TypeId) (u : Array Value) (b : Nat) (l : List Nat) (w : World) (h : Lain w0 w B bf rb cap nb xs G) (hG : G.length ≤ 1200)
  (hv : StV w0 B p (.iface T (.agg u))) (hb : Blk w b (ints l) 3) (hb1 : w0.heap.size ≤ b) (hb2 : b ≠ rb) (hb3 : b ≠ bf) (hb4 : ∀ k, k < G.length → nb k ≠ b) (n : Nat) (hn : n = l.length) :
  Calls Tryz.prog 257 #[.pointer (some ⟨bf, 0, none⟩), .iface T (.agg u), .slice (some ⟨b, 0, none⟩) n n] w (LayPost w0 B bf rb nb G.length b (G ++ [⟨some p, l⟩]) G.length w) := by
 obtain ⟨i0, hi0, hz0, hz1, hz2⟩ := info_parts infoStop
 have H := Lib.hid h
 have q0 := h.box.cell 0
 have q1 := h.box.cell 1
 have f0 := h.box.free 0
 simp at q0 q1
 have bn := Blk.new w #[.iface T (.agg u), .slice (some ⟨b, 0, none⟩) n n] 281
 have bx := (Below.refl w.heap.size w).alloc (Nat.le_refl _) (.cells #[.iface T (.agg u), .slice (some ⟨b, 0, none⟩) n n] 281)
 have HX := Lib.hid bx
 have HN := Lib.hid hn
 have HNE := Lib.hid h.ne
 clear h hn
 go_enter Tryz.func257, Tryz.ntmps257
 go_wp2_with (at_builtin; refine wpList_append_lies _ (by rfl) _ _ _ (by rfl) w0.heap.size 281 i0 _ 2 40 Tryz.underlying129 hi0 hz0 hz1 hz2 rfl (by omega) _ G.length xs (by rfl) (World.ownsRow.alloc H.out.row _) ⟨w.heap.size, 0, none⟩ 1 1 [.iface T (.agg u), .slice (some ⟨b, 0, none⟩) n n] (by rfl) (by rfl) (World.news_of_block (cs := #[.iface T (.agg u), .slice (some ⟨b, 0, none⟩) n n]) (t := 281) (fr := (0, 0)) (heap_alloc_new w _)) (by simp [Value.oneCell']) (by omega) (by unfold maxLen; omega) (by omega) (by have := H.out.bel.size; simp; omega) (w.heap.size + 1) (by simp) ?_; intro g3 cap3 w3 hown hgrow hat hlt3; have D0 := Lib.hid (Blk.grown (H.out.box.kept HX.out) hgrow (fun e => HNE.out (by injection e))); have d0 : w3.cell? ⟨bf, 0, none⟩ = some (.slice (some ⟨rb, 0, none⟩) G.length cap) := D0.out.cell 0; have d1 := D0.out.free 0)
 go_ret
 have hz : w.heap.size ≤ w3.heap.size := Nat.le_trans HX.out.size hgrow.size
 have hgo : ∀ k, k < w.heap.size → k ≠ rb → w3.heap[k]? = w.heap[k]? := fun k hk hne => (hgrow.block k (by have := HX.out.size; omega) (fun e => hne (by simpa [Value.ownBlock] using e))).trans (HX.out.block k hk)
 have hg3 : g3 = rb ∨ w.heap.size < g3 := by
  rcases hat with h1 | h1
  ·left; simpa [Value.ownBlock] using h1.symm
  ·right; omega
 have hr := H.out.rlo
 have hbf : bf < w.heap.size := H.out.box.lt
 refine ⟨by simp, g3, cap3, fun k => if k = G.length then b else nb k, xs ++ [.iface T (.agg u), .slice (some ⟨b, 0, none⟩) n n], ⟨?_, ?_, ?_, ?_, ?_, ?_, H.out.lo, ?_⟩, ?_, ?_, ?_⟩
 ·have := D0.out.set 0 (.slice (some ⟨g3, 0, none⟩) (G.length + 1) cap3)
  rw [List.length_append, List.length_singleton]
  exact this
 ·rw [List.length_append, List.length_singleton]
  have hne3 : g3 ≠ bf := by
   rcases hg3 with e | e
   ·rw [e]; exact HNE.out
   ·omega
  obtain ⟨h1, h2⟩ := hown
  refine ⟨h1, ?_⟩
  rcases h2 with ⟨h2, _⟩ | ⟨g, cp, cur, e1, a1, c1, d1⟩
  ·simp at h2
  ·refine .inr ⟨g, cp, cur, e1, a1, ?_, d1⟩
   injection e1 with e1
   injection e1 with e1
   injection e1 with e1
   subst e1
   rw [Below.heap_setCell _ _ _ _ hne3]
   exact c1
 ·intro k s hk
  have hlen : xs.length = G.length * 2 := H.out.row.1
  by_cases e : k = G.length
  ·subst e
   simp at hk
   subst hk
   refine ⟨_, _, by rw [List.getElem?_append_right (by omega), hlen, Nat.sub_self]; rfl, by rw [List.getElem?_append_right (by omega), hlen, show G.length * 2 + 1 - G.length * 2 = 1 by omega]; rfl, ?_⟩
   show StopB w0 _ B (if G.length = G.length then b else nb G.length) _ _ _
   rw [if_pos rfl]
   refine ⟨hv, by rw [HN.out], ?_⟩
   show _ = _
   rw [Below.heap_setCell _ _ _ _ hb3, hgo b hb.lt hb2]
   exact hb
  ·have hk' : k < G.length := by
    have := getG_lt hk
    simp at this; omega
   rw [List.getElem?_append_left hk'] at hk
   obtain ⟨x, y, h1, h2, h3⟩ := H.out.st k s hk
   obtain ⟨n1, n2, n3, n4⟩ := H.out.nbo k hk'
   refine ⟨x, y, by rw [List.getElem?_append_left (by omega)]; exact h1, by rw [List.getElem?_append_left (by omega)]; exact h2, ?_⟩
   rw [if_neg e]
   exact h3.kept fun hlt => by rw [Below.heap_setCell _ _ _ _ n3, hgo _ hlt n2]
 ·intro k hk
  have hs3 : w3.heap.size ≤ (w3.setCell ⟨bf, 0, none⟩ (.slice (some ⟨g3, 0, none⟩) (G.length + 1) cap3)).heap.size := by simp [World.setCell]
  have hbl := hb.lt
  by_cases e : k = G.length
  ·rw [if_pos e]
   refine ⟨hb1, ?_, hb3, by omega⟩
   rcases hg3 with e | e
   ·rw [e]; exact hb2
   ·omega
  ·rw [if_neg e]
   obtain ⟨n1, n2, n3, n4⟩ := H.out.nbo k (by simp at hk; omega)
   refine ⟨n1, ?_, n3, by omega⟩
   rcases hg3 with e | e
   ·rw [e]; exact n2
   ·omega
 ·intro j k hj hk hne
  simp at hj hk
  by_cases e : j = G.length
  ·rw [if_pos e, if_neg (by omega)]
   exact fun h => hb4 k (by omega) h.symm
  ·rw [if_neg e]
   by_cases e2 : k = G.length
   ·rw [if_pos e2]; exact hb4 j (by omega)
   ·rw [if_neg e2]; exact H.out.inj j k (by omega) (by omega) hne
 ·rcases hg3 with e | e
  ·rw [e]; exact HNE.out
  ·omega
 ·exact ((bnext H.out.bel HX.out).grown hgrow (bnext H.out.bel HX.out).size (fun k hk => by
   have e : rb = k := by injection hk
   omega)).setCell (p := ⟨bf, 0, none⟩) H.out.lo _
 ·refine ⟨hgrow.os.trans HX.out.os, hgrow.tape.trans HX.out.tape, hgrow.output.trans HX.out.output, by simpa [World.setCell] using hz, fun k hk h1 h2 => ?_⟩
  rw [Below.heap_setCell _ _ _ _ h1]
  exact hgo k hk h2
 ·rcases hg3 with e | e
  ·exact .inl e
  ·exact .inr (by omega)
 ·refine ⟨fun k hk => if_neg (by omega), fun k hk hk2 => ?_⟩
  have e : k = G.length := by simp at hk2; omega
  show b ≤ (if k = G.length then b else nb k)
  rw [if_pos e]; exact Nat.le_refl _
theorem kc2 {a b : Nat} {w w' : World} (hk : Kp2 a b w w') {k o : Nat} {v : Value} (h : w.cell? ⟨k, o, none⟩ = some v) (h1 : k ≠ a) (h2 : k ≠ b) : w'.cell? ⟨k, o, none⟩ = some v :=
 (World.cell?_of_block (w := w) (hk.block k (World.block_lt_of_cell? w ⟨k, o, none⟩ h) h1 h2)).trans h
def LayC (w0 : World) (B bf : Nat) (p : Pg) (v : Value) : Prop := ∀ (a : Nat) (G : List Stp) (rb cap : Nat) (nb : Nat → Nat) (xs : List Value) (w : World), Lain w0 w B bf rb cap nb xs G → G.length + p.all.length ≤ 1200 →
 Calls Tryz.prog 224 #[.pointer (some ⟨bf, 0, none⟩), v, .int .i64 a] w (LayPost w0 B bf rb nb G.length w.heap.size (layF p a G).1 (layF p a G).2 w)
theorem LayPost.from {w0 : World} {B bf rb : Nat} {nb : Nat → Nat} {n lo lo2 : Nat} {G1 : List Stp} {r : Nat} {w w1 w' : World} {e : Ending} (hb : Below w.heap.size w w1) (hl : lo2 ≤ lo) (h : LayPost w0 B bf rb nb n lo G1 r w1 e w') : LayPost w0 B bf rb nb n lo2 G1 r w e w' := by
 obtain ⟨he, rb', cap', nb', xs', h1, h2, h3, h4⟩ := h
 exact ⟨he, rb', cap', nb', xs', h1, (Kp2.of hb).trans h2, h3.imp id fun h => Nat.le_trans hb.size h, h4.1, fun k hk hk2 => Nat.le_trans hl (h4.2 k hk hk2)⟩
theorem kp2_two {bf rb rb2 : Nat} {w w2 w3 : World} (h1 : Kp2 bf rb w w2) (h2 : Kp2 bf rb2 w2 w3) (ho : rb2 = rb ∨ w.heap.size ≤ rb2) : Kp2 bf rb w w3 :=
 ⟨h2.os.trans h1.os, h2.tape.trans h1.tape, h2.output.trans h1.output, Nat.le_trans h1.size h2.size, fun k hk a b => (h2.block k (Nat.lt_of_lt_of_le hk h1.size) a (by rcases ho with e | e <;> omega)).trans (h1.block k hk a b)⟩
theorem or_two {rb rb2 rb3 n n2 : Nat} (h2 : rb2 = rb ∨ n ≤ rb2) (h3 : rb3 = rb2 ∨ n2 ≤ rb3) (hn : n ≤ n2) : rb3 = rb ∨ n ≤ rb3 := by omega
theorem cput {w : World} {b o : Nat} {v : Value} (h : w.cell? ⟨b, o, none⟩ = some v) (ob : Obj) : (w.alloc ob).cell? ⟨b, o, none⟩ = some v := ckeep ((Below.refl _ _).alloc (Nat.le_refl _) ob) h
theorem layF_len (p : Pg) : ∀ (a : Nat) (G : List Stp), (layF p a G).1.length ≤ G.length + p.all.length := by
 induction p with
 | skip => intro a G; simp [layF, Pg.all]
 | asg v e => intro a G; simp [layF, Pg.all]
 | asm t => intro a G; simp [layF, Pg.all]
 | seq p q ihp ihq =>
  intro a G
  have h1 := ihp (layF q a G).2 (layF q a G).1
  have h2 := ihq a G
  simp only [layF, Pg.all, List.length_cons, List.length_append]
  omega
 | ite t p q ihp ihq =>
  intro a G
  have h1 := ihp a G
  have h2 := ihq a (layF p a G).1
  simp only [layF, Pg.all, List.length_cons, List.length_append, List.length_nil]
  omega
 | cho p q ihp ihq =>
  intro a G
  have h1 := ihp a G
  have h2 := ihq a (layF p a G).1
  simp only [layF, Pg.all, List.length_cons, List.length_append, List.length_nil]
  omega
 | whl t p ihp =>
  intro a G
  have h1 := ihp G.length (G ++ [⟨some (.whl t p), [0, a]⟩])
  simp only [layF, Pg.all, List.length_cons, List.length_set, List.length_append, List.length_nil] at h1 ⊢
  omega
set_option maxRecDepth 1000000 in
set_option maxHeartbeats 4000000 in
theorem lay_one (w0 : World) (B bf : Nat) (p : Pg) (T : TypeId) (u : Array Value) (z1 z2 z3 z4 : Value) (hv : StV w0 B p (.iface T (.agg u)))
  (t1 : ∀ W, (Instr.typeAssert (.iface T (.agg u)) 72 275 true).run Tryz.prog W = .ok (.tuple #[z1, .bool false]) W)
  (t2 : ∀ W, (Instr.typeAssert (.iface T (.agg u)) 72 277 true).run Tryz.prog W = .ok (.tuple #[z2, .bool false]) W)
  (t3 : ∀ W, (Instr.typeAssert (.iface T (.agg u)) 72 150 true).run Tryz.prog W = .ok (.tuple #[z3, .bool false]) W)
  (t4 : ∀ W, (Instr.typeAssert (.iface T (.agg u)) 72 156 true).run Tryz.prog W = .ok (.tuple #[z4, .bool false]) W)
  (hF : ∀ a G, layF p a G = (G ++ [⟨some p, [a]⟩], G.length)) : LayC w0 B bf p (.iface T (.agg u)) := by
 intro a G rb cap nb xs w h hlen
 rw [hF]
 have bx := (Below.refl w.heap.size w).alloc (Nat.le_refl _) (.cells #[.int .i64 a] 3)
 have hr := h.rlo
 have hbl := h.box.lt
 have C := add_any w0 B bf rb cap nb xs G p T u w.heap.size [a] (w.alloc (.cells #[.int .i64 a] 3)) (h.kept bx) (by omega) hv (Blk.new w #[.int .i64 a] 3) h.bel.size (by omega) (by omega) (fun k hk => by have := (h.nbo k hk).2.2.2; omega) 1 rfl
 have HC := Lib.hid C
 have HB := Lib.hid bx
 clear C hr hbl h hv hF bx hlen
 go_enter Tryz.func224, Tryz.ntmps224
 go_wp2_with fail
 refine HC.out.mono ?_
 rintro e w' hp
 have HP := Lib.hid (LayPost.from HB.out (Nat.le_refl _) hp)
 obtain ⟨rfl, _⟩ := hp
 go_wp2_with fail
 go_ret
 exact HP.out
set_option maxRecDepth 1000000 in
set_option maxHeartbeats 4000000 in
theorem lay_seq (w0 : World) (B bf : Nat) (p q : Pg) (T1 T2 : TypeId) (u1 u2 : Array Value) (c1 : LayC w0 B bf p (.iface T1 (.agg u1))) (c2 : LayC w0 B bf q (.iface T2 (.agg u2))) : LayC w0 B bf (.seq p q) (.iface 275 (.agg #[.iface T1 (.agg u1), .iface T2 (.agg u2)])) := by
 intro a G rb cap nb xs w h hlen
 have t1 := tas_seq_seq (.agg #[.iface T1 (.agg u1), .iface T2 (.agg u2)])
 have bx := (Below.refl w.heap.size w).alloc (Nat.le_refl _) (.cells #[.iface T1 (.agg u1), .iface T2 (.agg u2)] 275)
 have t0 := Blk.new w #[.iface T1 (.agg u1), .iface T2 (.agg u2)] 275
 have hl2 := layF_len q a G
 simp only [Pg.all, List.length_cons, List.length_append] at hlen
 have hr := h.rlo
 have hbl := h.box.lt
 have L0 := Lib.hid (h.kept bx.drew)
 have C2 := Lib.hid (c2 a G rb cap nb xs (w.alloc (.cells #[.iface T1 (.agg u1), .iface T2 (.agg u2)] 275)).drew L0.out (by omega))
 have C1 := Lib.hid c1
 have HB := Lib.hid bx.drew
 clear c1 c2 h bx L0
 go_enter Tryz.func224, Tryz.ntmps224
 go_wp2_with fail
 generalize w.alloc (.cells #[.iface T1 (.agg u1), .iface T2 (.agg u2)] 275) = W0 at *
 have q0 : W0.cell? ⟨w.heap.size, 0, none⟩ = some (.iface T1 (.agg u1)) := t0.cell 0
 have q1 : W0.cell? ⟨w.heap.size, 1, none⟩ = some (.iface T2 (.agg u2)) := t0.cell 1
 have d0 : W0.drew.cell? ⟨w.heap.size, 0, none⟩ = some (.iface T1 (.agg u1)) := q0
 have hn1 : w.heap.size ≠ bf := by omega
 have hn2 : w.heap.size ≠ rb := by omega
 go_region_with (first
  | (go_at_call 224; (with_reducible refine C2.out.mono ?_); rintro e w2 ⟨rfl, rb2, cap2, nb2, xs2, hL2, hk2, ho2, hx2⟩; have z0 := kc2 hk2 d0 hn1 hn2)
  | (go_at_call 224; (refine (C1.out _ _ rb2 cap2 nb2 xs2 w2 hL2 (by omega)).mono ?_); rintro e w3 ⟨rfl, rb3, cap3, nb3, xs3, hL3, hk3, ho3, hx3⟩))
 all_goals
  have HR : Hid (LayPost w0 B bf rb nb G.length w.heap.size (layF p (layF q a G).2 (layF q a G).1).1 (layF p (layF q a G).2 (layF q a G).1).2 w (.returned (.int .i64 ((layF p (layF q a G).2 (layF q a G).1).2 : Nat))) w3) :=
   LayPost.from (lo := W0.drew.heap.size) HB.out HB.out.size ⟨rfl, rb3, cap3, nb3, xs3, hL3, kp2_two hk2 hk3 ho2, or_two ho2 ho3 hk2.size, hx2.trans hx3 hk2.size (Nat.le_of_lt (layF_ok q a G).len)⟩
  clear hL3 hk3 ho3 hL2 hk2 ho2 hx2 hx3 z0 C1 C2 HB
  go_wp2_with fail
  go_ret
  exact HR.out
set_option maxRecDepth 1000000 in
set_option maxHeartbeats 8000000 in
theorem lay_ite (w0 : World) (B bf : Nat) (t : Tm) (xc : Int) (ya : Option Addr) (yn ym : Nat) (p q : Pg) (T1 T2 : TypeId) (u1 u2 : Array Value) (hv : StV w0 B (.ite t p q) (.iface 277 (.agg #[.int .u8 xc, .slice ya yn ym, .iface T1 (.agg u1), .iface T2 (.agg u2)]))) (c1 : LayC w0 B bf p (.iface T1 (.agg u1))) (c2 : LayC w0 B bf q (.iface T2 (.agg u2))) : LayC w0 B bf (.ite t p q) (.iface 277 (.agg #[.int .u8 xc, .slice ya yn ym, .iface T1 (.agg u1), .iface T2 (.agg u2)])) := by
 intro a G rb cap nb xs w h hlen
 have t1 := tas_seq_ite (.agg #[.int .u8 xc, .slice ya yn ym, .iface T1 (.agg u1), .iface T2 (.agg u2)])
 have t2 := tas_ite_ite (.agg #[.int .u8 xc, .slice ya yn ym, .iface T1 (.agg u1), .iface T2 (.agg u2)])
 have bx := (Below.refl w.heap.size w).alloc (Nat.le_refl _) (.cells #[.int .u8 xc, .slice ya yn ym, .iface T1 (.agg u1), .iface T2 (.agg u2)] 277)
 have t0 := Blk.new w #[.int .u8 xc, .slice ya yn ym, .iface T1 (.agg u1), .iface T2 (.agg u2)] 277
 have hl1 := layF_len p a G
 have hl2 := layF_len q a (layF p a G).1
 simp only [Pg.all, List.length_cons, List.length_append] at hlen
 have hr := h.rlo
 have hbl := h.box.lt
 have L0 := Lib.hid (h.kept bx.drew)
 have C1 := Lib.hid (c1 a G rb cap nb xs (w.alloc (.cells #[.int .u8 xc, .slice ya yn ym, .iface T1 (.agg u1), .iface T2 (.agg u2)] 277)).drew L0.out (by omega))
 have C2 := Lib.hid c2
 have HB := Lib.hid bx.drew
 have HV := Lib.hid hv
 have hz : (w.alloc (.cells #[.int .u8 xc, .slice ya yn ym, .iface T1 (.agg u1), .iface T2 (.agg u2)] 277)).drew.heap.size = w.heap.size + 1 := by simp
 clear c1 c2 h bx L0 hv
 go_enter Tryz.func224, Tryz.ntmps224
 go_wp2_with fail
 generalize w.alloc (.cells #[.int .u8 xc, .slice ya yn ym, .iface T1 (.agg u1), .iface T2 (.agg u2)] 277) = W0 at *
 have d0 : W0.drew.cell? ⟨w.heap.size, 0, none⟩ = some (.int .u8 xc) := t0.cell 0
 have d1 : W0.drew.cell? ⟨w.heap.size, 1, none⟩ = some (.slice ya yn ym) := t0.cell 1
 have d2 : W0.drew.cell? ⟨w.heap.size, 2, none⟩ = some (.iface T1 (.agg u1)) := t0.cell 2
 have d3 : W0.drew.cell? ⟨w.heap.size, 3, none⟩ = some (.iface T2 (.agg u2)) := t0.cell 3
 have q0 : W0.cell? ⟨w.heap.size, 0, none⟩ = some (.int .u8 xc) := t0.cell 0
 have q1 : W0.cell? ⟨w.heap.size, 1, none⟩ = some (.slice ya yn ym) := t0.cell 1
 have q2 : W0.cell? ⟨w.heap.size, 2, none⟩ = some (.iface T1 (.agg u1)) := t0.cell 2
 have q3 : W0.cell? ⟨w.heap.size, 3, none⟩ = some (.iface T2 (.agg u2)) := t0.cell 3
 have hn1 : w.heap.size ≠ bf := by omega
 have hn2 : w.heap.size ≠ rb := by omega
 have HZ := Lib.hid hz
 clear hz
 go_region_held3 (fun w' => w'.cell? ⟨w.heap.size, 0, none⟩ = some (.int .u8 xc) ∧ w'.cell? ⟨w.heap.size, 1, none⟩ = some (.slice ya yn ym) ∧ w'.cell? ⟨w.heap.size, 2, none⟩ = some (.iface T1 (.agg u1)) ∧ w'.cell? ⟨w.heap.size, 3, none⟩ = some (.iface T2 (.agg u2)))
  ((go_split_ands; refine ⟨?_, ?_, ?_, ?_⟩ <;> first | assumption | exact kc2 hq (by assumption) hn1 (by assumption) | exact cput (by assumption) _))
  (first
  | (go_at_call 224; (with_reducible refine C1.out.mono ?_); rintro e w2 ⟨rfl, rb2, cap2, nb2, xs2, hL2, hq, ho2, hx2⟩; have hk2 := hq; have hn3 : w.heap.size ≠ rb2 := by (have := HZ.out; omega))
  | (go_at_call 224; (refine (C2.out a (layF p a G).1 rb2 cap2 nb2 xs2 w2 hL2 (by omega)).mono ?_); rintro e w3 ⟨rfl, rb3, cap3, nb3, xs3, hL3, hq, ho3, hx3⟩; have hk3 := hq; have hn4 : w.heap.size ≠ rb3 := by (have := HZ.out; have := hk2.size; omega))
  | (go_at_call 257; have hr3 := hL3.rlo; have hb3 := hL3.box.lt; have bx3 := (Below.refl w3.heap.size w3).alloc (Nat.le_refl _) (.cells (ints [(layF p a G).2, (layF q a (layF p a G).1).2]) 3); (refine (add_any w0 B bf rb3 cap3 nb3 xs3 (layF q a (layF p a G).1).1 (.ite t p q) 277 #[.int .u8 xc, .slice ya yn ym, .iface T1 (.agg u1), .iface T2 (.agg u2)] w3.heap.size [(layF p a G).2, (layF q a (layF p a G).1).2] (w3.alloc (.cells (ints [(layF p a G).2, (layF q a (layF p a G).1).2]) 3)) (hL3.kept bx3) (by omega) HV.out (Blk.new w3 _ _) hL3.bel.size (by omega) (by omega) (fun k hk => by (have := (hL3.nbo k hk).2.2.2; omega)) 2 rfl).mono ?_); rintro e w4 ⟨rfl, rb4, cap4, nb4, xs4, hL4, hq, ho4, hx4⟩; have hk4 := hq))
 all_goals
  have HR : Hid (LayPost w0 B bf rb nb G.length w.heap.size (layF (.ite t p q) a G).1 (layF (.ite t p q) a G).2 w (.returned (.int .i64 ((layF (.ite t p q) a G).2 : Nat))) w4) :=
   LayPost.from (lo := W0.drew.heap.size) HB.out HB.out.size ⟨rfl, rb4, cap4, nb4, xs4, hL4, kp2_two hk2 (kp2_two hk3 ((Kp2.of bx3).trans hk4) ho3) ho2, or_two ho2 (or_two ho3 (ho4.imp id fun h => Nat.le_trans bx3.size h) hk3.size) hk2.size, hx2.trans (hx3.trans hx4 hk3.size (Nat.le_of_lt (layF_ok q a _).len)) hk2.size (Nat.le_of_lt (layF_ok p a G).len)⟩
  clear hL4 hk4 ho4 hL3 hk3 ho3 hL2 hk2 ho2 hx2 hx3 hx4 C1 C2 HB bx3
  go_wp2_with fail
  go_ret
  exact HR.out
set_option maxRecDepth 1000000 in
set_option maxHeartbeats 8000000 in
theorem lay_cho (w0 : World) (B bf : Nat)  (p q : Pg) (T1 T2 : TypeId) (u1 u2 : Array Value) (hv : StV w0 B (.cho p q) (.iface 150 (.agg #[.iface T1 (.agg u1), .iface T2 (.agg u2)]))) (c1 : LayC w0 B bf p (.iface T1 (.agg u1))) (c2 : LayC w0 B bf q (.iface T2 (.agg u2))) : LayC w0 B bf (.cho p q) (.iface 150 (.agg #[.iface T1 (.agg u1), .iface T2 (.agg u2)])) := by
 intro a G rb cap nb xs w h hlen
 have t1 := tas_seq_cho (.agg #[.iface T1 (.agg u1), .iface T2 (.agg u2)])
 have t2 := tas_ite_cho (.agg #[.iface T1 (.agg u1), .iface T2 (.agg u2)])
 have t3 := tas_cho_cho (.agg #[.iface T1 (.agg u1), .iface T2 (.agg u2)])
 have bx := (Below.refl w.heap.size w).alloc (Nat.le_refl _) (.cells #[.iface T1 (.agg u1), .iface T2 (.agg u2)] 150)
 have t0 := Blk.new w #[.iface T1 (.agg u1), .iface T2 (.agg u2)] 150
 have hl1 := layF_len p a G
 have hl2 := layF_len q a (layF p a G).1
 simp only [Pg.all, List.length_cons, List.length_append] at hlen
 have hr := h.rlo
 have hbl := h.box.lt
 have L0 := Lib.hid (h.kept bx.drew)
 have C1 := Lib.hid (c1 a G rb cap nb xs (w.alloc (.cells #[.iface T1 (.agg u1), .iface T2 (.agg u2)] 150)).drew L0.out (by omega))
 have C2 := Lib.hid c2
 have HB := Lib.hid bx.drew
 have HV := Lib.hid hv
 have hz : (w.alloc (.cells #[.iface T1 (.agg u1), .iface T2 (.agg u2)] 150)).drew.heap.size = w.heap.size + 1 := by simp
 clear c1 c2 h bx L0 hv
 go_enter Tryz.func224, Tryz.ntmps224
 go_wp2_with fail
 generalize w.alloc (.cells #[.iface T1 (.agg u1), .iface T2 (.agg u2)] 150) = W0 at *
 have d0 : W0.drew.cell? ⟨w.heap.size, 0, none⟩ = some (.iface T1 (.agg u1)) := t0.cell 0
 have d1 : W0.drew.cell? ⟨w.heap.size, 1, none⟩ = some (.iface T2 (.agg u2)) := t0.cell 1
 have q0 : W0.cell? ⟨w.heap.size, 0, none⟩ = some (.iface T1 (.agg u1)) := t0.cell 0
 have q1 : W0.cell? ⟨w.heap.size, 1, none⟩ = some (.iface T2 (.agg u2)) := t0.cell 1
 have hn1 : w.heap.size ≠ bf := by omega
 have hn2 : w.heap.size ≠ rb := by omega
 have HZ := Lib.hid hz
 clear hz
 go_region_held3 (fun w' => w'.cell? ⟨w.heap.size, 0, none⟩ = some (.iface T1 (.agg u1)) ∧ w'.cell? ⟨w.heap.size, 1, none⟩ = some (.iface T2 (.agg u2)))
  ((go_split_ands; refine ⟨?_, ?_⟩ <;> first | assumption | exact kc2 hq (by assumption) hn1 (by assumption) | exact cput (by assumption) _))
  (first
  | (go_at_call 224; (with_reducible refine C1.out.mono ?_); rintro e w2 ⟨rfl, rb2, cap2, nb2, xs2, hL2, hq, ho2, hx2⟩; have hk2 := hq; have hn3 : w.heap.size ≠ rb2 := by (have := HZ.out; omega))
  | (go_at_call 224; (refine (C2.out a (layF p a G).1 rb2 cap2 nb2 xs2 w2 hL2 (by omega)).mono ?_); rintro e w3 ⟨rfl, rb3, cap3, nb3, xs3, hL3, hq, ho3, hx3⟩; have hk3 := hq; have hn4 : w.heap.size ≠ rb3 := by (have := HZ.out; have := hk2.size; omega))
  | (go_at_call 257; have hr3 := hL3.rlo; have hb3 := hL3.box.lt; have bx3 := (Below.refl w3.heap.size w3).alloc (Nat.le_refl _) (.cells (ints [(layF p a G).2, (layF q a (layF p a G).1).2]) 3); (refine (add_any w0 B bf rb3 cap3 nb3 xs3 (layF q a (layF p a G).1).1 (.cho p q) 150 #[.iface T1 (.agg u1), .iface T2 (.agg u2)] w3.heap.size [(layF p a G).2, (layF q a (layF p a G).1).2] (w3.alloc (.cells (ints [(layF p a G).2, (layF q a (layF p a G).1).2]) 3)) (hL3.kept bx3) (by omega) HV.out (Blk.new w3 _ _) hL3.bel.size (by omega) (by omega) (fun k hk => by (have := (hL3.nbo k hk).2.2.2; omega)) 2 rfl).mono ?_); rintro e w4 ⟨rfl, rb4, cap4, nb4, xs4, hL4, hq, ho4, hx4⟩; have hk4 := hq))
 all_goals
  have HR : Hid (LayPost w0 B bf rb nb G.length w.heap.size (layF (.cho p q) a G).1 (layF (.cho p q) a G).2 w (.returned (.int .i64 ((layF (.cho p q) a G).2 : Nat))) w4) :=
   LayPost.from (lo := W0.drew.heap.size) HB.out HB.out.size ⟨rfl, rb4, cap4, nb4, xs4, hL4, kp2_two hk2 (kp2_two hk3 ((Kp2.of bx3).trans hk4) ho3) ho2, or_two ho2 (or_two ho3 (ho4.imp id fun h => Nat.le_trans bx3.size h) hk3.size) hk2.size, hx2.trans (hx3.trans hx4 hk3.size (Nat.le_of_lt (layF_ok q a _).len)) hk2.size (Nat.le_of_lt (layF_ok p a G).len)⟩
  clear hL4 hk4 ho4 hL3 hk3 ho3 hL2 hk2 ho2 hx2 hx3 hx4 C1 C2 HB bx3
  go_wp2_with fail
  go_ret
  exact HR.out
theorem Lain.set {w0 w : World} {B bf rb cap : Nat} {nb : Nat → Nat} {xs : List Value} {G : List Stp} {k a0 a b : Nat} {p : Pg} (h : Lain w0 w B bf rb cap nb xs G) (hk : G[k]? = some ⟨some p, [a0, a]⟩) :
  Lain w0 (w.setCell ⟨nb k, 0, none⟩ (.int .i64 (b : Nat))) B bf rb cap nb xs (G.set k ⟨some p, [b, a]⟩) := by
 have hlt := getG_lt hk
 obtain ⟨n1, n2, n3, n4⟩ := h.nbo k hlt
 constructor
 ·rw [List.length_set]; exact h.box.setOther (by exact fun e => n3 e.symm) _
 ·rw [List.length_set]
  obtain ⟨h1, h2⟩ := h.row
  refine ⟨h1, ?_⟩
  rcases h2 with h2 | ⟨g, cp, cur, e1, a1, c1, d1⟩
  ·exact .inl h2
  ·refine .inr ⟨g, cp, cur, e1, a1, ?_, d1⟩
   injection e1 with e1
   injection e1 with e1
   injection e1 with e1
   subst e1
   rw [Below.heap_setCell _ _ _ _ (fun e => n2 e.symm)]
   exact c1
 ·intro j s hj
  by_cases e : j = k
  ·subst e
   rw [List.getElem?_set_self hlt] at hj
   injection hj with hj
   subst hj
   obtain ⟨x, y, h1, h2, h3⟩ := h.st _ _ hk
   obtain ⟨g1, g2, g3⟩ := h3
   refine ⟨x, y, h1, h2, g1, g2, ?_⟩
   exact Blk.set g3 0 (.int .i64 (b : Nat))
  ·rw [List.getElem?_set_ne (fun h => e h.symm)] at hj
   obtain ⟨x, y, h1, h2, h3⟩ := h.st j s hj
   refine ⟨x, y, h1, h2, h3.kept fun _ => Below.heap_setCell _ _ _ _ (h.inj j k (getG_lt hj) hlt e)⟩
 ·intro j hj
  rw [List.length_set] at hj
  obtain ⟨m1, m2, m3, m4⟩ := h.nbo j hj
  exact ⟨m1, m2, m3, by simpa [World.setCell] using m4⟩
 ·intro i j hi hj
  rw [List.length_set] at hi hj
  exact h.inj i j hi hj
 ·exact h.ne
 ·exact h.lo
 ·exact h.bel.setCell (p := ⟨nb k, 0, none⟩) n1 _
set_option maxRecDepth 1000000 in
set_option maxHeartbeats 8000000 in
theorem lay_whl (w0 : World) (B bf : Nat) (t : Tm) (xc : Int) (ya : Option Addr) (yn ym : Nat) (p : Pg) (T1 : TypeId) (u1 : Array Value) (hv : StV w0 B (.whl t p) (.iface 156 (.agg #[.int .u8 xc, .slice ya yn ym, .iface T1 (.agg u1)]))) (c1 : LayC w0 B bf p (.iface T1 (.agg u1))) : LayC w0 B bf (.whl t p) (.iface 156 (.agg #[.int .u8 xc, .slice ya yn ym, .iface T1 (.agg u1)])) := by
 intro a G rb cap nb xs w h hlen
 have t1 := tas_seq_whl (.agg #[.int .u8 xc, .slice ya yn ym, .iface T1 (.agg u1)])
 have t2 := tas_ite_whl (.agg #[.int .u8 xc, .slice ya yn ym, .iface T1 (.agg u1)])
 have t3 := tas_cho_whl (.agg #[.int .u8 xc, .slice ya yn ym, .iface T1 (.agg u1)])
 have t4 := tas_whl_whl (.agg #[.int .u8 xc, .slice ya yn ym, .iface T1 (.agg u1)])
 have bx := (Below.refl w.heap.size w).alloc (Nat.le_refl _) (.cells #[.int .u8 xc, .slice ya yn ym, .iface T1 (.agg u1)] 156)
 have t0 := Blk.new w #[.int .u8 xc, .slice ya yn ym, .iface T1 (.agg u1)] 156
 have hz : (w.alloc (.cells #[.int .u8 xc, .slice ya yn ym, .iface T1 (.agg u1)] 156)).heap.size = w.heap.size + 1 := by simp
 simp only [Pg.all, List.length_cons] at hlen
 have hr := h.rlo
 have hbl := h.box.lt
 have HL0 := Lib.hid (h.kept bx)
 have C1 := Lib.hid c1
 have HB := Lib.hid bx
 have HV := Lib.hid hv
 have HN := Lib.hid h.nbo
 clear c1 h bx hv
 go_enter Tryz.func224, Tryz.ntmps224
 generalize hW : w.alloc (.cells #[.int .u8 xc, .slice ya yn ym, .iface T1 (.agg u1)] 156) = W0 at t0 hz HL0 HB
 have b2 := (Below.refl W0.heap.size W0).alloc (Nat.le_refl _) (.cells #[.int .i64 0, .int .i64 a] 3)
 have kb : Blk (W0.alloc (.cells #[.int .i64 0, .int .i64 a] 3)) (w.heap.size + 1) (ints [0, a]) 3 := by
  have := Blk.new W0 #[.int .i64 0, .int .i64 a] 3
  rw [hz] at this
  exact this
 have hws := HL0.out.bel.size
 rw [hz] at hws
 have A0 := Lib.hid (add_any w0 B bf rb cap nb xs G (.whl t p) 156 #[.int .u8 xc, .slice ya yn ym, .iface T1 (.agg u1)] (w.heap.size + 1) [0, a] (W0.alloc (.cells #[.int .i64 0, .int .i64 a] 3)) (HL0.out.kept b2) (by omega) HV.out kb hws (by omega) (by omega) (fun k hk => by have := (HN.out k hk).2.2.2; omega) 2 rfl)
 clear kb hws
 have b3 := Lib.hid b2
 have hn1 : w.heap.size ≠ bf := by omega
 have hn2 : w.heap.size ≠ rb := by omega
 have tb := t0.kept b2
 have HT := Lib.hid tb
 clear b2 tb t0
 subst hW
 go_wp2_with fail
 (with_reducible refine A0.out.mono ?_)
 rintro e w2 ⟨rfl, rb2, cap2, nb2, xs2, hL2, hk2, ho2, hx2⟩
 have T2 := HT.out.kp2 hk2 hn1 hn2
 have c0 : w2.cell? ⟨w.heap.size, 0, none⟩ = some (.int .u8 xc) := T2.cell 0
 have c1 : w2.cell? ⟨w.heap.size, 1, none⟩ = some (.slice ya yn ym) := T2.cell 1
 have c2 : w2.cell? ⟨w.heap.size, 2, none⟩ = some (.iface T1 (.agg u1)) := T2.cell 2
 have D := Lib.hid (C1.out G.length (G ++ [⟨some (.whl t p), [0, a]⟩]) rb2 cap2 nb2 xs2 w2 hL2 (by simp; omega))
 have hnb : nb2 G.length ≥ w.heap.size + 1 := hx2.2 G.length (Nat.le_refl _) (by simp)
 have HX2 := Lib.hid hx2
 have HK2 := Lib.hid hk2
 have HO2 := Lib.hid ho2
 have HNB := Lib.hid hnb
 clear hL2 hk2 ho2 hx2 hnb A0 C1
 go_wp2_with fail
 (with_reducible refine D.out.mono ?_)
 rintro e w3 ⟨rfl, rb3, cap3, nb3, xs3, hL3, hk3, ho3, hx3⟩
 have hlo := layF_ok p G.length (G ++ [⟨some (.whl t p), [0, a]⟩])
 have hgk : (layF p G.length (G ++ [⟨some (.whl t p), [0, a]⟩])).1[G.length]? = some ⟨some (.whl t p), [0, a]⟩ := by rw [hlo.old G.length (by simp)]; simp
 obtain ⟨x, y, e1, e2, e3⟩ := hL3.st G.length _ hgk
 obtain ⟨e4, rfl, e6⟩ := e3
 have hlen3 := getG_lt hgk
 have m0 : w3.cell? ⟨bf, 0, none⟩ = some (.slice (some ⟨rb3, 0, none⟩) (layF p G.length (G ++ [⟨some (.whl t p), [0, a]⟩])).1.length cap3) := hL3.box.cell 0
 have m1 : w3.cell? ⟨rb3, G.length * 2 + 1, none⟩ = some (.slice (some ⟨nb3 G.length, 0, none⟩) 2 2) := by
  rw [World.ownsRow.cellAt hL3.row (G.length * 2 + 1) (by omega)]; exact e2
 have m2 : w3.cell? ⟨nb3 G.length, 0, none⟩ = some (.int .i64 0) := e6.cell 0
 have m3 := e6.free 0
 have HR : Hid (LayPost w0 B bf rb nb G.length w.heap.size (layF (.whl t p) a G).1 (layF (.whl t p) a G).2 w (.returned (.int .i64 (G.length : Nat))) (w3.setCell ⟨nb3 G.length, 0, none⟩ (.int .i64 ((layF p G.length (G ++ [⟨some (.whl t p), [0, a]⟩])).2 : Nat)))) := by
  have hb13 := hx3.1 G.length (by simp)
  have hset := hL3.set (b := (layF p G.length (G ++ [⟨some (.whl t p), [0, a]⟩])).2) hgk
  have k13 := kp2_two (Kp2.trans (Kp2.of (bnext HB.out b3.out)) HK2.out) hk3 (HO2.out.imp id fun h => Nat.le_trans (bnext HB.out b3.out).size h)
  have n13 := HX2.out.trans hx3 (lo := w.heap.size + 1) (by have := (bnext HB.out b3.out).size; have := HK2.out.size; have := b3.out.size; omega) (by simp)
  refine ⟨rfl, rb3, cap3, nb3, xs3, hset, ⟨k13.os, k13.tape, k13.output, by have := k13.size; simpa [World.setCell] using this, fun j hj h1 h2 => ?_⟩, ?_, ?_⟩
  ·rw [Below.heap_setCell _ _ _ _ (by have := HNB.out; show j ≠ nb3 G.length; omega)]
   exact k13.block j hj h1 h2
  ·have := HO2.out
   have := (bnext HB.out b3.out).size
   have := HK2.out.size
   omega
  ·show NbX nb nb3 G.length (List.length (List.set _ _ _)) w.heap.size
   rw [List.length_set]
   exact ⟨n13.1, fun k hk hk2 => by have := n13.2 k hk hk2; omega⟩
 have hl1 : (G.length : Int) < ((layF p G.length (G ++ [⟨some (.whl t p), [0, a]⟩])).1.length : Nat) := by omega
 clear hL3 hk3 ho3 hx3 hlo e1 e2 e4 e6 hgk D HX2 HK2 HO2 c0 c1 c2 T2
 generalize (layF p G.length (G ++ [⟨some (.whl t p), [0, a]⟩])).1.length = N3 at *
 generalize (layF p G.length (G ++ [⟨some (.whl t p), [0, a]⟩])).2 = r3 at *
 go_wp2_with fail
 go_ret
 exact HR.out
theorem ps_one {wide : Bool} {G : List Stp} {x : Stp} (h : ∀ (k : Nat) (s : Stp), 0 < k → G[k]? = some s → StpOk wide s ∧ s.d ≠ none) (hx : StpOk wide x ∧ x.d ≠ none) : ∀ (k : Nat) (s : Stp), 0 < k → (G ++ [x])[k]? = some s → StpOk wide s ∧ s.d ≠ none := by
 intro k s hk hs
 by_cases h1 : k < G.length
 ·rw [List.getElem?_append_left h1] at hs
  exact h k s hk hs
 ·have h2 := getG_lt hs
  simp at h2
  have e : k = G.length := by omega
  subst e
  simp at hs
  subst hs
  exact hx
theorem layF_ps {wide : Bool} (p : Pg) : p.ok wide → ∀ (a : Nat) (G : List Stp), 0 < G.length → (∀ (k : Nat) (s : Stp), 0 < k → G[k]? = some s → StpOk wide s ∧ s.d ≠ none) → ∀ (k : Nat) (s : Stp), 0 < k → (layF p a G).1[k]? = some s → StpOk wide s ∧ s.d ≠ none := by
 induction p with
 | skip => intro hp a G h0 h; exact ps_one (x := ⟨some .skip, [a]⟩) h ⟨rfl, by simp⟩
 | asg v e => intro hp a G h0 h; exact ps_one (x := ⟨some (.asg v e), [a]⟩) h ⟨⟨rfl, hp.1, hp.2⟩, by simp⟩
 | asm t => intro hp a G h0 h; exact ps_one (x := ⟨some (.asm t), [a]⟩) h ⟨⟨rfl, hp⟩, by simp⟩
 | seq p q ihp ihq =>
  intro hp a G h0 h
  have l := (layF_ok q a G).len
  exact ihp hp.1 _ _ (by omega) (ihq hp.2 a G h0 h)
 | ite t p q ihp ihq =>
  intro hp a G h0 h
  have l := (layF_ok p a G).len
  exact ps_one (ihq hp.2.2 a _ (by omega) (ihp hp.2.1 a G h0 h)) ⟨⟨rfl, hp.1⟩, by simp⟩
 | cho p q ihp ihq =>
  intro hp a G h0 h
  have l := (layF_ok p a G).len
  exact ps_one (ihq hp.2 a _ (by omega) (ihp hp.1 a G h0 h)) ⟨rfl, by simp⟩
 | whl t p ihp =>
  intro hp a G h0 h k s hk hs
  have h1 := ihp hp.2 G.length (G ++ [⟨some (.whl t p), [0, a]⟩]) (by simp) (ps_one (x := ⟨some (.whl t p), [0, a]⟩) h ⟨⟨rfl, hp.1⟩, by simp⟩)
  simp only [layF] at hs
  by_cases e : k = G.length
  ·subst e
   have hl := getG_lt hs
   rw [List.length_set] at hl
   rw [List.getElem?_set_self hl] at hs
   injection hs with hs
   subst hs
   exact ⟨⟨rfl, hp.1⟩, by simp⟩
  ·rw [List.getElem?_set_ne (fun h => e h.symm)] at hs
   exact h1 k s hk hs
theorem lay_any (w0 : World) (B bf : Nat) : ∀ (p : Pg) (v : Value), StV w0 B p v → LayC w0 B bf p v := by
 intro p
 induction p with
 | skip =>
  intro v hv
  have hv' := hv
  cases hv
  exact lay_one w0 B bf .skip _ _ _ _ _ _ hv' (tas_seq_skip _) (tas_ite_skip _) (tas_cho_skip _) (tas_whl_skip _) (fun a G => rfl)
 | asg x e =>
  intro v hv
  have hv' := hv
  obtain ⟨a, b, rfl, _⟩ := hv
  exact lay_one w0 B bf (.asg x e) _ _ _ _ _ _ hv' (tas_seq_asg _) (tas_ite_asg _) (tas_cho_asg _) (tas_whl_asg _) (fun a G => rfl)
 | asm t =>
  intro v hv
  have hv' := hv
  obtain ⟨x, y, rfl, _⟩ := hv
  exact lay_one w0 B bf (.asm t) _ _ _ _ _ _ hv' (tas_seq_asm _) (tas_ite_asm _) (tas_cho_asm _) (tas_whl_asm _) (fun a G => rfl)
 | seq p q ihp ihq =>
  rintro v ⟨a, b, rfl, h1, h2⟩
  obtain ⟨T1, u1, rfl⟩ := h1.forms
  obtain ⟨T2, u2, rfl⟩ := h2.forms
  exact lay_seq w0 B bf p q T1 T2 u1 u2 (ihp _ h1) (ihq _ h2)
 | ite t p q ihp ihq =>
  intro v hv
  have hv' := hv
  obtain ⟨x, y, a, b, rfl, hr, h1, h2⟩ := hv
  obtain ⟨ya, yn, ym, rfl, rfl⟩ := hr.forms
  obtain ⟨T1, u1, rfl⟩ := h1.forms
  obtain ⟨T2, u2, rfl⟩ := h2.forms
  exact lay_ite w0 B bf t _ ya yn ym p q T1 T2 u1 u2 hv' (ihp _ h1) (ihq _ h2)
 | cho p q ihp ihq =>
  intro v hv
  have hv' := hv
  obtain ⟨a, b, rfl, h1, h2⟩ := hv
  obtain ⟨T1, u1, rfl⟩ := h1.forms
  obtain ⟨T2, u2, rfl⟩ := h2.forms
  exact lay_cho w0 B bf p q T1 T2 u1 u2 hv' (ihp _ h1) (ihq _ h2)
 | whl t p ihp =>
  intro v hv
  have hv' := hv
  obtain ⟨x, y, a, rfl, hr, h1⟩ := hv
  obtain ⟨ya, yn, ym, rfl, rfl⟩ := hr.forms
  obtain ⟨T1, u1, rfl⟩ := h1.forms
  exact lay_whl w0 B bf t _ ya yn ym p T1 u1 hv' (ihp _ h1)
def flG (p : Pg) : List Stp := (layF p 0 [⟨none, []⟩]).1
def flS (p : Pg) : Nat := (layF p 0 [⟨none, []⟩]).2
theorem fl_lay (p : Pg) : Lay (flG p) p (flS p) 0 := (layF_ok p 0 [⟨none, []⟩]).lay _ (fun _ _ _ => rfl)
theorem Lain.flow {wide : Bool} {w0 w w5 : World} {B bf rb cap : Nat} {nb : Nat → Nat} {xs : List Value} {p : Pg} (h : Lain w0 w B bf rb cap nb xs (flG p)) (hp : p.ok wide) (hl : p.all.length ≤ 1100) (hb5 : Below w0.heap.size w0 w5) (hc : ∀ b, (b = rb ∨ ∃ k, 0 < k ∧ k < (flG p).length ∧ b = nb k) → w5.heap[b]? = w.heap[b]?) : FlowOk wide w5 B (.slice (some ⟨rb, 0, none⟩) (flG p).length cap) (flS p) (flG p) := by
 have ho := layF_ok p 0 [⟨none, []⟩]
 have hps := layF_ps p hp 0 [⟨none, []⟩] (by simp) (fun k s hk hs => by cases k <;> simp at hk hs)
 have h0 : (flG p)[0]? = some ⟨none, []⟩ := by have := ho.old 0 (by simp); simpa [flG] using this
 have hlen := layF_len p 0 [⟨none, []⟩]
 simp at hlen
 refine ⟨⟨rb, cap, rfl, ?_, ?_⟩, ?_, ⟨h0, fun k s hk hs => (hps k s hk hs).2⟩, by show (layF p 0 [⟨none, []⟩]).1.length ≤ 1200; omega, ho.hi, ?_⟩
 ·rcases h.row.2 with ⟨e, _⟩ | ⟨g, cp, cur, e, _, _, d, _⟩
  ·cases e
  ·injection e with _ e1 e2; omega
 ·intro k s hs
  obtain ⟨x, y, h1, h2, h3⟩ := h.st k s hs
  have hk := getG_lt hs
  refine ⟨x, y, by rw [World.cell?_of_block (w := w) (hc rb (.inl rfl)), World.ownsRow.cellAt h.row (k * 2) (by omega)]; exact h1, by rw [World.cell?_of_block (w := w) (hc rb (.inl rfl)), World.ownsRow.cellAt h.row (k * 2 + 1) (by omega)]; exact h2, ?_⟩
  unfold StopB at h3
  unfold StopR
  cases hd : s.d with
  | none => rw [hd] at h3; exact h3
  | some q =>
   rw [hd] at h3
   obtain ⟨a1, a2, a3⟩ := h3
   have hk0 : 0 < k := by
    rcases Nat.eq_zero_or_pos k with e | e
    ·subst e; rw [h0] at hs; injection hs with hs; subst hs; cases hd
    ·exact e
   refine ⟨a1.below hb5, nb k, a2, fun j n hj => ?_⟩
   rw [World.cell?_of_block (w := w) (hc (nb k) (.inr ⟨k, hk0, hk, rfl⟩)), a3.cell j]
   simp [ints, hj]
 ·intro k s hs
  by_cases e : k = 0
  ·subst e; rw [h0] at hs; injection hs with hs; subst hs; rfl
  ·exact (hps k s (by omega) hs).1
 ·intro k s hs n hn
  exact ho.bd _ (Nat.le_refl _) (by have := ho.len; simp at this; omega) (fun j hj x hx m hm => by cases j <;> simp at hj hx; subst hx; simp at hm) k s hs n hn
def FlPost (wide : Bool) (p : Pg) (B : Nat) (w : World) (e : Ending) (w' : World) : Prop := ∃ rb cap, e = .returned (.agg #[.slice (some ⟨rb, 0, none⟩) (flG p).length cap, .int .i64 (flS p : Nat)]) ∧ FlowOk wide w' B (.slice (some ⟨rb, 0, none⟩) (flG p).length cap) (flS p) (flG p) ∧ Below w.heap.size w w'
theorem mkStop (w : World) : (Instr.makeSlice 129 (.int .i64 1) (.int .i64 1)).run Tryz.prog w = .ok (.slice (some ⟨w.heap.size, 0, none⟩) 1 1) (w.alloc (.cells #[.nilIface, .slice none 0 0] 281)) := by kernel_rfl
set_option maxRecDepth 1000000 in
set_option maxHeartbeats 8000000 in
theorem flowOf_any {wide : Bool} (p : Pg) (B : Nat) (v : Value) (w : World) (hv : StV w B p v) (hp : p.ok wide) (hl : p.all.length ≤ 1100) : Calls Tryz.prog 170 #[v] w (FlPost wide p B w) := by
 obtain ⟨T, u, rfl⟩ := hv.forms
 have hmk := mkStop
 have HV := Lib.hid hv
 have HP := Lib.hid hp
 have r1 := Blk.new w #[.slice none 0 0, .int .i64 0] 131
 have b1 := (Below.refl w.heap.size w).alloc (Nat.le_refl _) (.cells #[.slice none 0 0, .int .i64 0] 131)
 have z1 : (w.alloc (.cells #[.slice none 0 0, .int .i64 0] 131)).heap.size = w.heap.size + 1 := by simp
 generalize hwa : w.alloc (.cells #[.slice none 0 0, .int .i64 0] 131) = wa at r1 b1 z1
 have s2 := Blk.new wa #[.nilIface, .slice none 0 0] 281
 rw [z1] at s2
 have r2 := r1.alloc (.cells #[.nilIface, .slice none 0 0] 281)
 have b2 := b1.alloc (by omega) (.cells #[.nilIface, .slice none 0 0] 281)
 have z2 : (wa.alloc (.cells #[.nilIface, .slice none 0 0] 281)).heap.size = w.heap.size + 1 + 1 := by rw [← z1]; simp
 generalize hwb : wa.alloc (.cells #[.nilIface, .slice none 0 0] 281) = wb at s2 r2 b2 z2
 have f3 := Blk.new wb #[.slice (some ⟨w.heap.size + 1, 0, none⟩) 1 1, .int .i64 0] 131
 rw [z2] at f3
 have s3 := s2.alloc (.cells #[.slice (some ⟨w.heap.size + 1, 0, none⟩) 1 1, .int .i64 0] 131)
 have r3 := r2.alloc (.cells #[.slice (some ⟨w.heap.size + 1, 0, none⟩) 1 1, .int .i64 0] 131)
 have b3 := b2.alloc (by omega) (.cells #[.slice (some ⟨w.heap.size + 1, 0, none⟩) 1 1, .int .i64 0] 131)
 have z3 : (wb.alloc (.cells #[.slice (some ⟨w.heap.size + 1, 0, none⟩) 1 1, .int .i64 0] 131)).heap.size = w.heap.size + 1 + 1 + 1 := by rw [← z2]; simp
 have L0 : Lain w (wb.alloc (.cells #[.slice (some ⟨w.heap.size + 1, 0, none⟩) 1 1, .int .i64 0] 131)) B (w.heap.size + 1 + 1) (w.heap.size + 1) 1 (fun _ => w.heap.size) [.nilIface, .slice none 0 0] [⟨none, []⟩] :=
  ⟨f3, ⟨rfl, .inr ⟨w.heap.size + 1, 1, #[.nilIface, .slice none 0 0], rfl, by omega, s3, Nat.le_refl _, by unfold maxLen; omega, rfl, rfl⟩⟩,
   fun k s hs => by
    have hk := getG_lt hs
    simp at hk
    subst hk
    simp at hs
    subst hs
    exact ⟨_, _, rfl, rfl, rfl, rfl, rfl⟩,
   fun k hk => ⟨Nat.le_refl _, by omega, by omega, by omega⟩, fun j k hj hk hne => by simp at hj hk; omega, by omega, by omega, b3⟩
 have C := lay_any w B (w.heap.size + 1 + 1) p _ hv 0 [⟨none, []⟩] (w.heap.size + 1) 1 (fun _ => w.heap.size) [.nilIface, .slice none 0 0] _ L0 (by simp; omega)
 have HC := Lib.hid C
 have HR3 := Lib.hid r3
 have HB3 := Lib.hid b3
 have HZ3 := Lib.hid z3
 clear hv hp r1 b1 z1 s2 r2 b2 z2 f3 s3 r3 b3 z3 L0 C
 subst hwb hwa
 go_enter Tryz.func170, Tryz.ntmps170
 go_wp2_with fail
 refine HC.out.mono ?_
 rintro e w3 ⟨rfl, rb, cap, nb, xs, hL, hk, ho, hx⟩
 have R3 := HR3.out.kp2 hk (by omega) (by omega)
 have m0 : w3.cell? ⟨w.heap.size + 1 + 1, 0, none⟩ = some (.slice (some ⟨rb, 0, none⟩) (layF p 0 [⟨none, []⟩]).1.length cap) := hL.box.cell 0
 have m1 : w3.cell? ⟨w.heap.size + 1 + 1, 1, none⟩ = some (.int .i64 0) := hL.box.cell 1
 have m2 := hL.box.free 1
 have n0 : w3.cell? ⟨w.heap.size, 0, none⟩ = some (.slice none 0 0) := R3.cell 0
 have n1 : w3.cell? ⟨w.heap.size, 1, none⟩ = some (.int .i64 0) := R3.cell 1
 have n2 := R3.free 0
 have n3 := R3.free 1
 have HL := Lib.hid hL
 have HX := Lib.hid hx
 have HO := Lib.hid ho
 have hbl : w.heap.size + 1 + 1 < w3.heap.size := hL.box.lt
 clear hL hx ho hk HR3 HC R3
 go_wp2_with fail
 refine bodyPost_ret (v := .agg #[.slice (some ⟨rb, 0, none⟩) (layF p 0 [⟨none, []⟩]).1.length cap, .int .i64 ((layF p 0 [⟨none, []⟩]).2 : Nat)]) (by simp [results, Tryz.results170, go_sem, n0, n1]) rfl ⟨rb, cap, rfl, ?_, ?_⟩
 ·refine HL.out.flow HP.out hl (((HL.out.bel.setCell (p := ⟨w.heap.size + 1 + 1, 1, none⟩) (by show w.heap.size ≤ w.heap.size + 1 + 1; omega) _).setCell (p := ⟨w.heap.size, 0, none⟩) (Nat.le_refl _) _).setCell (p := ⟨w.heap.size, 1, none⟩) (Nat.le_refl _) _) ?_
  intro b hb
  have hne : b ≠ w.heap.size + 1 + 1 ∧ b ≠ w.heap.size := by
   have := HZ3.out
   rcases hb with rfl | ⟨k, hk0, hk, rfl⟩
   ·have h1 := HL.out.ne
    have h2 := HO.out
    exact ⟨h1, by omega⟩
   ·have h1 := (HL.out.nbo k hk).2.2.1
    have h2 := HX.out.2 k (by simp; omega) hk
    exact ⟨h1, by omega⟩
  rw [Below.heap_setCell _ _ _ _ hne.2, Below.heap_setCell _ _ _ _ hne.2, Below.heap_setCell _ _ _ _ hne.1]
 ·exact ((HL.out.bel.setCell (p := ⟨w.heap.size + 1 + 1, 1, none⟩) (by show w.heap.size ≤ w.heap.size + 1 + 1; omega) _).setCell (p := ⟨w.heap.size, 0, none⟩) (Nat.le_refl _) _).setCell (p := ⟨w.heap.size, 1, none⟩) (Nat.le_refl _) _
end Go.Proofs.YtgkoljphndgoeaaGreatDoor
