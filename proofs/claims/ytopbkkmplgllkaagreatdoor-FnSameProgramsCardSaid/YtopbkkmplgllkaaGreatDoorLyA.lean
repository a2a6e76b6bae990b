/-
  A flow while it is laid: its stops in memory, and how one is added.
-/
import Derived.Test.YtopbkkmplgllkaaGreatDoorWk0
import Derived.Deep.RegionHeld3
import Derived.Deep.RegionWith
namespace Go.Proofs.YtopbkkmplgllkaaGreatDoor
open Go.RowKit Tm Go.ChangeMaps

def ints (l : List Nat) : Array Value := (l.map fun n => Value.int .i64 (n : Nat)).toArray
def StopB (w0 w : World) (B b : Nat) (s : Stp) (x y : Value) : Prop :=
  match s.d with
  | none => x = .nilIface ∧ y = .slice none 0 0 ∧ s.nx = []
  | some p => StV w0 B p x ∧ y = .slice (some ⟨b, 0, none⟩) s.nx.length s.nx.length ∧ Blk w b (ints s.nx) 3
structure Lain (w0 w : World) (B bf rb cap : Nat) (nb : Nat → Nat) (xs : List Value) (G : List Stp) : Prop where
  box : Blk w bf #[.slice (some ⟨rb, 0, none⟩) G.length cap, .int .i64 0] 71
  row : w.ownsRow w0.heap.size 167 2 (.slice (some ⟨rb, 0, none⟩) G.length cap) G.length xs
  st : ∀ (k : Nat) (s : Stp), G[k]? = some s → ∃ x y, xs[k * 2]? = some x ∧ xs[k * 2 + 1]? = some y ∧ StopB w0 w B (nb k) s x y
  nbo : ∀ k, k < G.length → w0.heap.size ≤ nb k ∧ nb k ≠ rb ∧ nb k ≠ bf ∧ nb k < w.heap.size
  inj : ∀ j k, j < G.length → k < G.length → j ≠ k → nb j ≠ nb k
  ne : rb ≠ bf
  lo : w0.heap.size ≤ bf
  bel : Below w0.heap.size w0 w
theorem Lain.rlo {w0 w : World} {B bf rb cap : Nat} {nb : Nat → Nat} {xs : List Value} {G : List Stp} (h : Lain w0 w B bf rb cap nb xs G) : w0.heap.size ≤ rb ∧ rb < w.heap.size := World.ownsRow.lt h.row rb rfl
theorem StopB.kept {w0 w w' : World} {B b : Nat} {s : Stp} {x y : Value} (h : StopB w0 w B b s x y) (hb : b < w.heap.size → w'.heap[b]? = w.heap[b]?) : StopB w0 w' B b s x y := by
  unfold StopB at *
  cases hd : s.d with
  | none => rw [hd] at h; exact h
  | some p =>
    rw [hd] at h
    exact ⟨h.1, h.2.1, (hb h.2.2.lt).trans h.2.2⟩
/-- While blocks of others are made. -/
theorem Lain.kept {w0 w w' : World} {B bf rb cap : Nat} {nb : Nat → Nat} {xs : List Value} {G : List Stp} (h : Lain w0 w B bf rb cap nb xs G) (hb : Below w.heap.size w w') : Lain w0 w' B bf rb cap nb xs G where
  box := h.box.kept hb
  row := by
    obtain ⟨h1, h2⟩ := h.row
    refine ⟨h1, ?_⟩
    rcases h2 with h2 | ⟨g, cap, cur, a, b, c, d⟩
    · exact .inl h2
    · exact .inr ⟨g, cap, cur, a, b, (hb.block g (Array.getElem?_eq_some_iff.1 c).1).trans c, d⟩
  st := fun k s hk => by
    obtain ⟨x, y, h1, h2, h3⟩ := h.st k s hk
    exact ⟨x, y, h1, h2, h3.kept fun hlt => hb.block _ hlt⟩
  nbo := fun k hk => by
    obtain ⟨h1, h2, h3, h4⟩ := h.nbo k hk
    exact ⟨h1, h2, h3, Nat.lt_of_lt_of_le h4 hb.size⟩
  inj := h.inj
  ne := h.ne
  lo := h.lo
  bel := bnext h.bel hb

theorem infoStop : (Tryz.prog.info? 167).map (fun i => (i.zero, i.size, i.bytes)) = some (some (.agg #[.nilIface, .slice none 0 0]), 2, 40) := by kernel_rfl

/-- The blocks of what was there are as they were, those of what is new are not below a number. -/
def NbX (nb nb' : Nat → Nat) (n n1 lo : Nat) : Prop := (∀ k, k < n → nb' k = nb k) ∧ ∀ k, n ≤ k → k < n1 → lo ≤ nb' k
theorem NbX.trans {nb nb2 nb3 : Nat → Nat} {n n1 n2 lo lo2 : Nat} (h : NbX nb nb2 n n1 lo) (h2 : NbX nb2 nb3 n1 n2 lo2) (hl : lo ≤ lo2) (hn : n ≤ n1) : NbX nb nb3 n n2 lo := by
  refine ⟨fun k hk => (h2.1 k (by omega)).trans (h.1 k hk), fun k hk hk2 => ?_⟩
  by_cases e : k < n1
  · rw [h2.1 k e]; exact h.2 k hk e
  · have := h2.2 k (by omega) hk2; omega
def LayPost (w0 : World) (B bf rb : Nat) (nb : Nat → Nat) (n lo : Nat) (G1 : List Stp) (r : Nat) (w : World) (e : Ending) (w' : World) : Prop :=
  e = .returned (.int .i64 r) ∧ ∃ rb' cap' nb' xs', Lain w0 w' B bf rb' cap' nb' xs' G1 ∧ Kp2 bf rb w w' ∧ (rb' = rb ∨ w.heap.size ≤ rb') ∧ NbX nb nb' n G1.length lo

set_option maxRecDepth 1000000 in
set_option maxHeartbeats 4000000 in
theorem add_any (w0 : World) (B bf rb cap : Nat) (nb : Nat → Nat) (xs : List Value) (G : List Stp) (p : Pg) (T : TypeId) (u : Array Value) (b : Nat) (l : List Nat) (w : World) (h : Lain w0 w B bf rb cap nb xs G) (hG : G.length ≤ 1200)
    (hv : StV w0 B p (.iface T (.agg u))) (hb : Blk w b (ints l) 3) (hb1 : w0.heap.size ≤ b) (hb2 : b ≠ rb) (hb3 : b ≠ bf) (hb4 : ∀ k, k < G.length → nb k ≠ b) (n : Nat) (hn : n = l.length) :
    Calls Tryz.prog 96 #[.pointer (some ⟨bf, 0, none⟩), .iface T (.agg u), .slice (some ⟨b, 0, none⟩) n n] w (LayPost w0 B bf rb nb G.length b (G ++ [⟨some p, l⟩]) G.length w) := by
  obtain ⟨i0, hi0, hz0, hz1, hz2⟩ := info_parts infoStop
  have H := Lib.hid h
  have q0 := h.box.cell 0
  have q1 := h.box.cell 1
  have f0 := h.box.free 0
  simp at q0 q1
  have bn := Blk.new w #[.iface T (.agg u), .slice (some ⟨b, 0, none⟩) n n] 167
  have bx := (Below.refl w.heap.size w).alloc (Nat.le_refl _) (.cells #[.iface T (.agg u), .slice (some ⟨b, 0, none⟩) n n] 167)
  have HX := Lib.hid bx
  have HN := Lib.hid hn
  have HNE := Lib.hid h.ne
  clear h hn
  go_enter Tryz.func96, Tryz.ntmps96
  go_wp2_with (at_builtin; refine wpList_append_lies _ (by rfl) _ _ _ (by rfl) w0.heap.size 167 i0 _ 2 40 Tryz.underlying69 hi0 hz0 hz1 hz2 rfl (by omega) _ G.length xs (by rfl) (World.ownsRow.alloc H.out.row _) ⟨w.heap.size, 0, none⟩ 1 1 [.iface T (.agg u), .slice (some ⟨b, 0, none⟩) n n] (by rfl) (by rfl) (World.news_of_block (cs := #[.iface T (.agg u), .slice (some ⟨b, 0, none⟩) n n]) (t := 167) (fr := (0, 0)) (heap_alloc_new w _)) (by simp [Value.oneCell']) (by omega) (by unfold maxLen; omega) (by omega) (by have := H.out.bel.size; simp; omega) (w.heap.size + 1) (by simp) ?_; intro g3 cap3 w3 hown hgrow hat hlt3; have D0 := Lib.hid (Blk.grown (H.out.box.kept HX.out) hgrow (fun e => HNE.out (by injection e))); have d0 : w3.cell? ⟨bf, 0, none⟩ = some (.slice (some ⟨rb, 0, none⟩) G.length cap) := D0.out.cell 0; have d1 := D0.out.free 0)
  go_ret
  have hz : w.heap.size ≤ w3.heap.size := Nat.le_trans HX.out.size hgrow.size
  have hgo : ∀ k, k < w.heap.size → k ≠ rb → w3.heap[k]? = w.heap[k]? := fun k hk hne => (hgrow.block k (by have := HX.out.size; omega) (fun e => hne (by simpa [Value.ownBlock] using e))).trans (HX.out.block k hk)
  have hg3 : g3 = rb ∨ w.heap.size < g3 := by
    rcases hat with h1 | h1
    · left; simpa [Value.ownBlock] using h1.symm
    · right; omega
  have hr := H.out.rlo
  have hbf : bf < w.heap.size := H.out.box.lt
  refine ⟨by simp, g3, cap3, fun k => if k = G.length then b else nb k, xs ++ [.iface T (.agg u), .slice (some ⟨b, 0, none⟩) n n], ⟨?_, ?_, ?_, ?_, ?_, ?_, H.out.lo, ?_⟩, ?_, ?_, ?_⟩
  · have := D0.out.set 0 (.slice (some ⟨g3, 0, none⟩) (G.length + 1) cap3)
    rw [List.length_append, List.length_singleton]
    exact this
  · rw [List.length_append, List.length_singleton]
    have hne3 : g3 ≠ bf := by
      rcases hg3 with e | e
      · rw [e]; exact HNE.out
      · omega
    obtain ⟨h1, h2⟩ := hown
    refine ⟨h1, ?_⟩
    rcases h2 with ⟨h2, _⟩ | ⟨g, cp, cur, e1, a1, c1, d1⟩
    · simp at h2
    · refine .inr ⟨g, cp, cur, e1, a1, ?_, d1⟩
      injection e1 with e1
      injection e1 with e1
      injection e1 with e1
      subst e1
      rw [Below.heap_setCell _ _ _ _ hne3]
      exact c1
  · intro k s hk
    have hlen : xs.length = G.length * 2 := H.out.row.1
    by_cases e : k = G.length
    · subst e
      simp at hk
      subst hk
      refine ⟨_, _, by rw [List.getElem?_append_right (by omega), hlen, Nat.sub_self]; rfl, by rw [List.getElem?_append_right (by omega), hlen, show G.length * 2 + 1 - G.length * 2 = 1 by omega]; rfl, ?_⟩
      show StopB w0 _ B (if G.length = G.length then b else nb G.length) _ _ _
      rw [if_pos rfl]
      refine ⟨hv, by rw [HN.out], ?_⟩
      show _ = _
      rw [Below.heap_setCell _ _ _ _ hb3, hgo b hb.lt hb2]
      exact hb
    · have hk' : k < G.length := by
        have := getG_lt hk
        simp at this; omega
      rw [List.getElem?_append_left hk'] at hk
      obtain ⟨x, y, h1, h2, h3⟩ := H.out.st k s hk
      obtain ⟨n1, n2, n3, n4⟩ := H.out.nbo k hk'
      refine ⟨x, y, by rw [List.getElem?_append_left (by omega)]; exact h1, by rw [List.getElem?_append_left (by omega)]; exact h2, ?_⟩
      rw [if_neg e]
      exact h3.kept fun hlt => by rw [Below.heap_setCell _ _ _ _ n3, hgo _ hlt n2]
  · intro k hk
    have hs3 : w3.heap.size ≤ (w3.setCell ⟨bf, 0, none⟩ (.slice (some ⟨g3, 0, none⟩) (G.length + 1) cap3)).heap.size := by simp [World.setCell]
    have hbl := hb.lt
    by_cases e : k = G.length
    · rw [if_pos e]
      refine ⟨hb1, ?_, hb3, by omega⟩
      rcases hg3 with e | e
      · rw [e]; exact hb2
      · omega
    · rw [if_neg e]
      obtain ⟨n1, n2, n3, n4⟩ := H.out.nbo k (by simp at hk; omega)
      refine ⟨n1, ?_, n3, by omega⟩
      rcases hg3 with e | e
      · rw [e]; exact n2
      · omega
  · intro j k hj hk hne
    simp at hj hk
    by_cases e : j = G.length
    · rw [if_pos e, if_neg (by omega)]
      exact fun h => hb4 k (by omega) h.symm
    · rw [if_neg e]
      by_cases e2 : k = G.length
      · rw [if_pos e2]; exact hb4 j (by omega)
      · rw [if_neg e2]; exact H.out.inj j k (by omega) (by omega) hne
  · rcases hg3 with e | e
    · rw [e]; exact HNE.out
    · omega
  · exact ((bnext H.out.bel HX.out).grown hgrow (bnext H.out.bel HX.out).size (fun k hk => by
      have e : rb = k := by injection hk
      omega)).setCell (p := ⟨bf, 0, none⟩) H.out.lo _
  · refine ⟨hgrow.os.trans HX.out.os, hgrow.tape.trans HX.out.tape, hgrow.output.trans HX.out.output, by simpa [World.setCell] using hz, fun k hk h1 h2 => ?_⟩
    rw [Below.heap_setCell _ _ _ _ h1]
    exact hgo k hk h2
  · rcases hg3 with e | e
    · exact .inl e
    · exact .inr (by omega)
  · refine ⟨fun k hk => if_neg (by omega), fun k hk hk2 => ?_⟩
    have e : k = G.length := by simp at hk2; omega
    show b ≤ (if k = G.length then b else nb k)
    rw [if_pos e]; exact Nat.le_refl _
end Go.Proofs.YtopbkkmplgllkaaGreatDoor
