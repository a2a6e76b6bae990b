/-
  impl.mustRead: it returns the tree of a text of at most 200 bytes that is a term of the kind, and panics at every other text. Nothing that was there before changes.
-/
import Derived.Test.YtiaidahhlnaabaaTree
import Derived.WalkSmall
import Derived.Deep.LoopGhost
import Derived.BigQuiet
import Derived.Deep.QuietTactic
import Derived.Deep.RegionHeld3
import Derived.Deep.AppendLies
namespace Go.Proofs.Ytiaidahhlnaabaa
open Go.RowKit Tm

theorem infoPlace : (Try.prog.info? 83).map (fun i => (i.zero, i.size, i.bytes)) = some (some (.agg #[.int .u8 0, .pointer none]), 2, 16) := by kernel_rfl

def MustPost (k : Bool) (s : ByteArray) (w : World) (e : Ending) (w' : World) : Prop :=
  Below w.heap.size w w' ∧ ((∃ t x y, Ok false k t ∧ s.data.toList = t.ser ∧ s.size ≤ 200 ∧ e = .returned (.agg #[x, y]) ∧ RepT w' (w.heap.size + 1) t x y) ∨
    (¬ (Valid false k s.data.toList ∧ s.size ≤ 200) ∧ ∃ v, e = .panicked [{ v := .iface 9 v, recovered := false }]))

structure MInv (s : ByteArray) (k : Bool) (w wr : World) (v : Value) (pos : Nat) (L : List Hole) (F : List Tm → Tm) : Prop where
  it : wr.heap[w.heap.size + 3]? = some (.stringIter s pos)
  own : wr.ownsRow (w.heap.size + 2) 83 2 v L.length (stk L)
  bel : Below w.heap.size w wr
  pend : Pend wr (w.heap.size + 1) L F (w.heap.size + 1)
  sofar : Sofar k (s.data.toList.take pos) (L.map (·.kind)) F
  mach : mach false [k] s.data.toList = mach false (L.map (·.kind)) (s.data.toList.drop pos)
  len : L.length ≤ pos + 1
  res : TB wr w.heap.size #[.int .u8 0, .slice none 0 0]
  le : pos ≤ s.size

theorem iterPos_must {s : ByteArray} {k : Bool} {w wr : World} {v : Value} {pos : Nat} {L : List Hole} {F : List Tm → Tm} (h : MInv s k w wr v pos L F) : wr.iterPos (w.heap.size + 3) = pos := iterPos_of h.it

theorem heap_at_new {w : World} {o : Obj} {k : Nat} (h : k = w.heap.size) : (w.alloc o).heap[k]? = some o := by subst h; exact heap_alloc_new w o
theorem heap_at_old {w : World} {o x : Obj} {k : Nat} (h : w.heap[k]? = some x) : (w.alloc o).heap[k]? = some x := (Below.heap_alloc w o k (Array.getElem?_eq_some_iff.1 h).1).trans h

theorem mstart (k : Bool) (s : ByteArray) (w : World) :
    MInv s k w ((((w.alloc (.cells #[.int .u8 0, .slice none 0 0] 32)).alloc (.cells #[.int .u8 0, .slice none 0 0] 32)).alloc (.cells #[.int .u8 (kcode k), .pointer (some ⟨w.heap.size + 1, 0, none⟩)] 83)).iter s 0)
      (.slice (some ⟨w.heap.size + 1 + 1, 0, none⟩) 1 1) 0 [⟨k, w.heap.size + 1, 0⟩] (fun ts => ts.headD (.leaf 0)) := by
  unfold World.iter
  refine ⟨heap_at_new (by simp), ?_, ?_, ?_, Sofar.start k, rfl, by simp, ?_, by omega⟩
  · exact ⟨by simp [stk], .inr ⟨w.heap.size + 2, 1, #[.int .u8 (kcode k), .pointer (some ⟨w.heap.size + 1, 0, none⟩)], rfl, by omega, heap_at_old (heap_at_new (by simp)), by simp, by unfold maxLen; omega, by simp, by simp [stk, kv]⟩⟩
  · exact (((((Below.refl _ _).alloc (Nat.le_refl _) _).alloc (by simp) _).alloc (by simp; omega) _).alloc (by simp; omega) _)
  · exact Pend.start _ _ _ k #[.int .u8 0, .slice none 0 0] (Nat.le_refl _) (heap_at_old (heap_at_old (heap_at_new (by simp)))) (by simp)
  · exact heap_at_old (heap_at_old (heap_at_old (heap_at_new rfl)))

theorem drop_cons (s : ByteArray) (pos : Nat) (h : pos < s.size) : s.data.toList.drop pos = s[pos] :: s.data.toList.drop (pos + 1) := by
  rw [List.drop_eq_getElem_cons (by simpa using h)]; rfl
theorem take_snoc (s : ByteArray) (k : Nat) (h : k < s.size) : s.data.toList.take (k + 1) = s.data.toList.take k ++ [s[k]] := by
  rw [List.take_succ_eq_append_getElem (by simpa using h)]; rfl

theorem post_bad {k : Bool} {s : ByteArray} {w w' : World} {e : Ending} (hb : Below w.heap.size w w') (hm : mach false [k] s.data.toList = false) (he : ∃ v, e = .panicked [{ v := .iface 9 v, recovered := false }]) : MustPost k s w e w' :=
  ⟨hb, .inr ⟨fun h => (by rw [mach_iff.2 h.1] at hm; cases hm), he⟩⟩

structure Filled (W1 wq : World) (p : Hole) (x y : Value) (o1 o2 : Obj) : Prop where
  old : ∀ (b : Nat) (o : Obj), W1.heap[b]? = some o → b ≠ p.b → wq.heap[b]? = some o
  top : ∀ cur, TB W1 p.b cur → TB wq p.b ((cur.setIfInBounds p.o x).setIfInBounds (p.o + 1) y)
  n1 : wq.heap[W1.heap.size]? = some o1
  n2 : wq.heap[W1.heap.size + 1]? = some o2
  size : wq.heap.size = W1.heap.size + 2
  bel : ∀ w B, Below B w W1 → B ≤ p.b → Below B w wq

theorem filled {W1 : World} {p : Hole} {cur : Array Value} (hcur : TB W1 p.b cur) (x y : Value) (o1 o2 : Obj) : Filled W1 ((((W1.setCell ⟨p.b, p.o, none⟩ x).setCell ⟨p.b, p.o + 1, none⟩ y).alloc o1).alloc o2).drew p x y o1 o2 where
  old := fun b o h hb => heap_at_old (heap_at_old (by rw [Below.heap_setCell _ _ _ _ hb, Below.heap_setCell _ _ _ _ hb]; exact h))
  top := fun c hc => by
    refine heap_at_old (heap_at_old ?_)
    unfold TB at hc
    simp [World.setCell, Array.getElem?_modify, hc]
  n1 := heap_at_old (heap_at_new (by simp [World.setCell]))
  n2 := heap_at_new (by simp [World.setCell])
  size := by simp [World.setCell]
  bel := fun w B h hb => ((((h.setCell (p := ⟨p.b, p.o, none⟩) hb _).setCell (p := ⟨p.b, p.o + 1, none⟩) hb _).alloc (by have := hcur.lt; simp [World.setCell]; omega) _).alloc (by have := hcur.lt; simp [World.setCell]; omega) _).drew

/-- While the operands' places are laid on the stack. -/
structure Mid (s : ByteArray) (w wq w5 : World) (nbx : Nat) (bx : Array Value) (pos g n cap : Nat) (xs : List Value) : Prop where
  own : w5.ownsRow (w.heap.size + 2) 83 2 (.slice (some ⟨g, 0, none⟩) n cap) n xs
  ne : g ≠ nbx
  box : w5.heap[nbx]? = some (.cells bx 83 (0, 0))
  tb : ∀ b cur, TB wq b cur → TB w5 b cur
  it : w5.heap[w.heap.size + 3]? = some (.stringIter s pos)
  bel : Below w.heap.size w w5

theorem own_row {w : World} {base : Nat} {e : TypeId} {size g n cap m : Nat} {xs : List Value} (h : w.ownsRow base e size (.slice (some ⟨g, 0, none⟩) n cap) m xs) : ∃ cur, w.heap[g]? = some (.cells cur e (0, 0)) := by
  rcases h.2 with ⟨h0, _⟩ | ⟨g', cap', cur, hv, _, hh, _⟩
  · cases h0
  · cases hv; exact ⟨cur, hh⟩

theorem own_ne_tb {w : World} {base g n cap m : Nat} {xs : List Value} {b : Nat} {cur : Array Value} (h : w.ownsRow base 83 2 (.slice (some ⟨g, 0, none⟩) n cap) m xs) (hb : TB w b cur) : g ≠ b := by
  obtain ⟨cg, hcg⟩ := own_row h
  rintro rfl
  unfold TB at hb
  rw [hb] at hcg
  simp at hcg

theorem Mid.step {s : ByteArray} {w wq w5 w6 wt : World} {nbx : Nat} {bx : Array Value} {pos g n cap g' n' cap' : Nat} {xs xs' : List Value} (h : Mid s w wq w5 nbx bx pos g n cap xs)
    (hk : ∀ (k : Nat) (o : Obj), w5.heap[k]? = some o → wt.heap[k]? = some o) (hs : w5.heap.size ≤ wt.heap.size) (hbw : Below w.heap.size w wt)
    (hg : wt.grownBy w6 (some g)) (hown : w6.ownsRow (w.heap.size + 2) 83 2 (.slice (some ⟨g', 0, none⟩) n' cap') n' xs') (hat : some g = some g' ∨ g' = wt.heap.size) :
    Mid s w wq w6 nbx bx pos g' n' cap' xs' := by
  obtain ⟨cg, hcg⟩ := own_row h.own
  have lt5 : ∀ {k : Nat} {o : Obj}, w5.heap[k]? = some o → k < w5.heap.size := fun hh => (Array.getElem?_eq_some_iff.1 hh).1
  have far : ∀ (k : Nat) (o : Obj), w5.heap[k]? = some o → k ≠ g → w6.heap[k]? = some o := fun k o hh hne => (hg.block k (by have := lt5 hh; omega) (by simpa using hne)).trans (hk k o hh)
  refine ⟨hown, ?_, far _ _ h.box (fun e => h.ne e.symm), ?_, ?_, ?_⟩
  · rcases hat with e | e
    · cases e; exact h.ne
    · have := lt5 h.box; omega
  · intro b cur hb
    have hb5 := h.tb b cur hb
    refine far _ _ hb5 ?_
    rintro rfl
    unfold TB at hb5
    rw [hcg] at hb5
    simp at hb5
  · exact far _ _ h.it (by rintro e; rw [← e, h.it] at hcg; cases hcg)
  · exact hbw.grown hg hbw.size (fun k hk2 => by have := (h.own.lt k (by simpa [Value.ownBlock, eq_comm] using hk2)).1; omega)

theorem mid_of {s : ByteArray} {k : Bool} {w wr W1 wq : World} {v : Value} {pos g n cap : Nat} {p : Hole} {L : List Hole} {F : List Tm → Tm} {x y : Value} {bx : Array Value} {o2 : Obj} {tcur : Array Value} (hF : Filled W1 wq p x y (.cells bx 83) o2) (_inv : MInv s k w wr v pos (p :: L) F)
    (hit : W1.heap[w.heap.size + 3]? = some (.stringIter s (pos + 1))) (hown : W1.ownsRow (w.heap.size + 2) 83 2 (.slice (some ⟨g, 0, none⟩) (n + 1) cap) (n + 1) (stk (p :: L))) (hT : TB W1 p.b tcur) (hpB : w.heap.size + 1 ≤ p.b)
    (hbel : Below w.heap.size w W1) (hn : n = L.length := by rfl) : Mid s w wq wq W1.heap.size bx (pos + 1) g n cap (stk L) := by
  subst hn
  have hpop := ownsRow_pop (last := [kv p.kind, .pointer (some ⟨p.b, p.o, none⟩)]) (stk_length L) (h := by simpa [stk] using hown)
  obtain ⟨cg, hcg⟩ := own_row hpop
  have hgp : g ≠ p.b := by
    rintro rfl
    unfold TB at hT
    rw [hT] at hcg
    simp at hcg
  refine ⟨?_, ?_, hF.n1, fun _ _ h => h, hF.old _ _ hit ?_, hF.bel _ _ hbel (by omega)⟩
  · refine ⟨hpop.1, ?_⟩
    rcases hpop.2 with h2 | ⟨g1, cap1, cur, hv, b, cc, d⟩
    · cases h2.1
    · cases hv
      exact .inr ⟨_, _, cur, rfl, b, hF.old _ _ cc hgp, d⟩
  · have := (Array.getElem?_eq_some_iff.1 hcg).1; omega
  · rintro e; rw [e] at hit; unfold TB at hT; rw [hT] at hit; cases hit

theorem mstep {s : ByteArray} {k : Bool} {w wr W1 wq w7 : World} {v : Value} {pos : Nat} {p : Hole} {L : List Hole} {F : List Tm → Tm} (inv : MInv s k w wr v pos (p :: L) F) (hp : pos < s.size) {c : UInt8} (hc : s[pos] = c) {l : List Bool} (hl : opk false p.kind c = some l)
    (hW1 : wr.iterAt (w.heap.size + 3) s (pos + 1) = W1) {m : Nat} {bx zs : Array Value} {g n cap : Nat} (hF : Filled W1 wq p (lv c) (.slice (some ⟨W1.heap.size + 1, 0, none⟩) l.length m) (.cells bx 83) (.cells zs 32)) (hzs : zs.size = l.length * 2)
    (hM : Mid s w wq w7 W1.heap.size bx (pos + 1) g n cap (stk (newHoles (W1.heap.size + 1) l ++ L))) (hn : n = (newHoles (W1.heap.size + 1) l ++ L).length) :
    MInv s k w w7 (.slice (some ⟨g, 0, none⟩) n cap) (pos + 1) (newHoles (W1.heap.size + 1) l ++ L) (fun ts => F (build c l ts)) := by
  subst hn
  have hkinds := kinds_newHoles (W1.heap.size + 1) l (opk_len hl)
  have hW1s : W1.heap.size = wr.heap.size := by rw [← hW1]; exact Lib.iterAt_size _ _ _ _
  have hW1h : ∀ (b : Nat) (cur : Array Value), TB wr b cur → TB W1 b cur := by
    intro b cur h
    rw [← hW1]; unfold TB
    rw [Lib.iterAt_other _ _ _ _ _ (by intro e; have h2 := inv.it; unfold TB at h; rw [e] at h; rw [h2] at h; cases h)]
    exact h
  have hpb := (inv.pend.cells p (by simp)).1
  have hpn : p.b ≠ w.heap.size := by omega
  have hroot : w.heap.size < wr.heap.size := inv.res.lt
  have p1 : Pend W1 (w.heap.size + 1) (p :: L) F (w.heap.size + 1) := inv.pend.keep hW1h
  have p2 := p1.step (w1 := wq) c l (opk_len hl) (W1.heap.size + 1) zs (.slice (some ⟨W1.heap.size + 1, 0, none⟩) l.length m) (fun b cur h hb => hF.old b _ h hb) (by omega) (by omega) (fun cur h => hF.top cur h) hF.n2 hzs ⟨_, rfl⟩
  refine ⟨hM.it, hM.own, hM.bel, p2.keep hM.tb, ?_, ?_, ?_, ?_, by omega⟩
  · rw [List.map_append, hkinds, take_snoc s pos hp, hc]
    exact inv.sofar.step hl
  · rw [inv.mach, drop_cons s pos hp, hc, List.map_append, hkinds]
    simp only [List.map_cons, mach, hl]
  · have h1 := inv.len
    have h2 : (newHoles (W1.heap.size + 1) l).length = l.length := by rw [← List.length_map (f := (·.kind)), hkinds]
    have := opk_len hl
    simp at h1 ⊢
    omega
  · exact hM.tb _ _ (hF.old _ _ (hW1h _ _ inv.res) (Ne.symm hpn))

theorem mk0 : ∀ w, (Instr.makeSlice 30 (.int .i64 0) (.int .i64 0)).run Try.prog w = .ok (.slice (some ⟨w.heap.size, 0, none⟩) 0 0) (w.alloc (.cells #[] 32)) := fun _ => by kernel_rfl
theorem mk1 : ∀ w, (Instr.makeSlice 30 (.int .i64 1) (.int .i64 1)).run Try.prog w = .ok (.slice (some ⟨w.heap.size, 0, none⟩) 1 1) (w.alloc (.cells #[.int .u8 0, .slice none 0 0] 32)) := fun _ => by kernel_rfl
theorem mk2 : ∀ w, (Instr.makeSlice 30 (.int .i64 2) (.int .i64 2)).run Try.prog w = .ok (.slice (some ⟨w.heap.size, 0, none⟩) 2 2) (w.alloc (.cells #[.int .u8 0, .slice none 0 0, .int .u8 0, .slice none 0 0] 32)) := fun _ => by kernel_rfl

theorem opk_lists {k : Bool} {c : UInt8} {l : List Bool} (h : opk false k c = some l) : l = [] ∨ l = [false, false] ∨ l = [true] ∨ l = [true, true] := by
  rcases opk_cases h with h | h | h | h | h | h <;> simp [h.2.1]

theorem ownsRow_iterAt' {w : World} {base : Nat} {e : TypeId} {size : Nat} {v : Value} {n : Nat} {xs : List Value} (h : w.ownsRow base e size v n xs) {k : Nat} {s : ByteArray} {p0 : Nat} (hk : w.heap[k]? = some (.stringIter s p0)) (p : Nat) : (w.iterAt k s p).ownsRow base e size v n xs := by
  obtain ⟨h1, h2⟩ := h
  refine ⟨h1, ?_⟩
  rcases h2 with h2 | ⟨g, cap, cur, a, b, c, d⟩
  · exact .inl h2
  · exact .inr ⟨g, cap, cur, a, b, by rw [Lib.iterAt_other _ _ _ _ _ (by rintro rfl; rw [hk] at c; cases c)]; exact c, d⟩

/-- A rune at which no term of the kind begins. -/
theorem rune_bad {k : Bool} {s : ByteArray} {pos : Nat} (hp : pos < s.size) (h : opk false k s[pos] = none) : ∀ c : UInt8, (c.toNat : Int) = ((Utf8.decode s pos).1 : Int) → opk false k c = none := by
  intro c hc
  by_cases ha : (s[pos]).toNat < 128
  · rw [decode_ascii s pos hp ha] at hc
    have : c = s[pos] := UInt8.toNat_inj.1 (by simp only [Int.natCast_inj] at hc; exact hc)
    rw [this]; exact h
  · have h2 := (decode_high s pos hp (by omega)).1
    cases ho : opk false k c with
    | none => rfl
    | some l => have := opk_ascii ho; omega

theorem mend {k : Bool} {s : ByteArray} {w wr : World} {v : Value} {pos : Nat} {F : List Tm → Tm} (inv : MInv s k w wr v pos [] F) (hpos : pos = s.size) (hsz : s.size ≤ 200) {x y : Value}
    (hx : wr.cell? ⟨w.heap.size + 1, 0, none⟩ = some x) (hy : wr.cell? ⟨w.heap.size + 1, 1, none⟩ = some y) :
    MustPost k s w (.returned (.agg #[x, y])) ((wr.setCell ⟨w.heap.size, 0, none⟩ x).setCell ⟨w.heap.size, 1, none⟩ y) := by
  have hk : ∀ b o v, w.heap.size + 1 ≤ b → wr.cell? ⟨b, o, none⟩ = some v → ((wr.setCell ⟨w.heap.size, 0, none⟩ x).setCell ⟨w.heap.size, 1, none⟩ y).cell? ⟨b, o, none⟩ = some v := by
    intro b o v hb h
    rw [World.cell?_setCell_other _ _ _ _ (by intro e; injection e; omega), World.cell?_setCell_other _ _ _ _ (by intro e; injection e; omega)]
    exact h
  refine ⟨(inv.bel.setCell (Nat.le_refl _) _).setCell (Nat.le_refl _) _, .inl ⟨F [], x, y, inv.sofar.ok [] trivial, ?_, hsz, rfl, ?_⟩⟩
  · rw [inv.sofar.ser [] trivial, hpos, List.take_of_length_le (by simp)]; simp [sers]
  · obtain ⟨x', y', hx', hy', hr⟩ := inv.pend.done hk
    rw [hk _ _ _ (Nat.le_refl _) hx] at hx'
    rw [hk _ _ _ (Nat.le_refl _) hy] at hy'
    cases hx'; cases hy'
    exact hr

set_option maxRecDepth 1000000 in
set_option maxHeartbeats 2000000 in
theorem must_any (k : Bool) (s : ByteArray) (w : World) (hsz : s.size ≤ 200) : Calls Try.prog 49 #[.string s, .int .u8 (kcode k)] w (MustPost k s w) := by
  obtain ⟨i0, hi0, hz0, hz1, hz2⟩ := info_parts infoPlace
  go_enter Try.func49, Try.ntmps49
  go_wp2_with fail
  go_loopw [6] (fun v wr => ∃ (pos : Nat) (L : List Hole) (F : List Tm → Tm), MInv s k w wr v pos L F) (fun _ wr => s.size - wr.iterPos (w.heap.size + 3))
  case atStart => exact ⟨0, _, _, mstart k s w⟩
  case round =>
    obtain ⟨pos, L, F, inv⟩ := hrel
    have hpos0 := Lib.hid (iterPos_must inv)
    have hit := inv.it
    by_cases hp : pos < s.size
    · have hnx : ∀ ty, (Instr.next (.pointer (some ⟨w.heap.size + 1 + 1 + 1, 0, none⟩)) true ty).run Try.prog wr = _ := fun ty => Lib.run_next_any_at wr (w.heap.size + 3) s pos ty hit hp
      clear hit
      cases L with
      | nil =>
        have hown := inv.own
        have hm := Lib.hid inv.mach
        have hbel := inv.bel
        have hbel2 := Lib.below_iterAt hbel (k := w.heap.size + 3) (by omega) s (pos + (Utf8.decode s pos).2)
        have hbad : Hid (mach false [k] s.data.toList = false) := by
          have h := hm.out
          rw [drop_cons s pos hp] at h
          exact h
        clear inv hm hbel
        rcases hown.2 with ⟨rfl, _⟩ | ⟨g, cap, cur, rfl, _⟩
        · go_wp2_with fail
          exact ⟨rfl, post_bad hbel2 hbad.out ⟨_, rfl⟩⟩
        · simp only [List.length_nil]
          go_wp2_with fail
          exact ⟨rfl, post_bad hbel2 hbad.out ⟨_, rfl⟩⟩
      | cons p L =>
        have hown := inv.own
        rcases hown.2 with ⟨_, hn0⟩ | ⟨g, cap, cur, rfl, _, _, hncap, hcapm, _, _⟩
        · simp at hn0
        have hown2 := ownsRow_iterAt' hown inv.it (pos + (Utf8.decode s pos).2)
        have hbel2 := Lib.below_iterAt inv.bel (k := w.heap.size + 3) (by omega) s (pos + (Utf8.decode s pos).2)
        have hm := Lib.hid inv.mach
        have hlen := inv.len
        simp only [List.length_cons] at hown2 hncap hlen ⊢
        unfold maxLen at hcapm
        cases hopk : opk false p.kind s[pos] with
        | none =>
          have hbad : Hid (mach false [k] s.data.toList = false) := by
            have h := hm.out
            rw [drop_cons s pos hp] at h
            simp only [List.map_cons, mach, hopk] at h
            exact h
          have hrb := Lib.hid (rune_bad hp hopk)
          clear inv hm hown hopk
          generalize wr.iterAt (w.heap.size + 3) s (pos + (Utf8.decode s pos).2) = W1 at *
          have ct0 := (hown2.cellAt (L.length * 2) (by omega)).trans (stk_top0 p L)
          have ct1 := (hown2.cellAt (L.length * 2 + 1) (by omega)).trans (stk_top1 p L)
          have hg0 : (((L.length : Int) + 1) == 0) = false := by simp; omega
          have hix0 : (0 : Int) ≤ (L.length : Int) := by omega
          have hix1 : (L.length : Int) < (L.length : Int) + 1 := by omega
          have hix3 : L.length < L.length + 1 := by omega
          unfold kv at ct0
          clear hown2
          go_wp2_with fail
          refine (kinds_bad _ _ _ hrb.out).mono ?_
          rintro e w' ⟨v, rfl, rfl⟩
          go_wp2_with fail
          exact ⟨rfl, post_bad (hbel2.alloc hbel2.size _) hbad.out ⟨_, rfl⟩⟩
        | some l =>
          have hasc := opk_ascii hopk
          have hl2 := opk_len hopk
          rw [decode_ascii s pos hp hasc] at hnx hown2 hbel2
          simp only at hnx hown2 hbel2
          have hit2 := Lib.iterAt_heap wr (w.heap.size + 3) s pos (pos + 1) inv.it
          obtain ⟨hpB, hpe, tcur, htc, htsz⟩ := inv.pend.cells p (by simp)
          have htc2 : TB (wr.iterAt (w.heap.size + 3) s (pos + 1)) p.b tcur := by
            unfold TB
            rw [Lib.iterAt_other _ _ _ _ _ (by intro e; have h := inv.it; unfold TB at htc; rw [e] at htc; rw [h] at htc; cases htc)]
            exact htc
          have hc0 := htc2.cell p.o
          have hc1 := htc2.cell (p.o + 1)
          have hf0 := htc2.frozen p.o
          have hf1 := htc2.frozen (p.o + 1)
          rw [Array.getElem?_eq_getElem (by omega)] at hc0 hc1
          generalize tcur[p.o] = x0 at hc0
          generalize tcur[p.o + 1] = x1 at hc1
          have hpb := htc2.lt
          have HT := Lib.hid htc2
          have HK := Lib.hid hopk
          have HI := Lib.hid inv
          have HI2 := Lib.hid hit2
          have HB := Lib.hid hbel2
          have HO := Lib.hid hown2
          have hcb : (s[pos].toNat : Int) < 256 := by omega
          have hcb0 : (0 : Int) ≤ (s[pos].toNat : Int) := by omega
          generalize hW1 : wr.iterAt (w.heap.size + 3) s (pos + 1) = W1 at *
          have HW1 := Lib.hid hW1
          generalize hcc : s[pos] = c at *
          have HC := Lib.hid hcc
          have ct0 := (hown2.cellAt (L.length * 2) (by omega)).trans (stk_top0 p L)
          have ct1 := (hown2.cellAt (L.length * 2 + 1) (by omega)).trans (stk_top1 p L)
          have hg0 : (((L.length : Int) + 1) == 0) = false := by simp; omega
          have hix0 : (0 : Int) ≤ (L.length : Int) := by omega
          have hix1 : (L.length : Int) < (L.length : Int) + 1 := by omega
          have hix3 : L.length < L.length + 1 := by omega
          unfold kv at ct0
          clear hown2 hown hopk hm inv hit2 hbel2 hW1 hcc htc2 htc
          go_wp2_with fail
          refine (kinds_ok _ _ _ _ HK.out).mono ?_
          rintro e w' ⟨rfl, rfl⟩
          go_wp2_with fail
          rcases opk_lists HK.out with rfl | rfl | rfl | rfl
          · rw [show kstr [] = ⟨#[]⟩ from rfl]
            have hmk := mk0
            go_region
            go_wp2_with fail
            have HF := Lib.hid (filled HT.out (.int .u8 (c.toNat : Int)) (.slice (some ⟨W1.heap.size + 1, 0, none⟩) 0 0) (.cells #[.int .u8 (kcode p.kind), .pointer (some ⟨p.b, p.o, none⟩)] 83) (.cells #[] 32))
            have HM0 := Lib.hid (mid_of HF.out HI.out HI2.out HO.out HT.out hpB HB.out)
            generalize ((((W1.setCell ⟨p.b, p.o, none⟩ (.int .u8 (c.toNat : Int))).setCell ⟨p.b, p.o + 1, none⟩ (.slice (some ⟨W1.heap.size + 1, 0, none⟩) 0 0)).alloc (.cells #[.int .u8 (kcode p.kind), .pointer (some ⟨p.b, p.o, none⟩)] 83)).alloc (.cells #[] 32)).drew = w0 at *
            have HS0 : Hid (w0.cell? ⟨p.b, p.o + 1, none⟩ = some (.slice (some ⟨W1.heap.size + 1, 0, none⟩) 0 0)) := by
              show w0.cell? ⟨p.b, p.o + 1, none⟩ = some (.slice (some ⟨W1.heap.size + 1, 0, none⟩) 0 0)
              rw [(HF.out.top _ HT.out).cell]; simp [Array.getElem?_setIfInBounds]; omega
            clear hc0 hc1 ct0 ct1 hf0 hf1 hmk hpb
            refine wp_loop_rounds 1 ?_
            rw [rounds_succ]
            go_wp2_with fail
            go_roundw
            case rel => exact ⟨pos + 1, _, _, mstep HI.out hp HC.out HK.out HW1.out (m := 0) HF.out (by simp) HM0.out (by simp [newHoles])⟩
            case measure => rw [iterPos_must (mstep HI.out hp HC.out HK.out HW1.out (m := 0) HF.out (by simp) HM0.out (by simp [newHoles])), hpos0.out]; omega
          · rw [show kstr [false, false] = ⟨#[101, 101]⟩ from rfl]
            have hmk := mk2
            go_region
            go_wp2_with fail
            have HF := Lib.hid (filled HT.out (.int .u8 (c.toNat : Int)) (.slice (some ⟨W1.heap.size + 1, 0, none⟩) 2 2) (.cells #[.int .u8 (kcode p.kind), .pointer (some ⟨p.b, p.o, none⟩)] 83) (.cells #[.int .u8 0, .slice none 0 0, .int .u8 0, .slice none 0 0] 32))
            have HM0 := Lib.hid (mid_of HF.out HI.out HI2.out HO.out HT.out hpB HB.out)
            generalize ((((W1.setCell ⟨p.b, p.o, none⟩ (.int .u8 (c.toNat : Int))).setCell ⟨p.b, p.o + 1, none⟩ (.slice (some ⟨W1.heap.size + 1, 0, none⟩) 2 2)).alloc (.cells #[.int .u8 (kcode p.kind), .pointer (some ⟨p.b, p.o, none⟩)] 83)).alloc (.cells #[.int .u8 0, .slice none 0 0, .int .u8 0, .slice none 0 0] 32)).drew = w0 at *
            have HS0 : Hid (w0.cell? ⟨p.b, p.o + 1, none⟩ = some (.slice (some ⟨W1.heap.size + 1, 0, none⟩) 2 2)) := by
              show w0.cell? ⟨p.b, p.o + 1, none⟩ = some (.slice (some ⟨W1.heap.size + 1, 0, none⟩) 2 2)
              rw [(HF.out.top _ HT.out).cell]; simp [Array.getElem?_setIfInBounds]; omega
            clear hc0 hc1 ct0 ct1 hf0 hf1 hmk hpb
            refine wp_loop_rounds 3 ?_
            rw [rounds_succ]
            go_wp2_with fail
            have hown0 := HM0.out.own
            have hbx0 : w0.cell? ⟨W1.heap.size, 1, none⟩ = some (.pointer (some ⟨p.b, p.o, none⟩)) := by rw [cell_of_row w0 _ 1 _ _ (0, 0) HM0.out.box]; rfl
            have hsl0 := HS0.out
            have htl0 : w0.heap.size ≥ W1.heap.size + 2 := by have := HM0.out.tb _ _ HF.out.n2; have := TB.lt this; omega
            go_region_held3 (fun w' => w'.cell? ⟨W1.heap.size, 1, none⟩ = some (.pointer (some ⟨p.b, p.o, none⟩)) ∧ w'.cell? ⟨p.b, p.o + 1, none⟩ = some (.slice (some ⟨W1.heap.size + 1, 0, none⟩) 2 2))
              (first
                | go_keep
                | (go_split_ands
                   refine ⟨?_, ?_⟩
                   · (rw [hgrow.cell_far _ (by simp; omega) (by have := HM0.out.ne; simp [Value.ownBlock]; omega)]; assumption)
                   · (rw [hgrow.cell_far _ (by have := (HM0.out.tb _ _ (HF.out.top _ HT.out)).lt; simp; omega) (by have := own_ne_tb HM0.out.own (HM0.out.tb _ _ (HF.out.top _ HT.out)); simp [Value.ownBlock]; omega)]; assumption)))
              ((refine step_append_lies _ (by rfl) _ _ _ (by rfl) (w.heap.size + 2) 83 i0 _ 2 16 Try.underlying84 hi0 hz0 hz1 hz2 rfl (by omega) _ _ _ (by rfl) ((hown0.alloc _).drew)
                  ⟨w0.heap.size, 0, none⟩ 1 1 [.int .u8 101, .pointer (some ⟨W1.heap.size + 1, 2, none⟩)] (by rfl) (by rfl) (World.news_of_block (cs := #[.int .u8 101, .pointer (some ⟨W1.heap.size + 1, 2, none⟩)]) (t := 83) (fr := (0, 0)) (heap_alloc_new w0 _)) (by simp [Value.oneCell'])
                  (by omega) (by unfold maxLen; omega) (by omega) (by have := hpB; have := HT.out.lt; simp; omega) (w0.heap.size + 1) (by simp) ?_; intro g1 cap1 w1 hown1' hgrow hat hlt))
            have HM1 := Lib.hid (HM0.out.step (wt := (w0.alloc (.cells #[.int .u8 101, .pointer (some ⟨W1.heap.size + 1, 2, none⟩)] 83)).drew) (fun _ _ h => heap_at_old h) (by simp) ((HM0.out.bel.alloc HM0.out.bel.size _).drew) hgrow hown1' (by simpa [Value.ownBlock] using hat))
            have HS1 : Hid (w1.cell? ⟨p.b, p.o + 1, none⟩ = some (.slice (some ⟨W1.heap.size + 1, 0, none⟩) 2 2)) := by
              show w1.cell? ⟨p.b, p.o + 1, none⟩ = some (.slice (some ⟨W1.heap.size + 1, 0, none⟩) 2 2)
              rw [(HM1.out.tb _ _ (HF.out.top _ HT.out)).cell]; simp [Array.getElem?_setIfInBounds]; omega
            clear hown0 hbx0 hsl0 htl0 hown1' hgrow hat hlt
            go_wp2_with fail
            rw [rounds_succ]
            go_wp2_with fail
            have hown1 := HM1.out.own
            have hbx1 : w1.cell? ⟨W1.heap.size, 1, none⟩ = some (.pointer (some ⟨p.b, p.o, none⟩)) := by rw [cell_of_row w1 _ 1 _ _ (0, 0) HM1.out.box]; rfl
            have hsl1 := HS1.out
            have htl1 : w1.heap.size ≥ W1.heap.size + 2 := by have := HM1.out.tb _ _ HF.out.n2; have := TB.lt this; omega
            go_region_held3 (fun w' => w'.cell? ⟨W1.heap.size, 1, none⟩ = some (.pointer (some ⟨p.b, p.o, none⟩)) ∧ w'.cell? ⟨p.b, p.o + 1, none⟩ = some (.slice (some ⟨W1.heap.size + 1, 0, none⟩) 2 2))
              (first
                | go_keep
                | (go_split_ands
                   refine ⟨?_, ?_⟩
                   · (rw [hgrow.cell_far _ (by simp; omega) (by have := HM1.out.ne; simp [Value.ownBlock]; omega)]; assumption)
                   · (rw [hgrow.cell_far _ (by have := (HM1.out.tb _ _ (HF.out.top _ HT.out)).lt; simp; omega) (by have := own_ne_tb HM1.out.own (HM1.out.tb _ _ (HF.out.top _ HT.out)); simp [Value.ownBlock]; omega)]; assumption)))
              ((refine step_append_lies _ (by rfl) _ _ _ (by rfl) (w.heap.size + 2) 83 i0 _ 2 16 Try.underlying84 hi0 hz0 hz1 hz2 rfl (by omega) _ _ _ (by rfl) ((hown1.alloc _).drew)
                  ⟨w1.heap.size, 0, none⟩ 1 1 [.int .u8 101, .pointer (some ⟨W1.heap.size + 1, 0, none⟩)] (by rfl) (by rfl) (World.news_of_block (cs := #[.int .u8 101, .pointer (some ⟨W1.heap.size + 1, 0, none⟩)]) (t := 83) (fr := (0, 0)) (heap_alloc_new w1 _)) (by simp [Value.oneCell'])
                  (by omega) (by unfold maxLen; omega) (by omega) (by have := hpB; have := HT.out.lt; simp; omega) (w1.heap.size + 1) (by simp) ?_; intro g2 cap2 w2 hown2' hgrow hat hlt))
            have HM2 := Lib.hid (HM1.out.step (wt := (w1.alloc (.cells #[.int .u8 101, .pointer (some ⟨W1.heap.size + 1, 0, none⟩)] 83)).drew) (fun _ _ h => heap_at_old h) (by simp) ((HM1.out.bel.alloc HM1.out.bel.size _).drew) hgrow hown2' (by simpa [Value.ownBlock] using hat))
            have HS2 : Hid (w2.cell? ⟨p.b, p.o + 1, none⟩ = some (.slice (some ⟨W1.heap.size + 1, 0, none⟩) 2 2)) := by
              show w2.cell? ⟨p.b, p.o + 1, none⟩ = some (.slice (some ⟨W1.heap.size + 1, 0, none⟩) 2 2)
              rw [(HM2.out.tb _ _ (HF.out.top _ HT.out)).cell]; simp [Array.getElem?_setIfInBounds]; omega
            clear hown1 hbx1 hsl1 htl1 hown2' hgrow hat hlt
            go_wp2_with fail
            rw [rounds_succ]
            go_wp2_with fail
            go_roundw
            case rel => exact ⟨pos + 1, _, _, mstep HI.out hp HC.out HK.out HW1.out (m := 2) HF.out (by simp) HM2.out (by simp [newHoles])⟩
            case measure => rw [iterPos_must (mstep HI.out hp HC.out HK.out HW1.out (m := 2) HF.out (by simp) HM2.out (by simp [newHoles])), hpos0.out]; omega
          · rw [show kstr [true] = ⟨#[116]⟩ from rfl]
            have hmk := mk1
            go_region
            go_wp2_with fail
            have HF := Lib.hid (filled HT.out (.int .u8 (c.toNat : Int)) (.slice (some ⟨W1.heap.size + 1, 0, none⟩) 1 1) (.cells #[.int .u8 (kcode p.kind), .pointer (some ⟨p.b, p.o, none⟩)] 83) (.cells #[.int .u8 0, .slice none 0 0] 32))
            have HM0 := Lib.hid (mid_of HF.out HI.out HI2.out HO.out HT.out hpB HB.out)
            generalize ((((W1.setCell ⟨p.b, p.o, none⟩ (.int .u8 (c.toNat : Int))).setCell ⟨p.b, p.o + 1, none⟩ (.slice (some ⟨W1.heap.size + 1, 0, none⟩) 1 1)).alloc (.cells #[.int .u8 (kcode p.kind), .pointer (some ⟨p.b, p.o, none⟩)] 83)).alloc (.cells #[.int .u8 0, .slice none 0 0] 32)).drew = w0 at *
            have HS0 : Hid (w0.cell? ⟨p.b, p.o + 1, none⟩ = some (.slice (some ⟨W1.heap.size + 1, 0, none⟩) 1 1)) := by
              show w0.cell? ⟨p.b, p.o + 1, none⟩ = some (.slice (some ⟨W1.heap.size + 1, 0, none⟩) 1 1)
              rw [(HF.out.top _ HT.out).cell]; simp [Array.getElem?_setIfInBounds]; omega
            clear hc0 hc1 ct0 ct1 hf0 hf1 hmk hpb
            refine wp_loop_rounds 2 ?_
            rw [rounds_succ]
            go_wp2_with fail
            have hown0 := HM0.out.own
            have hbx0 : w0.cell? ⟨W1.heap.size, 1, none⟩ = some (.pointer (some ⟨p.b, p.o, none⟩)) := by rw [cell_of_row w0 _ 1 _ _ (0, 0) HM0.out.box]; rfl
            have hsl0 := HS0.out
            have htl0 : w0.heap.size ≥ W1.heap.size + 2 := by have := HM0.out.tb _ _ HF.out.n2; have := TB.lt this; omega
            go_region_held3 (fun w' => w'.cell? ⟨W1.heap.size, 1, none⟩ = some (.pointer (some ⟨p.b, p.o, none⟩)) ∧ w'.cell? ⟨p.b, p.o + 1, none⟩ = some (.slice (some ⟨W1.heap.size + 1, 0, none⟩) 1 1))
              (first
                | go_keep
                | (go_split_ands
                   refine ⟨?_, ?_⟩
                   · (rw [hgrow.cell_far _ (by simp; omega) (by have := HM0.out.ne; simp [Value.ownBlock]; omega)]; assumption)
                   · (rw [hgrow.cell_far _ (by have := (HM0.out.tb _ _ (HF.out.top _ HT.out)).lt; simp; omega) (by have := own_ne_tb HM0.out.own (HM0.out.tb _ _ (HF.out.top _ HT.out)); simp [Value.ownBlock]; omega)]; assumption)))
              ((refine step_append_lies _ (by rfl) _ _ _ (by rfl) (w.heap.size + 2) 83 i0 _ 2 16 Try.underlying84 hi0 hz0 hz1 hz2 rfl (by omega) _ _ _ (by rfl) ((hown0.alloc _).drew)
                  ⟨w0.heap.size, 0, none⟩ 1 1 [.int .u8 116, .pointer (some ⟨W1.heap.size + 1, 0, none⟩)] (by rfl) (by rfl) (World.news_of_block (cs := #[.int .u8 116, .pointer (some ⟨W1.heap.size + 1, 0, none⟩)]) (t := 83) (fr := (0, 0)) (heap_alloc_new w0 _)) (by simp [Value.oneCell'])
                  (by omega) (by unfold maxLen; omega) (by omega) (by have := hpB; have := HT.out.lt; simp; omega) (w0.heap.size + 1) (by simp) ?_; intro g1 cap1 w1 hown1' hgrow hat hlt))
            have HM1 := Lib.hid (HM0.out.step (wt := (w0.alloc (.cells #[.int .u8 116, .pointer (some ⟨W1.heap.size + 1, 0, none⟩)] 83)).drew) (fun _ _ h => heap_at_old h) (by simp) ((HM0.out.bel.alloc HM0.out.bel.size _).drew) hgrow hown1' (by simpa [Value.ownBlock] using hat))
            have HS1 : Hid (w1.cell? ⟨p.b, p.o + 1, none⟩ = some (.slice (some ⟨W1.heap.size + 1, 0, none⟩) 1 1)) := by
              show w1.cell? ⟨p.b, p.o + 1, none⟩ = some (.slice (some ⟨W1.heap.size + 1, 0, none⟩) 1 1)
              rw [(HM1.out.tb _ _ (HF.out.top _ HT.out)).cell]; simp [Array.getElem?_setIfInBounds]; omega
            clear hown0 hbx0 hsl0 htl0 hown1' hgrow hat hlt
            go_wp2_with fail
            rw [rounds_succ]
            go_wp2_with fail
            go_roundw
            case rel => exact ⟨pos + 1, _, _, mstep HI.out hp HC.out HK.out HW1.out (m := 1) HF.out (by simp) HM1.out (by simp [newHoles])⟩
            case measure => rw [iterPos_must (mstep HI.out hp HC.out HK.out HW1.out (m := 1) HF.out (by simp) HM1.out (by simp [newHoles])), hpos0.out]; omega
          · rw [show kstr [true, true] = ⟨#[116, 116]⟩ from rfl]
            have hmk := mk2
            go_region
            go_wp2_with fail
            have HF := Lib.hid (filled HT.out (.int .u8 (c.toNat : Int)) (.slice (some ⟨W1.heap.size + 1, 0, none⟩) 2 2) (.cells #[.int .u8 (kcode p.kind), .pointer (some ⟨p.b, p.o, none⟩)] 83) (.cells #[.int .u8 0, .slice none 0 0, .int .u8 0, .slice none 0 0] 32))
            have HM0 := Lib.hid (mid_of HF.out HI.out HI2.out HO.out HT.out hpB HB.out)
            generalize ((((W1.setCell ⟨p.b, p.o, none⟩ (.int .u8 (c.toNat : Int))).setCell ⟨p.b, p.o + 1, none⟩ (.slice (some ⟨W1.heap.size + 1, 0, none⟩) 2 2)).alloc (.cells #[.int .u8 (kcode p.kind), .pointer (some ⟨p.b, p.o, none⟩)] 83)).alloc (.cells #[.int .u8 0, .slice none 0 0, .int .u8 0, .slice none 0 0] 32)).drew = w0 at *
            have HS0 : Hid (w0.cell? ⟨p.b, p.o + 1, none⟩ = some (.slice (some ⟨W1.heap.size + 1, 0, none⟩) 2 2)) := by
              show w0.cell? ⟨p.b, p.o + 1, none⟩ = some (.slice (some ⟨W1.heap.size + 1, 0, none⟩) 2 2)
              rw [(HF.out.top _ HT.out).cell]; simp [Array.getElem?_setIfInBounds]; omega
            clear hc0 hc1 ct0 ct1 hf0 hf1 hmk hpb
            refine wp_loop_rounds 3 ?_
            rw [rounds_succ]
            go_wp2_with fail
            have hown0 := HM0.out.own
            have hbx0 : w0.cell? ⟨W1.heap.size, 1, none⟩ = some (.pointer (some ⟨p.b, p.o, none⟩)) := by rw [cell_of_row w0 _ 1 _ _ (0, 0) HM0.out.box]; rfl
            have hsl0 := HS0.out
            have htl0 : w0.heap.size ≥ W1.heap.size + 2 := by have := HM0.out.tb _ _ HF.out.n2; have := TB.lt this; omega
            go_region_held3 (fun w' => w'.cell? ⟨W1.heap.size, 1, none⟩ = some (.pointer (some ⟨p.b, p.o, none⟩)) ∧ w'.cell? ⟨p.b, p.o + 1, none⟩ = some (.slice (some ⟨W1.heap.size + 1, 0, none⟩) 2 2))
              (first
                | go_keep
                | (go_split_ands
                   refine ⟨?_, ?_⟩
                   · (rw [hgrow.cell_far _ (by simp; omega) (by have := HM0.out.ne; simp [Value.ownBlock]; omega)]; assumption)
                   · (rw [hgrow.cell_far _ (by have := (HM0.out.tb _ _ (HF.out.top _ HT.out)).lt; simp; omega) (by have := own_ne_tb HM0.out.own (HM0.out.tb _ _ (HF.out.top _ HT.out)); simp [Value.ownBlock]; omega)]; assumption)))
              ((refine step_append_lies _ (by rfl) _ _ _ (by rfl) (w.heap.size + 2) 83 i0 _ 2 16 Try.underlying84 hi0 hz0 hz1 hz2 rfl (by omega) _ _ _ (by rfl) ((hown0.alloc _).drew)
                  ⟨w0.heap.size, 0, none⟩ 1 1 [.int .u8 116, .pointer (some ⟨W1.heap.size + 1, 2, none⟩)] (by rfl) (by rfl) (World.news_of_block (cs := #[.int .u8 116, .pointer (some ⟨W1.heap.size + 1, 2, none⟩)]) (t := 83) (fr := (0, 0)) (heap_alloc_new w0 _)) (by simp [Value.oneCell'])
                  (by omega) (by unfold maxLen; omega) (by omega) (by have := hpB; have := HT.out.lt; simp; omega) (w0.heap.size + 1) (by simp) ?_; intro g1 cap1 w1 hown1' hgrow hat hlt))
            have HM1 := Lib.hid (HM0.out.step (wt := (w0.alloc (.cells #[.int .u8 116, .pointer (some ⟨W1.heap.size + 1, 2, none⟩)] 83)).drew) (fun _ _ h => heap_at_old h) (by simp) ((HM0.out.bel.alloc HM0.out.bel.size _).drew) hgrow hown1' (by simpa [Value.ownBlock] using hat))
            have HS1 : Hid (w1.cell? ⟨p.b, p.o + 1, none⟩ = some (.slice (some ⟨W1.heap.size + 1, 0, none⟩) 2 2)) := by
              show w1.cell? ⟨p.b, p.o + 1, none⟩ = some (.slice (some ⟨W1.heap.size + 1, 0, none⟩) 2 2)
              rw [(HM1.out.tb _ _ (HF.out.top _ HT.out)).cell]; simp [Array.getElem?_setIfInBounds]; omega
            clear hown0 hbx0 hsl0 htl0 hown1' hgrow hat hlt
            go_wp2_with fail
            rw [rounds_succ]
            go_wp2_with fail
            have hown1 := HM1.out.own
            have hbx1 : w1.cell? ⟨W1.heap.size, 1, none⟩ = some (.pointer (some ⟨p.b, p.o, none⟩)) := by rw [cell_of_row w1 _ 1 _ _ (0, 0) HM1.out.box]; rfl
            have hsl1 := HS1.out
            have htl1 : w1.heap.size ≥ W1.heap.size + 2 := by have := HM1.out.tb _ _ HF.out.n2; have := TB.lt this; omega
            go_region_held3 (fun w' => w'.cell? ⟨W1.heap.size, 1, none⟩ = some (.pointer (some ⟨p.b, p.o, none⟩)) ∧ w'.cell? ⟨p.b, p.o + 1, none⟩ = some (.slice (some ⟨W1.heap.size + 1, 0, none⟩) 2 2))
              (first
                | go_keep
                | (go_split_ands
                   refine ⟨?_, ?_⟩
                   · (rw [hgrow.cell_far _ (by simp; omega) (by have := HM1.out.ne; simp [Value.ownBlock]; omega)]; assumption)
                   · (rw [hgrow.cell_far _ (by have := (HM1.out.tb _ _ (HF.out.top _ HT.out)).lt; simp; omega) (by have := own_ne_tb HM1.out.own (HM1.out.tb _ _ (HF.out.top _ HT.out)); simp [Value.ownBlock]; omega)]; assumption)))
              ((refine step_append_lies _ (by rfl) _ _ _ (by rfl) (w.heap.size + 2) 83 i0 _ 2 16 Try.underlying84 hi0 hz0 hz1 hz2 rfl (by omega) _ _ _ (by rfl) ((hown1.alloc _).drew)
                  ⟨w1.heap.size, 0, none⟩ 1 1 [.int .u8 116, .pointer (some ⟨W1.heap.size + 1, 0, none⟩)] (by rfl) (by rfl) (World.news_of_block (cs := #[.int .u8 116, .pointer (some ⟨W1.heap.size + 1, 0, none⟩)]) (t := 83) (fr := (0, 0)) (heap_alloc_new w1 _)) (by simp [Value.oneCell'])
                  (by omega) (by unfold maxLen; omega) (by omega) (by have := hpB; have := HT.out.lt; simp; omega) (w1.heap.size + 1) (by simp) ?_; intro g2 cap2 w2 hown2' hgrow hat hlt))
            have HM2 := Lib.hid (HM1.out.step (wt := (w1.alloc (.cells #[.int .u8 116, .pointer (some ⟨W1.heap.size + 1, 0, none⟩)] 83)).drew) (fun _ _ h => heap_at_old h) (by simp) ((HM1.out.bel.alloc HM1.out.bel.size _).drew) hgrow hown2' (by simpa [Value.ownBlock] using hat))
            have HS2 : Hid (w2.cell? ⟨p.b, p.o + 1, none⟩ = some (.slice (some ⟨W1.heap.size + 1, 0, none⟩) 2 2)) := by
              show w2.cell? ⟨p.b, p.o + 1, none⟩ = some (.slice (some ⟨W1.heap.size + 1, 0, none⟩) 2 2)
              rw [(HM2.out.tb _ _ (HF.out.top _ HT.out)).cell]; simp [Array.getElem?_setIfInBounds]; omega
            clear hown1 hbx1 hsl1 htl1 hown2' hgrow hat hlt
            go_wp2_with fail
            rw [rounds_succ]
            go_wp2_with fail
            go_roundw
            case rel => exact ⟨pos + 1, _, _, mstep HI.out hp HC.out HK.out HW1.out (m := 2) HF.out (by simp) HM2.out (by simp [newHoles])⟩
            case measure => rw [iterPos_must (mstep HI.out hp HC.out HK.out HW1.out (m := 2) HF.out (by simp) HM2.out (by simp [newHoles])), hpos0.out]; omega
    · have hnx : ∀ ty, (Instr.next (.pointer (some ⟨w.heap.size + 1 + 1 + 1, 0, none⟩)) true ty).run Try.prog wr = _ := fun ty => Lib.run_next_end_at wr (w.heap.size + 3) s pos ty hit hp
      clear hit
      have hown := inv.own
      have hbel := inv.bel
      have hpos : Hid (pos = s.size) := by have := inv.le; show pos = s.size; omega
      have hm := Lib.hid inv.mach
      have hlen := inv.len
      cases L with
      | nil =>
        obtain ⟨x, y, hx, hy, hrep⟩ := inv.pend.done (w' := wr) (fun _ _ _ _ h => h)
        have hr0 := inv.res.cell 0
        have hr1 := inv.res.cell 1
        have hf0 := inv.res.frozen 0
        have hf1 := inv.res.frozen 1
        have hsf := Lib.hid inv.sofar
        have hlt := cell_lt hx
        simp only [Nat.zero_add] at hy
        simp at hr0 hr1
        have hlt2 : w.heap.size < wr.heap.size := by omega
        obtain ⟨xc, ya, yn, ym, rfl, rfl⟩ := hrep.forms
        have hfin : Hid (MustPost k s w (.returned (.agg #[.int .u8 xc, .slice ya yn ym])) ((wr.setCell ⟨w.heap.size, 0, none⟩ (.int .u8 xc)).setCell ⟨w.heap.size, 1, none⟩ (.slice ya yn ym))) := mend inv hpos.out hsz hx hy
        clear inv hlen hlt hrep hpos hm hsf
        rcases hown.2 with ⟨rfl, _⟩ | ⟨g, cap, cur, rfl, _⟩
        · go_wp2_with fail
          exact bodyPost_ret (v := .agg #[.int .u8 xc, .slice ya yn ym]) (by simp [results, Try.results49, go_sem, hr0, hr1]) rfl hfin.out
        · simp only [List.length_nil]
          go_wp2_with fail
          exact bodyPost_ret (v := .agg #[.int .u8 xc, .slice ya yn ym]) (by simp [results, Try.results49, go_sem, hr0, hr1]) rfl hfin.out
      | cons p L =>
        have hbad : Hid (mach false [k] s.data.toList = false) := by
          have h := hm.out
          rw [hpos.out, List.drop_of_length_le (by simp)] at h
          exact h
        clear inv hm
        rcases hown.2 with ⟨_, hn0⟩ | ⟨g, cap, cur, rfl, _, _, hncap, hcapm, _, _⟩
        · simp at hn0
        simp only [List.length_cons] at hown hncap hlen ⊢
        unfold maxLen at hcapm
        clear hpos hown
        go_wp2_with fail
        exact ⟨rfl, post_bad hbel hbad.out ⟨_, rfl⟩⟩
end Go.Proofs.Ytiaidahhlnaabaa
