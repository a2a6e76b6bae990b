/-
  impl.mustRead: it returns the tree of a text of at most 200 bytes that is a text of the kind, and panics at every other text. Nothing that was there before changes.
-/
import Derived.Test.YtpdepihggpfmiabDoorGTree
import Derived.Test.YtpdepihggpfmiabDoorUp
import Derived.WalkSmall
import Derived.Deep.LoopGhost
import Derived.BigQuiet
import Derived.Deep.QuietTactic
import Derived.Deep.RegionHeld3
import Derived.Deep.AppendLies
namespace Go.Proofs.YtpdepihggpfmiabDoor
open Go.RowKit

theorem infoPlace : (Tryd.prog.info? 97).map (fun i => (i.zero, i.size, i.bytes)) = some (some (.agg #[.int .u8 0, .pointer none]), 2, 16) := by kernel_rfl

/-- How many bytes a text of a kind may have. -/
def lim (k : UInt8) : Nat := if k = 80 then 1000 else 200
theorem lim_le (k : UInt8) : lim k ≤ 1000 := by unfold lim; split <;> omega
def MustPost (k : UInt8) (s : ByteArray) (w : World) (e : Ending) (w' : World) : Prop :=
  Below w.heap.size w w' ∧ ((∃ c kids x y, FOk false (.nd c kids .nil) [k] ∧ s.data.toList = (Fo.nd c kids .nil).ser ∧ s.size ≤ lim k ∧ e = .returned (.agg #[x, y]) ∧ RepN w' (w.heap.size + 1) c kids x y) ∨
    (¬ (GValid false k s.data.toList ∧ s.size ≤ lim k) ∧ ∃ v, e = .panicked [{ v := .iface 9 v, recovered := false }]))

structure MInv (s : ByteArray) (k : UInt8) (w wr : World) (v : Value) (pos : Nat) (L : List GHole) (F : Fo → Fo) : Prop where
  it : wr.heap[w.heap.size + 3]? = some (.stringIter s pos)
  own : wr.ownsRow (w.heap.size + 2) 97 2 v L.length (gstk L)
  bel : Below w.heap.size w wr
  pend : GPend wr (w.heap.size + 1) L F (w.heap.size + 1)
  sofar : GSofar k (s.data.toList.take pos) (L.map (·.kind)) F
  mach : gmach false [k] s.data.toList = gmach false (L.map (·.kind)) (s.data.toList.drop pos)
  len : L.length ≤ 2 * pos + 1
  kinds : ∀ p ∈ L, IsKind p.kind
  res : TB wr w.heap.size #[.int .u8 0, .slice none 0 0]
  le : pos ≤ s.size

theorem iterPos_must {s : ByteArray} {k : UInt8} {w wr : World} {v : Value} {pos : Nat} {L : List GHole} {F : Fo → Fo} (h : MInv s k w wr v pos L F) : wr.iterPos (w.heap.size + 3) = pos := iterPos_of h.it

theorem heap_at_new {w : World} {o : Obj} {k : Nat} (h : k = w.heap.size) : (w.alloc o).heap[k]? = some o := by subst h; exact heap_alloc_new w o
theorem heap_at_old {w : World} {o x : Obj} {k : Nat} (h : w.heap[k]? = some x) : (w.alloc o).heap[k]? = some x := (Below.heap_alloc w o k (Array.getElem?_eq_some_iff.1 h).1).trans h

theorem mstart (k : UInt8) (s : ByteArray) (w : World) (hk : IsKind k) :
    MInv s k w ((((w.alloc (.cells #[.int .u8 0, .slice none 0 0] 47)).alloc (.cells #[.int .u8 0, .slice none 0 0] 47)).alloc (.cells #[.int .u8 (k.toNat), .pointer (some ⟨w.heap.size + 1, 0, none⟩)] 97)).iter s 0)
      (.slice (some ⟨w.heap.size + 1 + 1, 0, none⟩) 1 1) 0 [⟨k, w.heap.size + 1, 0⟩] (fun f => f) := by
  unfold World.iter
  refine ⟨heap_at_new (by simp), ?_, ?_, ?_, GSofar.start k, rfl, by simp, by simpa using hk, ?_, by omega⟩
  · exact ⟨by simp [gstk], .inr ⟨w.heap.size + 2, 1, #[.int .u8 (k.toNat), .pointer (some ⟨w.heap.size + 1, 0, none⟩)], rfl, by omega, heap_at_old (heap_at_new (by simp)), by simp, by unfold maxLen; omega, by simp, by simp [gstk, lv]⟩⟩
  · exact (((((Below.refl _ _).alloc (Nat.le_refl _) _).alloc (by simp) _).alloc (by simp; omega) _).alloc (by simp; omega) _)
  · exact GPend.start _ _ _ k #[.int .u8 0, .slice none 0 0] (Nat.le_refl _) (heap_at_old (heap_at_old (heap_at_new (by simp)))) (by simp)
  · exact heap_at_old (heap_at_old (heap_at_old (heap_at_new rfl)))

theorem drop_cons (s : ByteArray) (pos : Nat) (h : pos < s.size) : s.data.toList.drop pos = s[pos] :: s.data.toList.drop (pos + 1) := by
  rw [List.drop_eq_getElem_cons (by simpa using h)]; rfl
theorem take_snoc (s : ByteArray) (k : Nat) (h : k < s.size) : s.data.toList.take (k + 1) = s.data.toList.take k ++ [s[k]] := by
  rw [List.take_succ_eq_append_getElem (by simpa using h)]; rfl

theorem post_bad {k : UInt8} {s : ByteArray} {w w' : World} {e : Ending} (hb : Below w.heap.size w w') (hm : gmach false [k] s.data.toList = false) (he : ∃ v, e = .panicked [{ v := .iface 9 v, recovered := false }]) : MustPost k s w e w' :=
  ⟨hb, .inr ⟨fun h => (by rw [gmach_iff.2 h.1] at hm; cases hm), he⟩⟩

structure Filled (W1 wq : World) (p : GHole) (x y : Value) (nz : Nat) (o1 o2 : Obj) : Prop where
  old : ∀ (b : Nat) (o : Obj), W1.heap[b]? = some o → b ≠ p.b → wq.heap[b]? = some o
  top : ∀ cur, TB W1 p.b cur → TB wq p.b ((cur.setIfInBounds p.o x).setIfInBounds (p.o + 1) y)
  n1 : wq.heap[W1.heap.size]? = some o1
  n2 : wq.heap[nz]? = some o2
  size : W1.heap.size + 1 ≤ nz
  bel : ∀ w B, Below B w W1 → B ≤ p.b → Below B w wq

theorem own_kept {w w' : World} {base : Nat} {e : TypeId} {size : Nat} {v : Value} {n : Nat} {xs : List Value} (h : w.ownsRow base e size v n xs) (hb : Below w.heap.size w w') : w'.ownsRow base e size v n xs := by
  obtain ⟨h1, h2⟩ := h
  refine ⟨h1, ?_⟩
  rcases h2 with h2 | ⟨g, cap, cur, a, b, c, d⟩
  · exact .inl h2
  · exact .inr ⟨g, cap, cur, a, b, (hb.block g (Array.getElem?_eq_some_iff.1 c).1).trans c, d⟩
theorem ckm {w w' : World} {b o : Nat} {v : Value} (hb : Below w.heap.size w w') (h : w.cell? ⟨b, o, none⟩ = some v) : w'.cell? ⟨b, o, none⟩ = some v := (hb.cell (p := ⟨b, o, none⟩) (cell_lt h)).trans h
theorem tb_kept {w w' : World} {b : Nat} {cur : Array Value} (h : TB w b cur) (hb : Below w.heap.size w w') : TB w' b cur := (hb.block b h.lt).trans h
theorem filled {W1 W2 : World} {p : GHole} {cur : Array Value} (hcur : TB W1 p.b cur) (o1 o2 : Obj) (hq : Below (W1.alloc o1).heap.size (W1.alloc o1) W2) (x y : Value) : Filled W1 (((W2.setCell ⟨p.b, p.o, none⟩ x).setCell ⟨p.b, p.o + 1, none⟩ y).alloc o2).drew p x y W2.heap.size o1 o2 where
  old := fun b o h hb => by
    have hlt : b < W1.heap.size := (Array.getElem?_eq_some_iff.1 h).1
    refine heap_at_old ?_
    rw [Below.heap_setCell _ _ _ _ hb, Below.heap_setCell _ _ _ _ hb]
    exact (hq.block b (by simp; omega)).trans (heap_at_old h)
  top := fun c hc => by
    have h2 : TB W2 p.b c := (hq.block p.b (by have := hc.lt; simp; omega)).trans (heap_at_old hc)
    refine heap_at_old ?_
    unfold TB at h2
    simp [World.setCell, Array.getElem?_modify, h2]
  n1 := by
    have hlt := hcur.lt
    refine heap_at_old ?_
    rw [Below.heap_setCell _ _ _ _ (by simp; omega), Below.heap_setCell _ _ _ _ (by simp; omega)]
    exact (hq.block W1.heap.size (by simp)).trans (heap_at_new rfl)
  n2 := heap_at_new (by simp [World.setCell])
  size := by have := hq.size; simpa using this
  bel := fun w B h hb => by
    have hlt := hcur.lt
    have h2 : Below B w W2 := (h.alloc (by omega) o1).trans (hq.mono (by simp; omega))
    exact (((h2.setCell (p := ⟨p.b, p.o, none⟩) hb _).setCell (p := ⟨p.b, p.o + 1, none⟩) hb _).alloc (by have := hq.size; simp [World.setCell] at this ⊢; omega) _).drew

/-- While the operands' places are laid on the stack. -/
structure Mid (s : ByteArray) (w wq w5 : World) (nbx : Nat) (bx : Array Value) (pos g n cap : Nat) (xs : List Value) : Prop where
  own : w5.ownsRow (w.heap.size + 2) 97 2 (.slice (some ⟨g, 0, none⟩) n cap) n xs
  ne : g ≠ nbx
  box : w5.heap[nbx]? = some (.cells bx 97 (0, 0))
  tb : ∀ b cur, TB wq b cur → TB w5 b cur
  it : w5.heap[w.heap.size + 3]? = some (.stringIter s pos)
  bel : Below w.heap.size w w5

theorem own_row {w : World} {base : Nat} {e : TypeId} {size g n cap m : Nat} {xs : List Value} (h : w.ownsRow base e size (.slice (some ⟨g, 0, none⟩) n cap) m xs) : ∃ cur, w.heap[g]? = some (.cells cur e (0, 0)) := by
  rcases h.2 with ⟨h0, _⟩ | ⟨g', cap', cur, hv, _, hh, _⟩
  · cases h0
  · cases hv; exact ⟨cur, hh⟩

theorem own_ne_tb {w : World} {base g n cap m : Nat} {xs : List Value} {b : Nat} {cur : Array Value} (h : w.ownsRow base 97 2 (.slice (some ⟨g, 0, none⟩) n cap) m xs) (hb : TB w b cur) : g ≠ b := by
  obtain ⟨cg, hcg⟩ := own_row h
  rintro rfl
  unfold TB at hb
  rw [hb] at hcg
  simp at hcg

theorem Mid.step {s : ByteArray} {w wq w5 w6 wt : World} {nbx : Nat} {bx : Array Value} {pos g n cap g' n' cap' : Nat} {xs xs' : List Value} (h : Mid s w wq w5 nbx bx pos g n cap xs)
    (hk : ∀ (k : Nat) (o : Obj), w5.heap[k]? = some o → wt.heap[k]? = some o) (hs : w5.heap.size ≤ wt.heap.size) (hbw : Below w.heap.size w wt)
    (hg : wt.grownBy w6 (some g)) (hown : w6.ownsRow (w.heap.size + 2) 97 2 (.slice (some ⟨g', 0, none⟩) n' cap') n' xs') (hat : some g = some g' ∨ g' = wt.heap.size) :
    Mid s w wq w6 nbx bx pos g' n' cap' xs' := by
  obtain ⟨cg, hcg⟩ := own_row h.own
  have lt5 : ∀ {k : Nat} {o : Obj}, w5.heap[k]? = some o → k < w5.heap.size := fun hh => (Array.getElem?_eq_some_iff.1 hh).1
  have far : ∀ (k : Nat) (o : Obj), w5.heap[k]? = some o → k ≠ g → w6.heap[k]? = some o := fun k o hh hne => (hg.block k (by have := lt5 hh; omega) (by simpa using hne)).trans (hk k o hh)
  refine ⟨hown, ?_, far _ _ h.box (fun e => h.ne e.symm), ?_, ?_, ?_⟩
  · rcases hat with e | e
    · cases e; exact h.ne
    · have := lt5 h.box; omega
  · intro b cur hb
    have hb5 := h.tb b cur hb
    refine far _ _ hb5 ?_
    rintro rfl
    unfold TB at hb5
    rw [hcg] at hb5
    simp at hb5
  · exact far _ _ h.it (by rintro e; rw [← e, h.it] at hcg; cases hcg)
  · exact hbw.grown hg hbw.size (fun k hk2 => by have := (h.own.lt k (by simpa [Value.ownBlock, eq_comm] using hk2)).1; omega)

theorem mid_of {s : ByteArray} {k : UInt8} {w wr W1 wq : World} {v : Value} {pos g n cap : Nat} {p : GHole} {L : List GHole} {F : Fo → Fo} {x y : Value} {bx : Array Value} {nz : Nat} {o2 : Obj} {tcur : Array Value} (hF : Filled W1 wq p x y nz (.cells bx 97) o2) (_inv : MInv s k w wr v pos (p :: L) F)
    (hit : W1.heap[w.heap.size + 3]? = some (.stringIter s (pos + 1))) (hown : W1.ownsRow (w.heap.size + 2) 97 2 (.slice (some ⟨g, 0, none⟩) (n + 1) cap) (n + 1) (gstk (p :: L))) (hT : TB W1 p.b tcur) (hpB : w.heap.size + 1 ≤ p.b)
    (hbel : Below w.heap.size w W1) (hn : n = L.length := by rfl) : Mid s w wq wq W1.heap.size bx (pos + 1) g n cap (gstk L) := by
  subst hn
  have hpop := ownsRow_pop (last := [lv p.kind, .pointer (some ⟨p.b, p.o, none⟩)]) (gstk_length L) (h := by simpa [gstk] using hown)
  obtain ⟨cg, hcg⟩ := own_row hpop
  have hgp : g ≠ p.b := by
    rintro rfl
    unfold TB at hT
    rw [hT] at hcg
    simp at hcg
  refine ⟨?_, ?_, hF.n1, fun _ _ h => h, hF.old _ _ hit ?_, hF.bel _ _ hbel (by omega)⟩
  · refine ⟨hpop.1, ?_⟩
    rcases hpop.2 with h2 | ⟨g1, cap1, cur, hv, b, cc, d⟩
    · cases h2.1
    · cases hv
      exact .inr ⟨_, _, cur, rfl, b, hF.old _ _ cc hgp, d⟩
  · have := (Array.getElem?_eq_some_iff.1 hcg).1; omega
  · rintro e; rw [e] at hit; unfold TB at hT; rw [hT] at hit; cases hit

theorem mstep {s : ByteArray} {k : UInt8} {w wr W1 wq w7 : World} {v : Value} {pos : Nat} {p : GHole} {L : List GHole} {F : Fo → Fo} (inv : MInv s k w wr v pos (p :: L) F) (hp : pos < s.size) {c : UInt8} (hc : s[pos] = c) {l : List UInt8} (hl : gopk false p.kind c = some l)
    (hW1 : wr.iterAt (w.heap.size + 3) s (pos + 1) = W1) {m nz : Nat} {bx zs : Array Value} {g n cap : Nat} (hF : Filled W1 wq p (lv c) (.slice (some ⟨nz, 0, none⟩) l.length m) nz (.cells bx 97) (.cells zs 47)) (hzs : zs.size = l.length * 2) (hml : l.length ≤ m)
    (hM : Mid s w wq w7 W1.heap.size bx (pos + 1) g n cap (gstk (gholes nz 0 l ++ L))) (hn : n = (gholes nz 0 l ++ L).length) :
    MInv s k w w7 (.slice (some ⟨g, 0, none⟩) n cap) (pos + 1) (gholes nz 0 l ++ L) (fun ts => F (gbuild c l.length ts)) := by
  subst hn
  have hnz := hF.size
  have hkinds := gholes_kind nz 0 l
  have hW1s : W1.heap.size = wr.heap.size := by rw [← hW1]; exact Lib.iterAt_size _ _ _ _
  have hW1h : ∀ (b : Nat) (cur : Array Value), TB wr b cur → TB W1 b cur := by
    intro b cur h
    rw [← hW1]; unfold TB
    rw [Lib.iterAt_other _ _ _ _ _ (by intro e; have h2 := inv.it; unfold TB at h; rw [e] at h; rw [h2] at h; cases h)]
    exact h
  have hpb := (inv.pend.cells p (by simp)).1
  have hpn : p.b ≠ w.heap.size := by omega
  have hroot : w.heap.size < wr.heap.size := inv.res.lt
  have p1 : GPend W1 (w.heap.size + 1) (p :: L) F (w.heap.size + 1) := inv.pend.keep hW1h
  have p2 := p1.step (w1 := wq) c l nz zs (.slice (some ⟨nz, 0, none⟩) l.length m) (fun b cur h hb => hF.old b _ h hb) (by omega) (by omega) (fun cur h => hF.top cur h) hF.n2 hzs ⟨_, rfl, hml⟩
  refine ⟨hM.it, hM.own, hM.bel, p2.keep hM.tb, ?_, ?_, ?_, ?_, ?_, by omega⟩
  · rw [List.map_append, hkinds, take_snoc s pos hp, hc]
    exact inv.sofar.step hl
  · rw [inv.mach, drop_cons s pos hp, hc, List.map_append, hkinds]
    simp only [List.map_cons, gmach, hl]
  · have h1 := inv.len
    have h2 := gholes_len nz 0 l
    have := (gopk_kinds hl).2
    simp at h1 ⊢
    omega
  · intro q hq
    rw [List.mem_append] at hq
    rcases hq with hq | hq
    · exact (gopk_kinds hl).1 _ (by rw [← hkinds]; exact List.mem_map_of_mem hq)
    · exact inv.kinds q (by simp [hq])
  · exact hM.tb _ _ (hF.old _ _ (hW1h _ _ inv.res) (Ne.symm hpn))

theorem mk0 : ∀ w, (Instr.makeSlice 45 (.int .i64 0) (.int .i64 0)).run Tryd.prog w = .ok (.slice (some ⟨w.heap.size, 0, none⟩) 0 0) (w.alloc (.cells #[] 47)) := fun _ => by kernel_rfl
theorem mk1 : ∀ w, (Instr.makeSlice 45 (.int .i64 1) (.int .i64 1)).run Tryd.prog w = .ok (.slice (some ⟨w.heap.size, 0, none⟩) 1 1) (w.alloc (.cells #[.int .u8 0, .slice none 0 0] 47)) := fun _ => by kernel_rfl
theorem mk2 : ∀ w, (Instr.makeSlice 45 (.int .i64 2) (.int .i64 2)).run Tryd.prog w = .ok (.slice (some ⟨w.heap.size, 0, none⟩) 2 2) (w.alloc (.cells #[.int .u8 0, .slice none 0 0, .int .u8 0, .slice none 0 0] 47)) := fun _ => by kernel_rfl

theorem mk3 : ∀ w, (Instr.makeSlice 45 (.int .i64 3) (.int .i64 3)).run Tryd.prog w = .ok (.slice (some ⟨w.heap.size, 0, none⟩) 3 3) (w.alloc (.cells #[.int .u8 0, .slice none 0 0, .int .u8 0, .slice none 0 0, .int .u8 0, .slice none 0 0] 47)) := fun _ => by kernel_rfl
theorem mkn (n : Nat) (hn : n ≤ 3) : ∃ zs : Array Value, zs.size = n * 2 ∧ ∀ w, (Instr.makeSlice 45 (.int .i64 n) (.int .i64 n)).run Tryd.prog w = .ok (.slice (some ⟨w.heap.size, 0, none⟩) n n) (w.alloc (.cells zs 47)) := by
  match n, hn with
  | 0, _ => exact ⟨_, rfl, mk0⟩
  | 1, _ => exact ⟨_, rfl, mk1⟩
  | 2, _ => exact ⟨_, rfl, mk2⟩
  | 3, _ => exact ⟨_, rfl, mk3⟩

theorem gstr_size (l : List UInt8) : (gstr l).size = l.length := by simp [gstr, ByteArray.size]

theorem ownsRow_iterAt' {w : World} {base : Nat} {e : TypeId} {size : Nat} {v : Value} {n : Nat} {xs : List Value} (h : w.ownsRow base e size v n xs) {k : Nat} {s : ByteArray} {p0 : Nat} (hk : w.heap[k]? = some (.stringIter s p0)) (p : Nat) : (w.iterAt k s p).ownsRow base e size v n xs := by
  obtain ⟨h1, h2⟩ := h
  refine ⟨h1, ?_⟩
  rcases h2 with h2 | ⟨g, cap, cur, a, b, c, d⟩
  · exact .inl h2
  · exact .inr ⟨g, cap, cur, a, b, by rw [Lib.iterAt_other _ _ _ _ _ (by rintro rfl; rw [hk] at c; cases c)]; exact c, d⟩

/-- A rune at which no term of the kind begins. -/
theorem rune_bad {k : UInt8} {s : ByteArray} {pos : Nat} (hp : pos < s.size) (h : gopk false k s[pos] = none) : ∀ c : UInt8, (c.toNat : Int) = ((Utf8.decode s pos).1 : Int) → gopk false k c = none := by
  intro c hc
  by_cases ha : (s[pos]).toNat < 128
  · rw [decode_ascii s pos hp ha] at hc
    have : c = s[pos] := UInt8.toNat_inj.1 (by simp only [Int.natCast_inj] at hc; exact hc)
    rw [this]; exact h
  · have h2 := (decode_high s pos hp (by omega)).1
    cases ho : gopk false k c with
    | none => rfl
    | some l => have := gopk_ascii ho; omega

theorem mend {k : UInt8} {s : ByteArray} {w wr : World} {v : Value} {pos : Nat} {F : Fo → Fo} (inv : MInv s k w wr v pos [] F) (hpos : pos = s.size) (hsz : s.size ≤ lim k) {x y : Value}
    (hx : wr.cell? ⟨w.heap.size + 1, 0, none⟩ = some x) (hy : wr.cell? ⟨w.heap.size + 1, 1, none⟩ = some y) :
    MustPost k s w (.returned (.agg #[x, y])) ((wr.setCell ⟨w.heap.size, 0, none⟩ x).setCell ⟨w.heap.size, 1, none⟩ y) := by
  have hk : ∀ b o v, w.heap.size + 1 ≤ b → wr.cell? ⟨b, o, none⟩ = some v → ((wr.setCell ⟨w.heap.size, 0, none⟩ x).setCell ⟨w.heap.size, 1, none⟩ y).cell? ⟨b, o, none⟩ = some v := by
    intro b o v hb h
    rw [World.cell?_setCell_other _ _ _ _ (by intro e; injection e; omega), World.cell?_setCell_other _ _ _ _ (by intro e; injection e; omega)]
    exact h
  obtain ⟨c, kids, rest, l2, eF, h1, h2, h3⟩ := (inv.sofar.ok .nil rfl).cons_inv
  obtain ⟨⟨x', y', hx', hy', hr⟩, _⟩ := eF ▸ inv.pend.done hk
  rw [hk _ _ _ (Nat.le_refl _) hx] at hx'
  rw [hk _ _ _ (Nat.le_refl _) hy] at hy'
  cases hx'; cases hy'
  have hsr := inv.sofar.ser .nil rfl
  have hok := inv.sofar.ok .nil rfl
  rw [eF, FOk.nil_inv h3] at hsr hok
  refine ⟨(inv.bel.setCell (Nat.le_refl _) _).setCell (Nat.le_refl _) _, .inl ⟨c, kids, x, y, hok, ?_, hsz, rfl, hr⟩⟩
  rw [hsr, hpos, List.take_of_length_le (by simp)]; simp [Fo.ser]

/-- While the operands' places are laid on the stack, the last one first. -/
def Inner (s : ByteArray) (w wq W1 : World) (nz : Nat) (bx : Array Value) (pos : Nat) (l : List UInt8) (L : List GHole) (v6 v11 : Value) (w5 : World) : Prop :=
  ∃ (j : Nat) (i : Int) (g n cap : Nat), j ≤ l.length ∧ i = (j : Int) - 1 ∧ v11 = .int .i64 i ∧ v6 = .slice (some ⟨g, 0, none⟩) n cap ∧ n = (gholes nz (j * 2) (l.drop j) ++ L).length ∧
    Mid s w wq w5 W1.heap.size bx (pos + 1) g n cap (gstk (gholes nz (j * 2) (l.drop j) ++ L))

set_option maxHeartbeats 1000000 in
theorem longest_any (k : UInt8) (w : World) (hk : IsKind k) : Calls Tryd.prog 83 #[.int .u8 k.toNat] w fun e w' => e = .returned (.int .i64 (lim k : Nat)) ∧ w = w' := by
  rcases hk with (rfl | rfl | rfl | rfl) | hk
  · go_enter Tryd.func83, Tryd.ntmps83; go_wp2; go_ret; exact ⟨rfl, rfl⟩
  · go_enter Tryd.func83, Tryd.ntmps83; go_wp2; go_ret; exact ⟨rfl, rfl⟩
  · go_enter Tryd.func83, Tryd.ntmps83; go_wp2; go_ret; exact ⟨rfl, rfl⟩
  · go_enter Tryd.func83, Tryd.ntmps83; go_wp2; go_ret; exact ⟨rfl, rfl⟩
  · rcases wideK_cases hk with rfl | rfl | rfl | rfl <;> (clear hk; go_enter Tryd.func83, Tryd.ntmps83; go_wp2; go_ret; exact ⟨rfl, rfl⟩)

set_option maxRecDepth 1000000 in
set_option maxHeartbeats 2000000 in
theorem must_any (k : UInt8) (s : ByteArray) (w : World) (hk : IsKind k) (hsz : s.size ≤ lim k) : Calls Tryd.prog 80 #[.string s, .int .u8 (k.toNat)] w (MustPost k s w) := by
  obtain ⟨i0, hi0, hz0, hz1, hz2⟩ := info_parts infoPlace
  have LG := fun w => Lib.hid (longest_any k w hk)
  have hs1 : s.size ≤ 1000 := Nat.le_trans hsz (lim_le k)
  have hnl : ¬ lim k < s.size := by omega
  go_enter Tryd.func80, Tryd.ntmps80
  go_wp2_with fail
  refine (LG _).out.mono ?_
  rintro e w0 ⟨rfl, rfl⟩
  clear LG
  go_wp2_with fail
  go_loopw [6] (fun v wr => ∃ (pos : Nat) (L : List GHole) (F : Fo → Fo), MInv s k w wr v pos L F) (fun _ wr => s.size - wr.iterPos (w.heap.size + 3))
  case atStart => exact ⟨0, _, _, mstart k s w hk⟩
  case round =>
    obtain ⟨pos, L, F, inv⟩ := hrel
    have hpos0 := Lib.hid (iterPos_must inv)
    have hit := inv.it
    by_cases hp : pos < s.size
    · have hnx : ∀ ty, (Instr.next (.pointer (some ⟨w.heap.size + 1 + 1 + 1, 0, none⟩)) true ty).run Tryd.prog wr = _ := fun ty => Lib.run_next_any_at wr (w.heap.size + 3) s pos ty hit hp
      clear hit
      cases L with
      | nil =>
        have hown := inv.own
        have hm := Lib.hid inv.mach
        have hbel := inv.bel
        have hbel2 := Lib.below_iterAt hbel (k := w.heap.size + 3) (by omega) s (pos + (Utf8.decode s pos).2)
        have hbad : Hid (gmach false [k] s.data.toList = false) := by
          have h := hm.out
          rw [drop_cons s pos hp] at h
          exact h
        clear inv hm hbel
        rcases hown.2 with ⟨rfl, _⟩ | ⟨g, cap, cur, rfl, _⟩
        · go_wp2_with fail
          exact ⟨rfl, post_bad hbel2 hbad.out ⟨_, rfl⟩⟩
        · simp only [List.length_nil]
          go_wp2_with fail
          exact ⟨rfl, post_bad hbel2 hbad.out ⟨_, rfl⟩⟩
      | cons p L =>
        have hown := inv.own
        rcases hown.2 with ⟨_, hn0⟩ | ⟨g, cap, cur, rfl, _, _, hncap, hcapm, _, _⟩
        · simp at hn0
        have hown2 := ownsRow_iterAt' hown inv.it (pos + (Utf8.decode s pos).2)
        have hbel2 := Lib.below_iterAt inv.bel (k := w.heap.size + 3) (by omega) s (pos + (Utf8.decode s pos).2)
        have hm := Lib.hid inv.mach
        have hlen := inv.len
        simp only [List.length_cons] at hown2 hncap hlen ⊢
        unfold maxLen at hcapm
        cases hopk : gopk false p.kind s[pos] with
        | none =>
          have hbad : Hid (gmach false [k] s.data.toList = false) := by
            have h := hm.out
            rw [drop_cons s pos hp] at h
            simp only [List.map_cons, gmach, hopk] at h
            exact h
          have hrb := Lib.hid (rune_bad hp hopk)
          have HKD := Lib.hid (inv.kinds p (by simp))
          clear inv hm hown hopk
          generalize wr.iterAt (w.heap.size + 3) s (pos + (Utf8.decode s pos).2) = W1 at *
          have ct0 := (hown2.cellAt (L.length * 2) (by omega)).trans (gstk_top0 p L)
          have ct1 := (hown2.cellAt (L.length * 2 + 1) (by omega)).trans (gstk_top1 p L)
          have hg0 : (((L.length : Int) + 1) == 0) = false := by simp; omega
          have hix0 : (0 : Int) ≤ (L.length : Int) := by omega
          have hix1 : (L.length : Int) < (L.length : Int) + 1 := by omega
          have hix3 : L.length < L.length + 1 := by omega
          unfold lv at ct0
          clear hown2
          go_wp2_with fail
          refine (gkinds_bad _ _ _ HKD.out hrb.out).mono ?_
          rintro e w' ⟨v, rfl, rfl⟩
          go_wp2_with fail
          exact ⟨rfl, post_bad (hbel2.alloc hbel2.size _) hbad.out ⟨_, rfl⟩⟩
        | some l =>
          have hasc := gopk_ascii hopk
          have hl2 := (gopk_kinds hopk).2
          rw [decode_ascii s pos hp hasc] at hnx hown2 hbel2
          simp only at hnx hown2 hbel2
          have hit2 := Lib.iterAt_heap wr (w.heap.size + 3) s pos (pos + 1) inv.it
          obtain ⟨hpB, hpe, tcur, htc, htsz⟩ := inv.pend.cells p (by simp)
          have htc2 : TB (wr.iterAt (w.heap.size + 3) s (pos + 1)) p.b tcur := by
            unfold TB
            rw [Lib.iterAt_other _ _ _ _ _ (by intro e; have h := inv.it; unfold TB at htc; rw [e] at htc; rw [h] at htc; cases htc)]
            exact htc
          have hc0 := htc2.cell p.o
          have hc1 := htc2.cell (p.o + 1)
          have hf0 := htc2.frozen p.o
          have hf1 := htc2.frozen (p.o + 1)
          rw [Array.getElem?_eq_getElem (by omega)] at hc0 hc1
          generalize tcur[p.o] = x0 at hc0
          generalize tcur[p.o + 1] = x1 at hc1
          have hpb := htc2.lt
          have HT := Lib.hid htc2
          have HK := Lib.hid hopk
          have HI := Lib.hid inv
          have HI2 := Lib.hid hit2
          have HB := Lib.hid hbel2
          have HO := Lib.hid hown2
          have hcb : (s[pos].toNat : Int) < 256 := by omega
          have hcb0 : (0 : Int) ≤ (s[pos].toNat : Int) := by omega
          generalize hW1 : wr.iterAt (w.heap.size + 3) s (pos + 1) = W1 at *
          have HW1 := Lib.hid hW1
          generalize hcc : s[pos] = c at *
          have HC := Lib.hid hcc
          have ct0 := (hown2.cellAt (L.length * 2) (by omega)).trans (gstk_top0 p L)
          have ct1 := (hown2.cellAt (L.length * 2 + 1) (by omega)).trans (gstk_top1 p L)
          have hg0 : (((L.length : Int) + 1) == 0) = false := by simp; omega
          have hix0 : (0 : Int) ≤ (L.length : Int) := by omega
          have hix1 : (L.length : Int) < (L.length : Int) + 1 := by omega
          have hix3 : L.length < L.length + 1 := by omega
          unfold lv at ct0
          clear hown2 hown hopk hm inv hit2 hbel2 hW1 hcc htc2 htc
          go_wp2_with fail
          refine (gkinds_ok _ _ _ _ HK.out).mono ?_
          rintro e W2 ⟨rfl, hq⟩
          have ba := (Below.refl W1.heap.size W1).alloc (Nat.le_refl _) (.cells #[.int .u8 (p.kind.toNat), .pointer (some ⟨p.b, p.o, none⟩)] 97)
          have HQ := Lib.hid hq
          replace hc0 := ckm hq (ckm ba hc0)
          replace hc1 := ckm hq (ckm ba hc1)
          have HT2 := Lib.hid (tb_kept (tb_kept HT.out ba) hq)
          replace hf0 := HT2.out.frozen p.o
          replace hf1 := HT2.out.frozen (p.o + 1)
          replace hpb := HT2.out.lt
          have hbk : W2.heap[W1.heap.size]? = some (.cells #[.int .u8 (p.kind.toNat), .pointer (some ⟨p.b, p.o, none⟩)] 97) := (hq.block W1.heap.size (by simp)).trans (heap_at_new rfl)
          have bx0 : W2.cell? ⟨W1.heap.size, 0, none⟩ = some (.int .u8 (p.kind.toNat)) := by rw [cell_of_row W2 _ 0 _ _ (0, 0) hbk]; rfl
          have bx1 : W2.cell? ⟨W1.heap.size, 1, none⟩ = some (.pointer (some ⟨p.b, p.o, none⟩)) := by rw [cell_of_row W2 _ 1 _ _ (0, 0) hbk]; rfl
          have hb1 : W1.heap.size < W2.heap.size := by have := hq.size; simp at this; omega
          have hb2 : p.b < W1.heap.size := HT.out.lt
          have hb3 : p.b ≠ W1.heap.size := by omega
          have hb4 : W1.heap.size ≠ p.b := by omega
          clear hq ba ct0 ct1 hbk
          go_wp2_with fail
          have HL : Hid (l.length = (gstr l).size) := (gstr_size l).symm
          obtain ⟨zs, hzs, hmk⟩ := mkn (gstr l).size (by rw [← HL.out]; exact hl2)
          have HZ := Lib.hid hzs
          clear hzs
          have hk63 : (gstr l).size ≤ 3 := by rw [← HL.out]; exact hl2
          have HKB : Hid (∀ (m : Nat) (h : m < (gstr l).size), (gstr l)[m] = l[m]'(by rw [HL.out]; exact h)) := fun m h => rfl
          generalize hKe : gstr l = K at *
          clear hKe
          go_region
          go_wp2_with fail
          have HF := Lib.hid (filled HT.out (.cells #[.int .u8 (p.kind.toNat), .pointer (some ⟨p.b, p.o, none⟩)] 97) (.cells zs 47) HQ.out (.int .u8 (c.toNat : Int)) (.slice (some ⟨W2.heap.size, 0, none⟩) K.size K.size))
          have HM0 := Lib.hid (mid_of HF.out HI.out HI2.out HO.out HT.out hpB HB.out)
          generalize (((W2.setCell ⟨p.b, p.o, none⟩ (.int .u8 (c.toNat : Int))).setCell ⟨p.b, p.o + 1, none⟩ (.slice (some ⟨W2.heap.size, 0, none⟩) K.size K.size)).alloc (.cells zs 47)).drew = w0 at *
          clear hc0 hc1 hf0 hf1 hmk hpb bx0 bx1 HT2
          go_loopw [6, 11] (fun v6 v11 w5 => Inner s w w0 W1 W2.heap.size #[.int .u8 (p.kind.toNat), .pointer (some ⟨p.b, p.o, none⟩)] pos l L v6 v11 w5) (fun _ v11 _ => (intOf v11 + 1).toNat)
          case atStart => exact ⟨K.size, _, g, L.length, cap, by rw [HL.out]; omega, rfl, rfl, rfl, by rw [← HL.out, List.drop_of_length_le (Nat.le_refl _)]; simp [gholes], by rw [← HL.out, List.drop_of_length_le (Nat.le_refl _)]; exact HM0.out⟩
          case round =>
            obtain ⟨j, i, g2, n2, cap2, hj, hi, rfl, rfl, hn2, HM⟩ := hrel
            have HN2 := Lib.hid hn2
            have HM1 := Lib.hid HM
            clear hn2 HM
            cases j with
            | zero =>
              obtain rfl : i = -1 := by omega
              clear hi
              go_wp2_with fail
              go_roundw
              case rel => exact ⟨pos + 1, _, _, mstep HI.out hp HC.out HK.out HW1.out (m := K.size) (by rw [HL.out]; exact HF.out) (by rw [HL.out]; exact HZ.out) (Nat.le_of_eq HL.out) HM1.out HN2.out⟩
              case measure => rw [iterPos_must (mstep HI.out hp HC.out HK.out HW1.out (m := K.size) (by rw [HL.out]; exact HF.out) (by rw [HL.out]; exact HZ.out) (Nat.le_of_eq HL.out) HM1.out HN2.out), hpos0.out]; omega
            | succ m =>
              obtain rfl : i = (m : Int) := by omega
              clear hi
              have hmK : m < K.size := by rw [← HL.out]; exact hj
              have HKm := Lib.hid (HKB.out m hmK)
              have hn63 : n2 ≤ 4000 := by rw [HN2.out, List.length_append, gholes_len, List.length_drop]; omega
              have hown0 := HM1.out.own
              have hbx0 : wr.cell? ⟨W1.heap.size, 1, none⟩ = some (.pointer (some ⟨p.b, p.o, none⟩)) := by rw [cell_of_row wr _ 1 _ _ (0, 0) HM1.out.box]; rfl
              have hsl0 : wr.cell? ⟨p.b, p.o + 1, none⟩ = some (.slice (some ⟨W2.heap.size, 0, none⟩) K.size K.size) := by
                rw [(HM1.out.tb _ _ (HF.out.top _ HT.out)).cell]; simp [Array.getElem?_setIfInBounds]; omega
              have htl0 : wr.heap.size ≥ W2.heap.size + 1 := by have := HM1.out.tb _ _ HF.out.n2; have := TB.lt this; omega
              have hmi : (0 : Int) ≤ (m : Int) := by omega
              have hmi2 : (m : Int) < (K.size : Int) := by omega
              go_wp2_with fail
              go_region_held3 (fun w' => w'.cell? ⟨W1.heap.size, 1, none⟩ = some (.pointer (some ⟨p.b, p.o, none⟩)) ∧ w'.cell? ⟨p.b, p.o + 1, none⟩ = some (.slice (some ⟨W2.heap.size, 0, none⟩) K.size K.size))
                (first
                  | go_keep
                  | (go_split_ands
                     refine ⟨?_, ?_⟩
                     · (rw [hgrow.cell_far _ (by simp; omega) (by have := HM1.out.ne; simp [Value.ownBlock]; omega)]; assumption)
                     · (rw [hgrow.cell_far _ (by have := (HM1.out.tb _ _ (HF.out.top _ HT.out)).lt; simp; omega) (by have := own_ne_tb HM1.out.own (HM1.out.tb _ _ (HF.out.top _ HT.out)); simp [Value.ownBlock]; omega)]; assumption)))
                ((refine step_append_lies _ (by rfl) _ _ _ (by rfl) (w.heap.size + 2) 97 i0 _ 2 16 Tryd.underlying98 hi0 hz0 hz1 hz2 rfl (by omega) _ _ _ (by rfl) ((hown0.alloc _).drew)
                    ⟨wr.heap.size, 0, none⟩ 1 1 [.int .u8 K[m].toNat, .pointer (some ⟨W2.heap.size, m * 2, none⟩)] (by rfl) (by rfl) (World.news_of_block (cs := #[.int .u8 K[m].toNat, .pointer (some ⟨W2.heap.size, m * 2, none⟩)]) (t := 97) (fr := (0, 0)) (heap_alloc_new wr _)) (by simp [Value.oneCell'])
                    (by omega) (by unfold maxLen; omega) (by omega) (by have := hpB; have := HT.out.lt; simp; omega) (wr.heap.size + 1) (by simp) ?_; intro g1 cap1 w1 hown1' hgrow hat hlt))
              have hdr : l.drop m = l[m]'(by rw [HL.out]; exact hmK) :: l.drop (m + 1) := List.drop_eq_getElem_cons (by rw [HL.out]; exact hmK)
              have hst : gstk (gholes W2.heap.size ((m + 1) * 2) (l.drop (m + 1)) ++ L) ++ [.int .u8 K[m].toNat, .pointer (some ⟨W2.heap.size, m * 2, none⟩)] = gstk (gholes W2.heap.size (m * 2) (l.drop m) ++ L) := by
                rw [hdr, HKm.out, show (m + 1) * 2 = m * 2 + 2 by omega]; rfl
              have hln : n2 + 1 = (gholes W2.heap.size (m * 2) (l.drop m) ++ L).length := by
                rw [HN2.out, hdr, show (m + 1) * 2 = m * 2 + 2 by omega]; rfl
              rw [hst] at hown1'
              have HM2 := Lib.hid (HM1.out.step (wt := (wr.alloc (.cells #[.int .u8 K[m].toNat, .pointer (some ⟨W2.heap.size, m * 2, none⟩)] 97)).drew) (fun _ _ h => heap_at_old h) (by simp) ((HM1.out.bel.alloc HM1.out.bel.size _).drew) hgrow hown1' (by simpa [Value.ownBlock] using hat))
              have HLN := Lib.hid hln
              clear hown0 hbx0 hsl0 htl0 hown1' hgrow hat hlt hst hdr hln HM1
              go_wp2_with fail
              go_roundw
              case rel => exact ⟨m, _, g1, n2 + 1, cap1, by omega, rfl, rfl, rfl, HLN.out, HM2.out⟩
              case measure => simp [intOf]
    · have hnx : ∀ ty, (Instr.next (.pointer (some ⟨w.heap.size + 1 + 1 + 1, 0, none⟩)) true ty).run Tryd.prog wr = _ := fun ty => Lib.run_next_end_at wr (w.heap.size + 3) s pos ty hit hp
      clear hit
      have hown := inv.own
      have hbel := inv.bel
      have hpos : Hid (pos = s.size) := by have := inv.le; show pos = s.size; omega
      have hm := Lib.hid inv.mach
      have hlen := inv.len
      cases L with
      | nil =>
        obtain ⟨c, kids, rest, l2, eF, _, _, _⟩ := (inv.sofar.ok .nil rfl).cons_inv
        obtain ⟨⟨x, y, hx, hy, hrep⟩, _⟩ := eF ▸ inv.pend.done (w' := wr) (fun _ _ _ _ h => h)
        have hr0 := inv.res.cell 0
        have hr1 := inv.res.cell 1
        have hf0 := inv.res.frozen 0
        have hf1 := inv.res.frozen 1
        have hsf := Lib.hid inv.sofar
        have hlt := cell_lt hx
        simp only [Nat.zero_add] at hy
        simp at hr0 hr1
        have hlt2 : w.heap.size < wr.heap.size := by omega
        obtain ⟨ya, ym, rfl, rfl⟩ := RepN.forms hrep
        have hfin : Hid (MustPost k s w (.returned (.agg #[.int .u8 c.toNat, .slice ya kids.len ym])) ((wr.setCell ⟨w.heap.size, 0, none⟩ (.int .u8 c.toNat)).setCell ⟨w.heap.size, 1, none⟩ (.slice ya kids.len ym))) := mend inv hpos.out hsz hx hy
        clear inv hlen hlt hrep hpos hm hsf eF
        rcases hown.2 with ⟨rfl, _⟩ | ⟨g, cap, cur, rfl, _⟩
        · go_wp2_with fail
          exact bodyPost_ret (v := .agg #[.int .u8 c.toNat, .slice ya kids.len ym]) (by simp [results, Tryd.results80, go_sem, hr0, hr1]) rfl hfin.out
        · simp only [List.length_nil]
          go_wp2_with fail
          exact bodyPost_ret (v := .agg #[.int .u8 c.toNat, .slice ya kids.len ym]) (by simp [results, Tryd.results80, go_sem, hr0, hr1]) rfl hfin.out
      | cons p L =>
        have hbad : Hid (gmach false [k] s.data.toList = false) := by
          have h := hm.out
          rw [hpos.out, List.drop_of_length_le (by simp)] at h
          exact h
        clear inv hm
        rcases hown.2 with ⟨_, hn0⟩ | ⟨g, cap, cur, rfl, _, _, hncap, hcapm, _, _⟩
        · simp at hn0
        simp only [List.length_cons] at hown hncap hlen ⊢
        unfold maxLen at hcapm
        clear hpos hown
        go_wp2_with fail
        exact ⟨rfl, post_bad hbel hbad.out ⟨_, rfl⟩⟩
end Go.Proofs.YtpdepihggpfmiabDoor
