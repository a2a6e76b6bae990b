/-
  The walk's struct, its map, its row of ends and its stack of visits in memory.
-/
import Derived.Test.YtinjmdjnkneidaaGreatDoorFw0
import Derived.Deep.RegionHeld3
import Derived.Deep.RegionWith
import Derived.WalkSmall
namespace Go.Proofs.YtinjmdjnkneidaaGreatDoor
open Go.RowKit Tm Go.ChangeMaps

/-! ### All blocks but some -/
structure Kpp (P : Nat → Prop) (w w' : World) : Prop where
  os : w'.os = w.os
  tape : w'.tape = w.tape
  output : w'.output = w.output
  size : w.heap.size ≤ w'.heap.size
  block : ∀ k, k < w.heap.size → ¬ P k → w'.heap[k]? = w.heap[k]?
theorem Kpp.refl (P : Nat → Prop) (w : World) : Kpp P w w := ⟨rfl, rfl, rfl, Nat.le_refl _, fun _ _ _ => rfl⟩
theorem Kpp.of {P : Nat → Prop} {w w' : World} (h : Below w.heap.size w w') : Kpp P w w' := ⟨h.os, h.tape, h.output, h.size, fun k hk _ => h.block k hk⟩
theorem Kpp.trans {P : Nat → Prop} {w w1 w2 : World} (h : Kpp P w w1) (k : Kpp P w1 w2) : Kpp P w w2 :=
  ⟨k.os.trans h.os, k.tape.trans h.tape, k.output.trans h.output, Nat.le_trans h.size k.size, fun i hi h1 => (k.block i (Nat.lt_of_lt_of_le hi h.size) h1).trans (h.block i hi h1)⟩
theorem Kpp.next {P : Nat → Prop} {w w1 w2 : World} (h : Kpp P w w1) (hb : Below w1.heap.size w1 w2) : Kpp P w w2 := h.trans (Kpp.of hb)
theorem Kpp.set {P : Nat → Prop} {w w1 : World} (h : Kpp P w w1) {q : Addr} (hq : P q.block) (v : Value) : Kpp P w (w1.setCell q v) :=
  h.trans ⟨rfl, rfl, rfl, by simp [World.setCell], fun k _ hk => Below.heap_setCell _ _ _ _ (fun e => hk (e ▸ hq))⟩
theorem Kpp.setB {P : Nat → Prop} {w w1 : World} (h : Kpp P w w1) {b : Nat} (hq : P b) (o : Obj) : Kpp P w (setBlock w1 b o) :=
  h.trans ⟨rfl, rfl, rfl, by simp [setBlock], fun k _ hk => by
    have hne : b ≠ k := fun e => hk (e ▸ hq)
    simp only [setBlock]
    rw [Array.getElem?_setIfInBounds_ne hne]⟩
theorem Kpp.grown {P : Nat → Prop} {w w1 w2 : World} {row : Option Nat} (h : Kpp P w w1) (hg : w1.grownBy w2 row) (hr : ∀ k, row = some k → w.heap.size ≤ k ∨ P k) : Kpp P w w2 :=
  ⟨hg.os.trans h.os, hg.tape.trans h.tape, hg.output.trans h.output, Nat.le_trans h.size hg.size, fun k hk h1 => by
    refine (hg.block k (Nat.lt_of_lt_of_le hk h.size) fun e => ?_).trans (h.block k hk h1)
    rcases hr k e.symm with h2 | h2
    · omega
    · exact h1 h2⟩
theorem Kpp.below {P : Nat → Prop} {B : Nat} {w w' : World} (h : Kpp P w w') (hP : ∀ k, P k → B ≤ k) (hB : B ≤ w.heap.size) : Below B w w' := ⟨h.os, h.tape, h.output, h.size, fun k hk => h.block k (by omega) (fun hp => by have := hP k hp; omega)⟩
theorem Blk.kpp {P : Nat → Prop} {w w' : World} {k : Nat} {cs : Array Value} {t : TypeId} (h : Blk w k cs t) (hk : Kpp P w w') (h1 : ¬ P k) : Blk w' k cs t := (hk.block k h.lt h1).trans h
theorem MapAt.kpp {P : Nat → Prop} {w w' : World} {k : Nat} {m : Mp} (h : MapAt w k m) (hk : Kpp P w w') (h1 : ¬ P k) : MapAt w' k m := h.of (hk.block k h.lt h1)
theorem Blk.grown {w w' : World} {b : Nat} {cs : Array Value} {t : TypeId} {row : Option Nat} (h : Blk w b cs t) (hg : w.grownBy w' row) (hr : row ≠ some b) : Blk w' b cs t := (hg.block b h.lt (fun e => hr e.symm)).trans h
theorem Blk.setB' {w : World} {b k : Nat} {cs : Array Value} {t : TypeId} (h : Blk w b cs t) (hne : b ≠ k) (o : Obj) : Blk (setBlock w k o) b cs t := by
  unfold Blk setBlock at *
  simp only
  rw [Array.getElem?_setIfInBounds_ne (fun e => hne e.symm)]; exact h

/-! ### Rows that a call owns: what changes them, and what can't be their block -/
section
variable {w w' : World} {B : Nat} {e : TypeId} {size n : Nat} {v : Value} {xs : List Value}
theorem own_ne (h : w.ownsRow B e size v n xs) {b : Nat} {o : Obj} (hb : w.heap[b]? = some o) (hne : ∀ cur, o ≠ .cells cur e (0, 0)) : v.ownBlock ≠ some b := by
  obtain ⟨_, h2⟩ := h
  rcases h2 with ⟨rfl, _⟩ | ⟨g, cap, cur, rfl, _, hg, _⟩
  · intro e; cases e
  · intro e
    simp only [Value.ownBlock, Option.some.injEq] at e
    subst e
    rw [hg] at hb
    injection hb with hb
    exact hne cur hb.symm
theorem own_blk (h : w.ownsRow B e size v n xs) {b : Nat} {cs : Array Value} {t : TypeId} (hb : Blk w b cs t) (hne : t ≠ e) : v.ownBlock ≠ some b :=
  own_ne h hb (fun cur k => by injection k with _ k; exact hne k)
theorem own_map (h : w.ownsRow B e size v n xs) {b : Nat} {m : Mp} (hb : MapAt w b m) : v.ownBlock ≠ some b := by
  obtain ⟨es, c, L, hb, _⟩ := hb
  exact own_ne h hb (fun cur k => by cases k)
theorem own_own {B' : Nat} {e' : TypeId} {size' n' : Nat} {v' : Value} {xs' : List Value} (h : w.ownsRow B e size v n xs) (h' : w.ownsRow B' e' size' v' n' xs') (hne : e ≠ e') : v.ownBlock = none ∨ v.ownBlock ≠ v'.ownBlock := by
  obtain ⟨_, h2⟩ := h'
  rcases h2 with ⟨rfl, _⟩ | ⟨g, cap, cur, rfl, _, hg, _⟩
  · cases hv : v.ownBlock with
    | none => exact .inl rfl
    | some b => right; intro e; cases e
  · right
    exact own_ne h hg (fun cur' k => by injection k with _ k; exact hne k.symm)
theorem own_of (h : w.ownsRow B e size v n xs) (hb : ∀ k, v.ownBlock = some k → w'.heap[k]? = w.heap[k]?) : w'.ownsRow B e size v n xs := by
  obtain ⟨h1, h2⟩ := h
  refine ⟨h1, ?_⟩
  rcases h2 with h2 | ⟨g, cap, cur, rfl, b, c, d⟩
  · exact .inl h2
  · exact .inr ⟨g, cap, cur, rfl, b, (hb g rfl).trans c, d⟩
theorem own_below (h : w.ownsRow B e size v n xs) (hb : Below w.heap.size w w') : w'.ownsRow B e size v n xs := own_of h fun k hk => hb.block k (World.ownsRow.lt h k hk).2
theorem own_kpp {P : Nat → Prop} (h : w.ownsRow B e size v n xs) (hk : Kpp P w w') (hP : ∀ k, v.ownBlock = some k → ¬ P k) : w'.ownsRow B e size v n xs := own_of h fun k hv => hk.block k (World.ownsRow.lt h k hv).2 (hP k hv)
theorem own_set (h : w.ownsRow B e size v n xs) {p : Addr} (hp : v.ownBlock ≠ some p.block) (u : Value) : (w.setCell p u).ownsRow B e size v n xs := own_of h fun _ hk => Below.heap_setCell _ _ _ _ (fun e => hp (e ▸ hk))
theorem own_setB (h : w.ownsRow B e size v n xs) {b : Nat} (hp : v.ownBlock ≠ some b) (o : Obj) : (setBlock w b o).ownsRow B e size v n xs := own_of h fun k hk => by
  have hne : b ≠ k := fun e => hp (e ▸ hk)
  simp only [setBlock]
  rw [Array.getElem?_setIfInBounds_ne hne]
theorem own_len (h : w.ownsRow B e size v n xs) : n ≤ maxLen := by
  obtain ⟨h1, h2⟩ := h
  rcases h2 with ⟨_, h2⟩ | ⟨g, cap, cur, e, f, c, d, d2, _⟩
  · omega
  · omega
theorem own_forms (h : w.ownsRow B e size v n xs) : ∃ a cap, v = .slice a n cap ∧ n ≤ cap ∧ (0 < n → ∃ g, a = some ⟨g, 0, none⟩ ∧ B ≤ g ∧ ∀ j u, xs[j]? = some u → w.cell? ⟨g, j, none⟩ = some u) := by
  have h' := h
  obtain ⟨h1, h2⟩ := h
  rcases h2 with ⟨h2, h3⟩ | ⟨g, cap, cur, rfl, b, c, d, _⟩
  · exact ⟨none, 0, by rw [h2, h3], by omega, fun hk => by omega⟩
  · refine ⟨_, cap, rfl, d, fun _ => ⟨g, rfl, b, fun j u hj => ?_⟩⟩
    have hlt := (List.getElem?_eq_some_iff.1 hj).1
    rw [World.ownsRow.cellAt h' j (by omega)]
    exact hj
end

/-! ### The stack of visits -/
def vsC (l : List (Pt × Bool)) : List Value := l.flatMap fun v => [.int .i64 v.1.1, .int .i64 v.1.2, .bool v.2]
theorem vsC_len (l : List (Pt × Bool)) : (vsC l).length = l.length * 3 := by
  induction l with
  | nil => rfl
  | cons x l ih => unfold vsC at *; simp [ih]; omega
theorem vsC_app (l l' : List (Pt × Bool)) : vsC (l ++ l') = vsC l ++ vsC l' := by simp [vsC]
theorem vsC_one (v : Pt × Bool) : vsC [v] = [.int .i64 v.1.1, .int .i64 v.1.2, .bool v.2] := rfl
theorem infoVis : (Tryz.prog.info? 249).map (fun i => (i.zero, i.size, i.bytes)) = some (some (.agg #[.int .i64 0, .int .i64 0, .bool false]), 3, 24) := by kernel_rfl
theorem infoInt : (Tryz.prog.info? 3).map (fun i => (i.zero, i.size, i.bytes)) = some (some (.int .i64 0), 1, 8) := by kernel_rfl
/-- The stack, the next visit last. -/
def Stk' (w : World) (B : Nat) (v : Value) (s : List (Pt × Bool)) : Prop := w.ownsRow B 249 3 v s.length (vsC s.reverse)
theorem Stk'.top {w : World} {B : Nat} {v : Value} {x : Pt × Bool} {s : List (Pt × Bool)} (h : Stk' w B v (x :: s)) : ∃ g cap, v = .slice (some ⟨g, 0, none⟩) (s.length + 1) cap ∧ s.length + 1 ≤ cap ∧ B ≤ g ∧
    w.cell? ⟨g, s.length * 3, none⟩ = some (.int .i64 x.1.1) ∧ w.cell? ⟨g, s.length * 3 + 1, none⟩ = some (.int .i64 x.1.2) ∧ w.cell? ⟨g, s.length * 3 + 2, none⟩ = some (.bool x.2) ∧ Stk' w B (.slice (some ⟨g, 0, none⟩) s.length cap) s := by
  have h' : w.ownsRow B 249 3 v (s.length + 1) (vsC s.reverse ++ [.int .i64 x.1.1, .int .i64 x.1.2, .bool x.2]) := by
    have := h
    unfold Stk' at this
    rw [List.reverse_cons, vsC_app, vsC_one] at this
    exact this
  have hl : (vsC s.reverse).length = s.length * 3 := by rw [vsC_len, List.length_reverse]
  obtain ⟨a, cap, rfl, hc, hf⟩ := own_forms h'
  obtain ⟨g, rfl, hg, hcell⟩ := hf (by omega)
  refine ⟨g, cap, rfl, hc, hg, hcell _ _ ?_, hcell _ _ ?_, hcell _ _ ?_, ?_⟩
  · rw [List.getElem?_append_right (by omega), hl]; simp
  · rw [List.getElem?_append_right (by omega), hl]; simp
  · rw [List.getElem?_append_right (by omega), hl]; simp
  · exact ownsRow_pop hl h'
theorem Stk'.push {w : World} {B : Nat} {v : Value} {x : Pt × Bool} {s : List (Pt × Bool)} (h : w.ownsRow B 249 3 v (s.length + 1) (vsC s.reverse ++ [.int .i64 x.1.1, .int .i64 x.1.2, .bool x.2])) : Stk' w B v (x :: s) := by
  unfold Stk'
  rw [List.reverse_cons, vsC_app, vsC_one]
  exact h

/-! ### The walk -/
def wkC (sp : Value) (st : Int) (bm : Nat) (ev : Value) (lo bl : Bool) : Array Value := #[sp, .int .i64 st, .map (some bm), ev, .bool lo, .bool bl]
def enC (E : List Nat) : List Value := E.map fun n => .int .i64 (n : Nat)
theorem enC_len (E : List Nat) : (enC E).length = E.length * 1 := by simp [enC]
theorem enC_app (E : List Nat) (n : Nat) : enC (E ++ [n]) = enC E ++ [.int .i64 (n : Nat)] := by simp [enC]
structure WkW (w : World) (BB bw bm : Nat) (sp : Value) (st : Int) (m : Mp) (ev : Value) (E : List Nat) (lo bl : Bool) : Prop where
  blk : Blk w bw (wkC sp st bm ev lo bl) 214
  mp : MapAt w bm m
  er : w.ownsRow BB 3 1 ev E.length (enC E)
  lw : BB ≤ bw
  lm : BB ≤ bm
section
variable {w w' : World} {BB bw bm : Nat} {sp : Value} {st : Int} {m : Mp} {ev : Value} {E : List Nat} {lo bl : Bool}
theorem WkW.cells (h : WkW w BB bw bm sp st m ev E lo bl) :
    w.cell? ⟨bw, 0, none⟩ = some sp ∧ w.cell? ⟨bw, 1, none⟩ = some (.int .i64 st) ∧ w.cell? ⟨bw, 2, none⟩ = some (.map (some bm)) ∧ w.cell? ⟨bw, 3, none⟩ = some ev ∧ w.cell? ⟨bw, 4, none⟩ = some (.bool lo) ∧ w.cell? ⟨bw, 5, none⟩ = some (.bool bl) :=
  ⟨h.blk.cell 0, h.blk.cell 1, h.blk.cell 2, h.blk.cell 3, h.blk.cell 4, h.blk.cell 5⟩
theorem WkW.free' (h : WkW w BB bw bm sp st m ev E lo bl) : w.frozen? ⟨bw, 3, none⟩ = false ∧ w.frozen? ⟨bw, 4, none⟩ = false ∧ w.frozen? ⟨bw, 5, none⟩ = false :=
  ⟨h.blk.free 3, h.blk.free 4, h.blk.free 5⟩
theorem WkW.kept (h : WkW w BB bw bm sp st m ev E lo bl) (hb : Below w.heap.size w w') : WkW w' BB bw bm sp st m ev E lo bl :=
  ⟨h.blk.kept hb, h.mp.kept hb, own_below h.er hb, h.lw, h.lm⟩
theorem WkW.ne (h : WkW w BB bw bm sp st m ev E lo bl) : bm ≠ bw := fun e => by
  subst e
  obtain ⟨es, c, L, hm, _⟩ := h.mp
  have hb := h.blk
  unfold Blk at hb
  rw [hm] at hb
  cases hb
theorem typ_ne1 : 214 ≠ 3 := by decide
theorem typ_ne2 : 214 ≠ 249 := by decide
theorem typ_ne3 : 3 ≠ 249 := by decide
/-- What the walk's own blocks are. -/
def wkP (bw bm : Nat) (ev : Value) : Nat → Prop := fun k => k = bw ∨ k = bm ∨ ev.ownBlock = some k
theorem WkW.stk {s : List (Pt × Bool)} {ov : Value} {B : Nat} (h : WkW w BB bw bm sp st m ev E lo bl) (ho : Stk' w B ov s) : ∀ k, ov.ownBlock = some k → ¬ wkP bw bm ev k := by
  rintro k hk (rfl | rfl | h3)
  · exact own_blk ho h.blk typ_ne2 hk
  · exact own_map ho h.mp hk
  · rcases own_own h.er ho typ_ne3 with k1 | k1
    · rw [h3] at k1; cases k1
    · rw [h3, hk] at k1; exact k1 rfl
/-- A truth of the walk is stored. -/
theorem WkW.setLo (h : WkW w BB bw bm sp st m ev E lo bl) (b : Bool) : WkW (w.setCell ⟨bw, 4, none⟩ (.bool b)) BB bw bm sp st m ev E b bl :=
  ⟨by have := Blk.set h.blk 4 (.bool b); exact this, h.mp.setCell (a := ⟨bw, 4, none⟩) h.ne _, own_set h.er (p := ⟨bw, 4, none⟩) (own_blk h.er h.blk typ_ne1) _, h.lw, h.lm⟩
theorem WkW.setBl (h : WkW w BB bw bm sp st m ev E lo bl) (b : Bool) : WkW (w.setCell ⟨bw, 5, none⟩ (.bool b)) BB bw bm sp st m ev E lo b :=
  ⟨by have := Blk.set h.blk 5 (.bool b); exact this, h.mp.setCell (a := ⟨bw, 5, none⟩) h.ne _, own_set h.er (p := ⟨bw, 5, none⟩) (own_blk h.er h.blk typ_ne1) _, h.lw, h.lm⟩
/-- A point of the map is stored. -/
theorem WkW.setMp {o : Obj} {m' : Mp} (h : WkW w BB bw bm sp st m ev E lo bl) (hm : MapAt (setBlock w bm o) bm m') : WkW (setBlock w bm o) BB bw bm sp st m' ev E lo bl :=
  ⟨Blk.setB' h.blk (fun e => h.ne e.symm) o, hm, own_setB h.er (own_map h.er h.mp) o, h.lw, h.lm⟩
end
end Go.Proofs.YtinjmdjnkneidaaGreatDoor
