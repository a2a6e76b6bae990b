/-
  A map keyed by points: what a look-up finds and what a store leaves; what a call leaves as it was that writes two blocks.
-/
import Derived.Test.YtheclmdpiijakaaGreatDoorTopB
import Derived.Test.YtheclmdpiijakaaGreatDoorSem
import Derived.ProofKit
import Derived.ChangeMaps5
namespace Go.Proofs.YtheclmdpiijakaaGreatDoor
open Go.RowKit Go.ChangeMaps

/-! ### All blocks but two -/
structure Kp2 (a b : Nat) (w w' : World) : Prop where
  os : w'.os = w.os
  tape : w'.tape = w.tape
  output : w'.output = w.output
  size : w.heap.size ≤ w'.heap.size
  block : ∀ k, k < w.heap.size → k ≠ a → k ≠ b → w'.heap[k]? = w.heap[k]?
theorem Kp2.refl (a b : Nat) (w : World) : Kp2 a b w w := ⟨rfl, rfl, rfl, Nat.le_refl _, fun _ _ _ _ => rfl⟩
theorem Kp2.trans {a b : Nat} {w w1 w2 : World} (h : Kp2 a b w w1) (k : Kp2 a b w1 w2) : Kp2 a b w w2 :=
  ⟨k.os.trans h.os, k.tape.trans h.tape, k.output.trans h.output, Nat.le_trans h.size k.size, fun i hi h1 h2 => (k.block i (Nat.lt_of_lt_of_le hi h.size) h1 h2).trans (h.block i hi h1 h2)⟩
theorem Kp2.of {a b : Nat} {w w' : World} (h : Below w.heap.size w w') : Kp2 a b w w' := ⟨h.os, h.tape, h.output, h.size, fun k hk _ _ => h.block k hk⟩
theorem Kp2.next {a b : Nat} {w w1 w2 : World} (h : Kp2 a b w w1) (hb : Below w1.heap.size w1 w2) : Kp2 a b w w2 := h.trans (Kp2.of hb)
theorem Kp2.put {a b : Nat} {w w1 : World} (h : Kp2 a b w w1) (o : Obj) : Kp2 a b w (w1.alloc o) := h.next ((Below.refl _ _).alloc (Nat.le_refl _) o)
theorem Kp2.drewN {a b : Nat} {w w1 : World} (h : Kp2 a b w w1) (n : Nat) : Kp2 a b w (w1.drewN n) := h.next (bdrewN (Below.refl _ _) n)
theorem Kp2.setA {a b : Nat} {w w1 : World} (h : Kp2 a b w w1) (i : Nat) (v : Value) : Kp2 a b w (w1.setCell ⟨a, i, none⟩ v) :=
  h.trans ⟨rfl, rfl, rfl, by simp [World.setCell], fun k _ hne _ => Below.heap_setCell _ _ _ _ hne⟩
theorem Kp2.setNew {a b : Nat} {w w1 : World} (h : Kp2 a b w w1) {q : Addr} (hq : w.heap.size ≤ q.block) (v : Value) : Kp2 a b w (w1.setCell q v) :=
  ⟨h.os, h.tape, h.output, by have := h.size; simpa [World.setCell] using this, fun k hk h1 h2 => by rw [Below.heap_setCell _ _ _ _ (by omega)]; exact h.block k hk h1 h2⟩
theorem Kp2.setB {a b : Nat} {w w1 : World} (h : Kp2 a b w w1) (o : Obj) : Kp2 a b w (setBlock w1 b o) :=
  h.trans ⟨rfl, rfl, rfl, by simp [setBlock], fun k _ _ hne => by simp only [setBlock]; rw [Array.getElem?_setIfInBounds_ne (fun e => hne e.symm)]⟩
theorem Kp2.grown {a b : Nat} {w w1 w2 : World} {row : Option Nat} (h : Kp2 a b w w1) (hg : w1.grownBy w2 row) (hr : ∀ k, row = some k → w.heap.size ≤ k) : Kp2 a b w w2 :=
  ⟨hg.os.trans h.os, hg.tape.trans h.tape, hg.output.trans h.output, Nat.le_trans h.size hg.size, fun k hk h1 h2 => (hg.block k (Nat.lt_of_lt_of_le hk h.size) (fun e => by have := hr k e.symm; omega)).trans (h.block k hk h1 h2)⟩
theorem Kp2.below {a b B : Nat} {w w' : World} (h : Kp2 a b w w') (ha : B ≤ a) (hb : B ≤ b) (hB : B ≤ w.heap.size) : Below B w w' := ⟨h.os, h.tape, h.output, h.size, fun k hk => h.block k (by omega) (by omega) (by omega)⟩
theorem Blk.kp2 {a b : Nat} {w w' : World} {k : Nat} {cs : Array Value} {t : TypeId} (h : Blk w k cs t) (hk : Kp2 a b w w') (h1 : k ≠ a) (h2 : k ≠ b) : Blk w' k cs t := (hk.block k h.lt h1 h2).trans h
theorem Blk.setB {w : World} {b k : Nat} {cs : Array Value} {t : TypeId} (h : Blk w b cs t) (hne : b ≠ k) (o : Obj) : Blk (setBlock w k o) b cs t := by
  unfold Blk setBlock at *
  simp only
  rw [Array.getElem?_setIfInBounds_ne (fun e => hne e.symm)]; exact h

/-! ### The map -/
def ptV (p : Pt) : Value := .agg #[.int .i64 p.1, .int .i64 p.2]
def look : List (Pt × Bool) → Pt → Option Bool
  | [], _ => none
  | x :: L, p => if x.1 = p then some x.2 else look L p
def putL : List (Pt × Bool) → Pt → Bool → List (Pt × Bool)
  | [], p, v => [(p, v)]
  | x :: L, p, v => if x.1 = p then (p, v) :: L else x :: putL L p v
theorem look_put (L : List (Pt × Bool)) (p q : Pt) (v : Bool) : look (putL L p v) q = if p = q then some v else look L q := by
  induction L with
  | nil => simp [putL, look]
  | cons x L ih =>
    unfold putL
    by_cases h : x.1 = p
    · rw [if_pos h]
      simp only [look]
      by_cases h2 : p = q
      · simp [h2]
      · rw [if_neg h2, if_neg h2, h, if_neg h2]
    · rw [if_neg h]
      simp only [look, ih]
      by_cases h2 : x.1 = q
      · rw [if_pos h2, if_neg (fun e => h (by rw [h2, e])), if_pos h2]
      · rw [if_neg h2, if_neg h2]
def MapAt (w : World) (b : Nat) (m : Pt → Option Bool) : Prop := ∃ es clock L, w.heap[b]? = some (.map es clock) ∧ es.toList.map (fun e => (e.key, e.val)) = L.map (fun x => (ptV x.1, Value.bool x.2)) ∧ ∀ p, look L p = m p
theorem MapAt.lt {w : World} {b : Nat} {m : Pt → Option Bool} (h : MapAt w b m) : b < w.heap.size := by obtain ⟨es, c, L, h, _⟩ := h; exact (Array.getElem?_eq_some_iff.1 h).1
theorem MapAt.of {w w' : World} {b : Nat} {m : Pt → Option Bool} (h : MapAt w b m) (hb : w'.heap[b]? = w.heap[b]?) : MapAt w' b m := by obtain ⟨es, c, L, h, h2⟩ := h; exact ⟨es, c, L, hb.trans h, h2⟩
theorem MapAt.kept {w w' : World} {b : Nat} {m : Pt → Option Bool} (h : MapAt w b m) (hb : Below w.heap.size w w') : MapAt w' b m := h.of (hb.block b h.lt)
theorem MapAt.setCell {w : World} {b : Nat} {m : Pt → Option Bool} (h : MapAt w b m) {a : Addr} (ha : b ≠ a.block) (v : Value) : MapAt (w.setCell a v) b m := h.of (Below.heap_setCell _ _ _ _ ha)
theorem MapAt.grown {w w' : World} {b : Nat} {m : Pt → Option Bool} {row : Option Nat} (h : MapAt w b m) (hg : w.grownBy w' row) (hr : row ≠ some b) : MapAt w' b m := h.of (hg.block b h.lt (fun e => hr e.symm))
theorem MapAt.congr {w : World} {b : Nat} {m m' : Pt → Option Bool} (h : MapAt w b m) (e : ∀ p, m p = m' p) : MapAt w b m' := by obtain ⟨es, c, L, h, h2, h3⟩ := h; exact ⟨es, c, L, h, h2, fun p => (h3 p).trans (e p)⟩
theorem ptV_inj {p q : Pt} (h : ptV p = ptV q) : p = q := by
  unfold ptV at h
  injection h with h
  injection h with h
  simp at h
  exact Prod.ext (by omega) (by omega)
theorem MapAt.uniq {w : World} {b : Nat} {m m' : Pt → Option Bool} (h : MapAt w b m) (h' : MapAt w b m') : m = m' := by
  obtain ⟨es, c, L, h1, h2, h3⟩ := h
  obtain ⟨es', c', L', h1', h2', h3'⟩ := h'
  rw [h1] at h1'
  injection h1' with h1'
  injection h1' with h1' _
  subst h1'
  have : L = L' := by
    have e := h2.symm.trans h2'
    clear h2 h2' h1 h3 h3'
    induction L generalizing L' with
    | nil => cases L' with
      | nil => rfl
      | cons y L' => simp at e
    | cons x L ih => cases L' with
      | nil => simp at e
      | cons y L' =>
        simp only [List.map_cons, List.cons.injEq, Prod.mk.injEq] at e
        obtain ⟨⟨e1, e2⟩, e3⟩ := e
        rw [ih _ e3, Prod.ext (ptV_inj e1) (by injection e2)]
  subst this
  funext p
  exact (h3 p).symm.trans (h3' p)

/-- The keys of a map in a world. -/
noncomputable def mapIn (w : World) (b : Nat) : Pt → Option Bool := by
  classical exact if h : ∃ m, MapAt w b m then Classical.choose h else fun _ => none
theorem MapAt.inn {w : World} {b : Nat} {m : Pt → Option Bool} (h : MapAt w b m) : mapIn w b = m := by
  unfold mapIn
  rw [dif_pos ⟨m, h⟩]
  exact (Classical.choose_spec (⟨m, h⟩ : ∃ m, MapAt w b m)).uniq h

theorem structPt : Tryz.prog.underlying 234 = some (.struct (Tryz.prog.fieldsOf 234)) := by kernel_rfl
theorem stoodPt : Tryz.prog.stoodInHeld 234 = false := by kernel_rfl
theorem fieldsPt : ∃ a b, (Tryz.prog.fieldsOf 234).toList = [a, b] ∧ (a.name = "_") = False ∧ a.type = 3 ∧ a.offset = 0 ∧ (b.name = "_") = False ∧ b.type = 3 ∧ b.offset = 1 :=
  ⟨(Tryz.prog.fieldsOf 234).toList[0]!, (Tryz.prog.fieldsOf 234).toList[1]!, by kernel_rfl, by simp; decide +kernel, by kernel_rfl, by kernel_rfl, by simp; decide +kernel, by kernel_rfl, by kernel_rfl⟩
theorem equal_pt (p q : Pt) (w : World) : (Op.equal 234 (ptV p) (ptV q)).run Tryz.prog w = .ok (decide (p = q)) w := by
  obtain ⟨a, b, h0, h1, h2, h3, h4, h5, h6⟩ := fieldsPt
  unfold ptV Op.equal Op.maxDepth
  rw [run_equalIn_struct w _ _ _ _ structPt stoodPt, h0]
  have e : (p = q) ↔ p.1 = q.1 ∧ p.2 = q.2 := Prod.ext_iff
  have i0 := Tryz.prog.underlying 3
  by_cases c1 : p.1 = q.1 <;> by_cases c2 : p.2 = q.2 <;> simp [Op.eqFields, go_sem, h1, h2, h3, h4, h5, h6, c1, c2, e] <;> omega
theorem check_pt (e : Bool) (p : Pt) (w : World) : (Instr.checkKey e 10000 234 (ptV p)).run Tryz.prog w = .ok () w := by kernel_rfl
def enp (e : MapEntry) : Value × Value := (e.key, e.val)
def enl (x : Pt × Bool) : Value × Value := (ptV x.1, Value.bool x.2)
theorem find_pt (p : Pt) : ∀ (L : List (Pt × Bool)) (es : List MapEntry) (i : Nat), es.map enp = L.map enl →
    (look L p = none ∧ (∀ w, (Instr.findAsking 234 (ptV p) es i).run Tryz.prog w = .ok none w) ∧ ∀ v, putL L p v = L ++ [(p, v)]) ∨
    (∃ j e c, es[j]? = some e ∧ e.key = ptV p ∧ e.val = .bool c ∧ look L p = some c ∧ (∀ w, (Instr.findAsking 234 (ptV p) es i).run Tryz.prog w = .ok (some (i + j, .bool c)) w) ∧ ∀ v, (es.modify j (fun e => { e with key := ptV p, val := .bool v })).map enp = (putL L p v).map enl) := by
  intro L
  induction L with
  | nil =>
    intro es i h
    cases es with
    | nil => exact .inl ⟨rfl, fun w => by simp [Instr.findAsking], fun v => rfl⟩
    | cons e es => simp at h
  | cons x L ih =>
    intro es i h
    cases es with
    | nil => simp at h
    | cons e es =>
      simp only [List.map_cons, List.cons.injEq] at h
      obtain ⟨h1, h2⟩ := h
      unfold enp enl at h1
      injection h1 with k1 k2
      by_cases hx : x.1 = p
      · refine .inr ⟨0, e, x.2, rfl, by rw [k1, hx], k2, by simp [look, hx], ?_, ?_⟩
        · intro w; simp [Instr.findAsking, k1, equal_pt, hx, k2, Result.andThen]
        · intro v
          simp only [List.modify_zero_cons, List.map_cons, h2, putL, if_pos hx]
          rfl
      · have hx' : ¬ p = x.1 := fun e => hx e.symm
        rcases ih es (i + 1) h2 with ⟨a1, a2, a3⟩ | ⟨j, e', c, b1, b2, b3, b4, b5, b6⟩
        · refine .inl ⟨by simp [look, hx, a1], fun w => ?_, fun v => by simp [putL, hx, a3]⟩
          simp [Instr.findAsking, k1, equal_pt, hx', Result.andThen, a2]
        · refine .inr ⟨j + 1, e', c, by simpa using b1, b2, b3, by simp [look, hx, b4], ?_, ?_⟩
          · intro w
            simp [Instr.findAsking, k1, equal_pt, hx', Result.andThen, b5]
            omega
          · intro v
            simp only [List.modify_succ_cons, List.map_cons, b6, putL, if_neg hx]
            unfold enp enl
            rw [k1, k2]
theorem mapT : Tryz.prog.underlying 304 = some (.map 234 4) := by kernel_rfl
theorem zeroB (w : World) : (zeroValue 4).run Tryz.prog w = .ok (.bool false) w := by kernel_rfl
theorem findKey_pt (p : Pt) (w : World) (L : List (Pt × Bool)) (es : List MapEntry) (h : es.map enp = L.map enl) : (Instr.findKey 234 (ptV p) es).run Tryz.prog w = (Instr.findAsking 234 (ptV p) es 0).run Tryz.prog w := by
  cases es with
  | nil => simp [Instr.findKey, run_underlying structPt, Instr.findNow, Instr.findAsking]
  | cons e es => simp [Instr.findKey, run_underlying structPt, Instr.findNow, Instr.sameNow]
theorem look_run {w : World} {b : Nat} {m : Pt → Option Bool} (h : MapAt w b m) (p : Pt) : (Instr.lookup 304 (.map (some b)) (ptV p) true).run Tryz.prog w = .ok (.tuple #[.bool ((m p).getD false), .bool (m p).isSome]) w := by
  obtain ⟨es, c, L, hb, he, hm⟩ := h
  rw [← hm p]
  rcases find_pt p L es.toList 0 he with ⟨a1, a2, _⟩ | ⟨j, e', v, b1, b2, b3, b4, b5, _⟩
  · simp [Instr.lookup, run_underlying mapT, MapKept.run_getObj_map hb, check_pt, findKey_pt p w L es.toList he, a1, a2, Result.andThen]
  · simp [Instr.lookup, run_underlying mapT, MapKept.run_getObj_map hb, check_pt, findKey_pt p w L es.toList he, b4, b5, Result.andThen]
theorem stays_pt (p : Pt) (w : World) : (Instr.keyThatStays (ptV p) (ptV p)).run Tryz.prog w = .ok (ptV p) w := by
  have : Instr.sameBits 10000 (ptV p) (ptV p) = true := by
    show Instr.sameBits (9998 + 2) (ptV p) (ptV p) = true
    unfold ptV
    simp [Instr.sameBits]
  simp [Instr.keyThatStays, this]
theorem store_run {w : World} {b : Nat} {m : Pt → Option Bool} (h : MapAt w b m) (p : Pt) (v : Bool) :
    ∃ o, (∀ w' : World, w'.heap[b]? = w.heap[b]? → (Instr.mapUpdate 304 (.map (some b)) (ptV p) (.bool v)).run Tryz.prog w' = .ok () (setBlock w' b o)) ∧
      ∀ w' : World, b < w'.heap.size → MapAt (setBlock w' b o) b (fun q => if p = q then some v else m q) := by
  obtain ⟨es, c, L, hb, he, hm⟩ := h
  rcases find_pt p L es.toList 0 he with ⟨a1, a2, a3⟩ | ⟨j, e', u, b1, b2, b3, b4, b5, b6⟩
  · refine ⟨.map (es.push { key := ptV p, val := .bool v, born := c }) (c + 1), fun w' hw => ?_, fun w' hlt => ?_⟩
    · have hb' : w'.heap[b]? = some (.map es c) := hw.trans hb
      simp [Instr.mapUpdate, run_underlying mapT, MapKept.run_getObj_map hb', check_pt, findKey_pt p w' L es.toList he, a2, MapKept.run_setObj_map _ hb', Result.andThen, setBlock]
    · refine ⟨es.push { key := ptV p, val := .bool v, born := c }, c + 1, putL L p v, by simp [setBlock, hlt], ?_, fun q => by rw [look_put, hm]⟩
      rw [a3]
      simp only [Array.toList_push, List.map_append]
      rw [he]
      rfl
  · refine ⟨.map (es.modify j (fun e => { e with key := ptV p, val := .bool v })) c, fun w' hw => ?_, fun w' hlt => ?_⟩
    · have hb' : w'.heap[b]? = some (.map es c) := hw.trans hb
      have hj : es[j]? = some e' := by simpa using b1
      simp [Instr.mapUpdate, run_underlying mapT, MapKept.run_getObj_map hb', check_pt, findKey_pt p w' L es.toList he, b5, hj, b2, stays_pt, MapKept.run_setObj_map _ hb', Result.andThen, setBlock]
    · refine ⟨es.modify j (fun e => { e with key := ptV p, val := .bool v }), c, putL L p v, by simp [setBlock, hlt], ?_, fun q => by rw [look_put, hm]⟩
      rw [Array.toList_modify]
      exact b6 v
end Go.Proofs.YtheclmdpiijakaaGreatDoor
