/-
  Several small texts in one: MapL Gra Flo Fol WkP WkE WkF WkG WkI WkR WkL WkS WkO.
-/
import Derived.Test.YtkgdhlpmlpbbkaaGreatBlk
import Derived.Test.YtkgdhlpmlpbbkaaGreatSem
import Derived.ProofKit
import Derived.ChangeMaps5
import Derived.Test.YtkgdhlpmlpbbkaaGreatTst
import Derived.Test.YtkgdhlpmlpbbkaaGreatAsgR
import Derived.Test.YtkgdhlpmlpbbkaaGreatTas
import Derived.Test.YtkgdhlpmlpbbkaaGreatRdP
import Derived.Test.YtkgdhlpmlpbbkaaGreatRow
import Derived.RowKit3
import Derived.Deep.RegionHeld3
import Derived.Deep.RegionWith
import Derived.ScopeJumps
import Derived.WalkMore
import Derived.RegionTactic
import Derived.ChangeAlike
import Derived.StillTailTactics
namespace Go.Proofs.YtkgdhlpmlpbbkaaGreat
open Go.RowKit Go.ChangeMaps

/-! ### All blocks but two -/
structure Kp2 (a b : Nat) (w w' : World) : Prop where
  os : w'.os = w.os
  tape : w'.tape = w.tape
  output : w'.output = w.output
  size : w.heap.size ≤ w'.heap.size
  block : ∀ k, k < w.heap.size → k ≠ a → k ≠ b → w'.heap[k]? = w.heap[k]?
theorem Kp2.refl (a b : Nat) (w : World) : Kp2 a b w w := ⟨rfl, rfl, rfl, Nat.le_refl _, fun _ _ _ _ => rfl⟩
theorem Kp2.trans {a b : Nat} {w w1 w2 : World} (h : Kp2 a b w w1) (k : Kp2 a b w1 w2) : Kp2 a b w w2 :=
  ⟨k.os.trans h.os, k.tape.trans h.tape, k.output.trans h.output, Nat.le_trans h.size k.size, fun i hi h1 h2 => (k.block i (Nat.lt_of_lt_of_le hi h.size) h1 h2).trans (h.block i hi h1 h2)⟩
theorem Kp2.of {a b : Nat} {w w' : World} (h : Below w.heap.size w w') : Kp2 a b w w' := ⟨h.os, h.tape, h.output, h.size, fun k hk _ _ => h.block k hk⟩
theorem Kp2.next {a b : Nat} {w w1 w2 : World} (h : Kp2 a b w w1) (hb : Below w1.heap.size w1 w2) : Kp2 a b w w2 := h.trans (Kp2.of hb)
theorem Kp2.put {a b : Nat} {w w1 : World} (h : Kp2 a b w w1) (o : Obj) : Kp2 a b w (w1.alloc o) := h.next ((Below.refl _ _).alloc (Nat.le_refl _) o)
theorem Kp2.drewN {a b : Nat} {w w1 : World} (h : Kp2 a b w w1) (n : Nat) : Kp2 a b w (w1.drewN n) := h.next (bdrewN (Below.refl _ _) n)
theorem Kp2.setA {a b : Nat} {w w1 : World} (h : Kp2 a b w w1) (i : Nat) (v : Value) : Kp2 a b w (w1.setCell ⟨a, i, none⟩ v) :=
  h.trans ⟨rfl, rfl, rfl, by simp [World.setCell], fun k _ hne _ => Below.heap_setCell _ _ _ _ hne⟩
theorem Kp2.setNew {a b : Nat} {w w1 : World} (h : Kp2 a b w w1) {q : Addr} (hq : w.heap.size ≤ q.block) (v : Value) : Kp2 a b w (w1.setCell q v) :=
  ⟨h.os, h.tape, h.output, by have := h.size; simpa [World.setCell] using this, fun k hk h1 h2 => by rw [Below.heap_setCell _ _ _ _ (by omega)]; exact h.block k hk h1 h2⟩
theorem Kp2.setB {a b : Nat} {w w1 : World} (h : Kp2 a b w w1) (o : Obj) : Kp2 a b w (setBlock w1 b o) :=
  h.trans ⟨rfl, rfl, rfl, by simp [setBlock], fun k _ _ hne => by simp only [setBlock]; rw [Array.getElem?_setIfInBounds_ne (fun e => hne e.symm)]⟩
theorem Kp2.grown {a b : Nat} {w w1 w2 : World} {row : Option Nat} (h : Kp2 a b w w1) (hg : w1.grownBy w2 row) (hr : ∀ k, row = some k → w.heap.size ≤ k) : Kp2 a b w w2 :=
  ⟨hg.os.trans h.os, hg.tape.trans h.tape, hg.output.trans h.output, Nat.le_trans h.size hg.size, fun k hk h1 h2 => (hg.block k (Nat.lt_of_lt_of_le hk h.size) (fun e => by have := hr k e.symm; omega)).trans (h.block k hk h1 h2)⟩
theorem Kp2.below {a b B : Nat} {w w' : World} (h : Kp2 a b w w') (ha : B ≤ a) (hb : B ≤ b) (hB : B ≤ w.heap.size) : Below B w w' := ⟨h.os, h.tape, h.output, h.size, fun k hk => h.block k (by omega) (by omega) (by omega)⟩
theorem Blk.kp2 {a b : Nat} {w w' : World} {k : Nat} {cs : Array Value} {t : TypeId} (h : Blk w k cs t) (hk : Kp2 a b w w') (h1 : k ≠ a) (h2 : k ≠ b) : Blk w' k cs t := (hk.block k h.lt h1 h2).trans h
theorem Blk.setB {w : World} {b k : Nat} {cs : Array Value} {t : TypeId} (h : Blk w b cs t) (hne : b ≠ k) (o : Obj) : Blk (setBlock w k o) b cs t := by
  unfold Blk setBlock at *
  simp only
  rw [Array.getElem?_setIfInBounds_ne (fun e => hne e.symm)]; exact h

/-! ### The map -/
def ptV (p : Pt) : Value := .agg #[.int .i64 p.1, .int .i64 p.2]
def look : List (Pt × Bool) → Pt → Option Bool
  | [], _ => none
  | x :: L, p => if x.1 = p then some x.2 else look L p
def putL : List (Pt × Bool) → Pt → Bool → List (Pt × Bool)
  | [], p, v => [(p, v)]
  | x :: L, p, v => if x.1 = p then (p, v) :: L else x :: putL L p v
theorem look_put (L : List (Pt × Bool)) (p q : Pt) (v : Bool) : look (putL L p v) q = if p = q then some v else look L q := by
  induction L with
  | nil => simp [putL, look]
  | cons x L ih =>
    unfold putL
    by_cases h : x.1 = p
    · rw [if_pos h]
      simp only [look]
      by_cases h2 : p = q
      · simp [h2]
      · rw [if_neg h2, if_neg h2, h, if_neg h2]
    · rw [if_neg h]
      simp only [look, ih]
      by_cases h2 : x.1 = q
      · rw [if_pos h2, if_neg (fun e => h (by rw [h2, e])), if_pos h2]
      · rw [if_neg h2, if_neg h2]
def MapAt (w : World) (b : Nat) (m : Pt → Option Bool) : Prop := ∃ es clock L, w.heap[b]? = some (.map es clock) ∧ es.toList.map (fun e => (e.key, e.val)) = L.map (fun x => (ptV x.1, Value.bool x.2)) ∧ ∀ p, look L p = m p
theorem MapAt.lt {w : World} {b : Nat} {m : Pt → Option Bool} (h : MapAt w b m) : b < w.heap.size := by obtain ⟨es, c, L, h, _⟩ := h; exact (Array.getElem?_eq_some_iff.1 h).1
theorem MapAt.of {w w' : World} {b : Nat} {m : Pt → Option Bool} (h : MapAt w b m) (hb : w'.heap[b]? = w.heap[b]?) : MapAt w' b m := by obtain ⟨es, c, L, h, h2⟩ := h; exact ⟨es, c, L, hb.trans h, h2⟩
theorem MapAt.kept {w w' : World} {b : Nat} {m : Pt → Option Bool} (h : MapAt w b m) (hb : Below w.heap.size w w') : MapAt w' b m := h.of (hb.block b h.lt)
theorem MapAt.setCell {w : World} {b : Nat} {m : Pt → Option Bool} (h : MapAt w b m) {a : Addr} (ha : b ≠ a.block) (v : Value) : MapAt (w.setCell a v) b m := h.of (Below.heap_setCell _ _ _ _ ha)
theorem MapAt.grown {w w' : World} {b : Nat} {m : Pt → Option Bool} {row : Option Nat} (h : MapAt w b m) (hg : w.grownBy w' row) (hr : row ≠ some b) : MapAt w' b m := h.of (hg.block b h.lt (fun e => hr e.symm))
theorem MapAt.congr {w : World} {b : Nat} {m m' : Pt → Option Bool} (h : MapAt w b m) (e : ∀ p, m p = m' p) : MapAt w b m' := by obtain ⟨es, c, L, h, h2, h3⟩ := h; exact ⟨es, c, L, h, h2, fun p => (h3 p).trans (e p)⟩
theorem ptV_inj {p q : Pt} (h : ptV p = ptV q) : p = q := by
  unfold ptV at h
  injection h with h
  injection h with h
  simp at h
  exact Prod.ext (by omega) (by omega)
theorem MapAt.uniq {w : World} {b : Nat} {m m' : Pt → Option Bool} (h : MapAt w b m) (h' : MapAt w b m') : m = m' := by
  obtain ⟨es, c, L, h1, h2, h3⟩ := h
  obtain ⟨es', c', L', h1', h2', h3'⟩ := h'
  rw [h1] at h1'
  injection h1' with h1'
  injection h1' with h1' _
  subst h1'
  have : L = L' := by
    have e := h2.symm.trans h2'
    clear h2 h2' h1 h3 h3'
    induction L generalizing L' with
    | nil => cases L' with
      | nil => rfl
      | cons y L' => simp at e
    | cons x L ih => cases L' with
      | nil => simp at e
      | cons y L' =>
        simp only [List.map_cons, List.cons.injEq, Prod.mk.injEq] at e
        obtain ⟨⟨e1, e2⟩, e3⟩ := e
        rw [ih _ e3, Prod.ext (ptV_inj e1) (by injection e2)]
  subst this
  funext p
  exact (h3 p).symm.trans (h3' p)

/-- The keys of a map in a world. -/
noncomputable def mapIn (w : World) (b : Nat) : Pt → Option Bool := by
  classical exact if h : ∃ m, MapAt w b m then Classical.choose h else fun _ => none
theorem MapAt.inn {w : World} {b : Nat} {m : Pt → Option Bool} (h : MapAt w b m) : mapIn w b = m := by
  unfold mapIn
  rw [dif_pos ⟨m, h⟩]
  exact (Classical.choose_spec (⟨m, h⟩ : ∃ m, MapAt w b m)).uniq h

theorem structPt : Tryz.prog.underlying 145 = some (.struct (Tryz.prog.fieldsOf 145)) := by kernel_rfl
theorem stoodPt : Tryz.prog.stoodInHeld 145 = false := by kernel_rfl
theorem fieldsPt : ∃ a b, (Tryz.prog.fieldsOf 145).toList = [a, b] ∧ (a.name = "_") = False ∧ a.type = 3 ∧ a.offset = 0 ∧ (b.name = "_") = False ∧ b.type = 3 ∧ b.offset = 1 :=
  ⟨(Tryz.prog.fieldsOf 145).toList[0]!, (Tryz.prog.fieldsOf 145).toList[1]!, by kernel_rfl, by simp; decide +kernel, by kernel_rfl, by kernel_rfl, by simp; decide +kernel, by kernel_rfl, by kernel_rfl⟩
theorem equal_pt (p q : Pt) (w : World) : (Op.equal 145 (ptV p) (ptV q)).run Tryz.prog w = .ok (decide (p = q)) w := by
  obtain ⟨a, b, h0, h1, h2, h3, h4, h5, h6⟩ := fieldsPt
  unfold ptV Op.equal Op.maxDepth
  rw [run_equalIn_struct w _ _ _ _ structPt stoodPt, h0]
  have e : (p = q) ↔ p.1 = q.1 ∧ p.2 = q.2 := Prod.ext_iff
  have i0 := Tryz.prog.underlying 3
  by_cases c1 : p.1 = q.1 <;> by_cases c2 : p.2 = q.2 <;> simp [Op.eqFields, go_sem, h1, h2, h3, h4, h5, h6, c1, c2, e] <;> omega
theorem check_pt (e : Bool) (p : Pt) (w : World) : (Instr.checkKey e 10000 145 (ptV p)).run Tryz.prog w = .ok () w := by kernel_rfl
def enp (e : MapEntry) : Value × Value := (e.key, e.val)
def enl (x : Pt × Bool) : Value × Value := (ptV x.1, Value.bool x.2)
theorem find_pt (p : Pt) : ∀ (L : List (Pt × Bool)) (es : List MapEntry) (i : Nat), es.map enp = L.map enl →
    (look L p = none ∧ (∀ w, (Instr.findAsking 145 (ptV p) es i).run Tryz.prog w = .ok none w) ∧ ∀ v, putL L p v = L ++ [(p, v)]) ∨
    (∃ j e c, es[j]? = some e ∧ e.key = ptV p ∧ e.val = .bool c ∧ look L p = some c ∧ (∀ w, (Instr.findAsking 145 (ptV p) es i).run Tryz.prog w = .ok (some (i + j, .bool c)) w) ∧ ∀ v, (es.modify j (fun e => { e with key := ptV p, val := .bool v })).map enp = (putL L p v).map enl) := by
  intro L
  induction L with
  | nil =>
    intro es i h
    cases es with
    | nil => exact .inl ⟨rfl, fun w => by simp [Instr.findAsking], fun v => rfl⟩
    | cons e es => simp at h
  | cons x L ih =>
    intro es i h
    cases es with
    | nil => simp at h
    | cons e es =>
      simp only [List.map_cons, List.cons.injEq] at h
      obtain ⟨h1, h2⟩ := h
      unfold enp enl at h1
      injection h1 with k1 k2
      by_cases hx : x.1 = p
      · refine .inr ⟨0, e, x.2, rfl, by rw [k1, hx], k2, by simp [look, hx], ?_, ?_⟩
        · intro w; simp [Instr.findAsking, k1, equal_pt, hx, k2, Result.andThen]
        · intro v
          simp only [List.modify_zero_cons, List.map_cons, h2, putL, if_pos hx]
          rfl
      · have hx' : ¬ p = x.1 := fun e => hx e.symm
        rcases ih es (i + 1) h2 with ⟨a1, a2, a3⟩ | ⟨j, e', c, b1, b2, b3, b4, b5, b6⟩
        · refine .inl ⟨by simp [look, hx, a1], fun w => ?_, fun v => by simp [putL, hx, a3]⟩
          simp [Instr.findAsking, k1, equal_pt, hx', Result.andThen, a2]
        · refine .inr ⟨j + 1, e', c, by simpa using b1, b2, b3, by simp [look, hx, b4], ?_, ?_⟩
          · intro w
            simp [Instr.findAsking, k1, equal_pt, hx', Result.andThen, b5]
            omega
          · intro v
            simp only [List.modify_succ_cons, List.map_cons, b6, putL, if_neg hx]
            unfold enp enl
            rw [k1, k2]
theorem mapT : Tryz.prog.underlying 107 = some (.map 145 4) := by kernel_rfl
theorem zeroB (w : World) : (zeroValue 4).run Tryz.prog w = .ok (.bool false) w := by kernel_rfl
theorem findKey_pt (p : Pt) (w : World) (L : List (Pt × Bool)) (es : List MapEntry) (h : es.map enp = L.map enl) : (Instr.findKey 145 (ptV p) es).run Tryz.prog w = (Instr.findAsking 145 (ptV p) es 0).run Tryz.prog w := by
  cases es with
  | nil => simp [Instr.findKey, run_underlying structPt, Instr.findNow, Instr.findAsking]
  | cons e es => simp [Instr.findKey, run_underlying structPt, Instr.findNow, Instr.sameNow]
theorem look_run {w : World} {b : Nat} {m : Pt → Option Bool} (h : MapAt w b m) (p : Pt) : (Instr.lookup 107 (.map (some b)) (ptV p) true).run Tryz.prog w = .ok (.tuple #[.bool ((m p).getD false), .bool (m p).isSome]) w := by
  obtain ⟨es, c, L, hb, he, hm⟩ := h
  rw [← hm p]
  rcases find_pt p L es.toList 0 he with ⟨a1, a2, _⟩ | ⟨j, e', v, b1, b2, b3, b4, b5, _⟩
  · simp [Instr.lookup, run_underlying mapT, MapKept.run_getObj_map hb, check_pt, findKey_pt p w L es.toList he, a1, a2, Result.andThen]
  · simp [Instr.lookup, run_underlying mapT, MapKept.run_getObj_map hb, check_pt, findKey_pt p w L es.toList he, b4, b5, Result.andThen]
theorem stays_pt (p : Pt) (w : World) : (Instr.keyThatStays (ptV p) (ptV p)).run Tryz.prog w = .ok (ptV p) w := by
  have : Instr.sameBits 10000 (ptV p) (ptV p) = true := by
    show Instr.sameBits (9998 + 2) (ptV p) (ptV p) = true
    unfold ptV
    simp [Instr.sameBits]
  simp [Instr.keyThatStays, this]
theorem store_run {w : World} {b : Nat} {m : Pt → Option Bool} (h : MapAt w b m) (p : Pt) (v : Bool) :
    ∃ o, (∀ w' : World, w'.heap[b]? = w.heap[b]? → (Instr.mapUpdate 107 (.map (some b)) (ptV p) (.bool v)).run Tryz.prog w' = .ok () (setBlock w' b o)) ∧
      ∀ w' : World, b < w'.heap.size → MapAt (setBlock w' b o) b (fun q => if p = q then some v else m q) := by
  obtain ⟨es, c, L, hb, he, hm⟩ := h
  rcases find_pt p L es.toList 0 he with ⟨a1, a2, a3⟩ | ⟨j, e', u, b1, b2, b3, b4, b5, b6⟩
  · refine ⟨.map (es.push { key := ptV p, val := .bool v, born := c }) (c + 1), fun w' hw => ?_, fun w' hlt => ?_⟩
    · have hb' : w'.heap[b]? = some (.map es c) := hw.trans hb
      simp [Instr.mapUpdate, run_underlying mapT, MapKept.run_getObj_map hb', check_pt, findKey_pt p w' L es.toList he, a2, MapKept.run_setObj_map _ hb', Result.andThen, setBlock]
    · refine ⟨es.push { key := ptV p, val := .bool v, born := c }, c + 1, putL L p v, by simp [setBlock, hlt], ?_, fun q => by rw [look_put, hm]⟩
      rw [a3]
      simp only [Array.toList_push, List.map_append]
      rw [he]
      rfl
  · refine ⟨.map (es.modify j (fun e => { e with key := ptV p, val := .bool v })) c, fun w' hw => ?_, fun w' hlt => ?_⟩
    · have hb' : w'.heap[b]? = some (.map es c) := hw.trans hb
      have hj : es[j]? = some e' := by simpa using b1
      simp [Instr.mapUpdate, run_underlying mapT, MapKept.run_getObj_map hb', check_pt, findKey_pt p w' L es.toList he, b5, hj, b2, stays_pt, MapKept.run_setObj_map _ hb', Result.andThen, setBlock]
    · refine ⟨es.modify j (fun e => { e with key := ptV p, val := .bool v }), c, putL L p v, by simp [setBlock, hlt], ?_, fun q => by rw [look_put, hm]⟩
      rw [Array.toList_modify]
      exact b6 v
end Go.Proofs.YtkgdhlpmlpbbkaaGreat

namespace Go.Proofs.YtkgdhlpmlpbbkaaGreat

section
variable {M : Mdl} {G : List Stp}

inductive Way (M : Mdl) (G : List Stp) : Nat → Pt → Pt → Prop
  | nil (x : Pt) : Way M G 0 x x
  | cons {n : Nat} {x y z : Pt} : Edge M G x y → Way M G n y z → Way M G (n + 1) x z
theorem Way.of {x y : Pt} (h : Star (Edge M G) x y) : ∃ n, Way M G n x y := by
  induction h with
  | refl i => exact ⟨0, .nil _⟩
  | head h _ ih => obtain ⟨n, hn⟩ := ih; exact ⟨n + 1, .cons h hn⟩
/-- At a stop that does something. -/
def Blkd (G : List Stp) (x : Pt) : Prop := ∃ p nx, G[x.1]? = some ⟨some p, nx⟩

theorem nx_one {p : Pg} {s a i : Nat} (h : G[s]? = some ⟨some p, [a]⟩) (hp : p = .skip) : nxp M G (s, i) = [(a, i)] := by subst hp; simp [nxp, h, after]
theorem nx_asg {v : UInt8} {e : Tm} {s a i : Nat} (h : G[s]? = some ⟨some (.asg v e), [a]⟩) : nxp M G (s, i) = [(a, M.a v e i)] := by simp [nxp, h, after]
theorem nx_asm {t : Tm} {s a i : Nat} (h : G[s]? = some ⟨some (.asm t), [a]⟩) : nxp M G (s, i) = if M.t t i = true then [(a, i)] else [] := by simp [nxp, h, after, gd]
theorem nx_cho {p q : Pg} {s a b i : Nat} (h : G[s]? = some ⟨some (.cho p q), [a, b]⟩) : nxp M G (s, i) = [(a, i), (b, i)] := by simp [nxp, h, after]
theorem nx_ite {t : Tm} {p q : Pg} {s a b i : Nat} (h : G[s]? = some ⟨some (.ite t p q), [a, b]⟩) : nxp M G (s, i) = if M.t t i = true then [(a, i)] else [(b, i)] := by simp [nxp, h, after, gd]
theorem nx_whl {t : Tm} {p : Pg} {s a b i : Nat} (h : G[s]? = some ⟨some (.whl t p), [a, b]⟩) : nxp M G (s, i) = if M.t t i = true then [(a, i)] else [(b, i)] := by simp [nxp, h, after, gd]

theorem Way.of_one {n : Nat} {x y z : Pt} (h : Way M G n x z) (hx : nxp M G x = [y]) (hz : nxp M G z = []) : ∃ k, n = k + 1 ∧ Way M G k y z := by
  cases h with
  | nil => rw [hx] at hz; cases hz
  | cons e w =>
    unfold Edge at e
    rw [hx] at e
    simp at e
    subst e
    exact ⟨_, rfl, w⟩
theorem Way.of_two {n : Nat} {x y y' z : Pt} (h : Way M G n x z) (hx : nxp M G x = [y, y']) (hz : nxp M G z = []) : ∃ k, n = k + 1 ∧ (Way M G k y z ∨ Way M G k y' z) := by
  cases h with
  | nil => rw [hx] at hz; cases hz
  | cons e w =>
    unfold Edge at e
    rw [hx] at e
    simp at e
    rcases e with rfl | rfl
    · exact ⟨_, rfl, .inl w⟩
    · exact ⟨_, rfl, .inr w⟩

theorem edge_one {x y : Pt} (h : nxp M G x = [y]) : Edge M G x y := by unfold Edge; rw [h]; simp

/-- A run of the program that ends is one of the graph. -/
theorem fin_way : ∀ (p : Pg) {s a i j : Nat}, Lay G p s a → Fin M p i j → Star (Edge M G) (s, i) (a, j) := by
  intro p
  induction p with
  | skip => intro s a i j h hf; rw [show j = i from hf]; exact .one (edge_one (nx_one h rfl))
  | asg v e => intro s a i j h hf; rw [show j = _ from hf]; exact .one (edge_one (nx_asg h))
  | asm t => intro s a i j h hf; obtain ⟨h1, rfl⟩ := hf; exact .one (edge_one (by rw [nx_asm h, if_pos h1]))
  | seq p q ihp ihq => rintro s a i j ⟨m, h1, h2⟩ ⟨k, hk, hf⟩; exact (ihp h1 hk).trans (ihq h2 hf)
  | ite t p q ihp ihq =>
    rintro s a i j ⟨m1, m2, h, h1, h2⟩ hf
    simp only [Fin] at hf
    by_cases ht : M.t t i = true
    · rw [if_pos ht] at hf
      exact .head (edge_one (by rw [nx_ite h, if_pos ht])) (ihp h1 hf)
    · rw [if_neg ht] at hf
      exact .head (edge_one (by rw [nx_ite h, if_neg ht])) (ihq h2 hf)
  | cho p q ihp ihq =>
    rintro s a i j ⟨m1, m2, h, h1, h2⟩ hf
    rcases hf with hf | hf
    · exact .head (by unfold Edge; rw [nx_cho h]; simp) (ihp h1 hf)
    · exact .head (j := (m2, i)) (by unfold Edge; rw [nx_cho h]; simp) (ihq h2 hf)
  | whl t p ihp =>
    rintro s a i j ⟨m, h, h1⟩ ⟨hs, ht⟩
    induction hs with
    | refl i => exact .one (edge_one (by rw [nx_whl h, if_neg (by simp [ht])]))
    | head hr _ ih => exact (Star.head (edge_one (by rw [nx_whl h, if_pos hr.1])) (ihp h1 hr.2)).trans (ih ht)
theorem whl_way {t : Tm} {p : Pg} {s m a i j : Nat} (h : G[s]? = some ⟨some (.whl t p), [m, a]⟩) (h1 : Lay G p m s) (hs : Star (fun u v => M.t t u = true ∧ Fin M p u v) i j) : Star (Edge M G) (s, i) (s, j) := by
  induction hs with
  | refl i => exact .refl _
  | head hr _ ih => exact (Star.head (edge_one (by rw [nx_whl h, if_pos hr.1])) (fin_way p h1 hr.2)).trans ih

/-- A run of the graph to a point behind which nothing comes is blocked within the program or comes out of it. -/
theorem way_fin {x : Pt} (hx : nxp M G x = []) : ∀ (n : Nat) (p : Pg) (s a i : Nat), Lay G p s a → Way M G n (s, i) x → (Stk M p i ∧ Blkd G x) ∨ ∃ m k, k < n ∧ Fin M p i m ∧ Way M G k (a, m) x := by
  intro n
  induction n using Nat.strongRecOn with
  | ind n ih =>
  intro p
  induction p with
  | skip =>
    intro s a i h hw
    obtain ⟨k, hk0, hw0⟩ := hw.of_one (nx_one h rfl) hx
    subst hk0; clear hw; have hw := hw0; clear hw0
    exact .inr ⟨i, k, by omega, rfl, hw⟩
  | asg v e =>
    intro s a i h hw
    obtain ⟨k, hk0, hw0⟩ := hw.of_one (nx_asg h) hx
    subst hk0; clear hw; have hw := hw0; clear hw0
    exact .inr ⟨_, k, by omega, rfl, hw⟩
  | asm t =>
    intro s a i h hw
    by_cases ht : M.t t i = true
    · obtain ⟨k, hk0, hw0⟩ := hw.of_one (by rw [nx_asm h, if_pos ht]) hx
      subst hk0; clear hw; have hw := hw0; clear hw0
      exact .inr ⟨i, k, by omega, ⟨ht, rfl⟩, hw⟩
    · have e := nx_asm (M := M) (i := i) h
      rw [if_neg ht] at e
      cases hw with
      | nil => exact .inl ⟨by simpa [Stk] using ht, _, _, h⟩
      | cons e' w => unfold Edge at e'; rw [e] at e'; cases e'
  | seq p q ihp ihq =>
    rintro s a i ⟨m, h1, h2⟩ hw
    rcases ihp s m i h1 hw with ⟨h3, h4⟩ | ⟨m', k, hk, hf, hw⟩
    · exact .inl ⟨.inl h3, h4⟩
    · rcases ih k hk q m a m' h2 hw with ⟨h3, h4⟩ | ⟨j, k', hk', hf', hw⟩
      · exact .inl ⟨.inr ⟨m', hf, h3⟩, h4⟩
      · exact .inr ⟨j, k', by omega, ⟨m', hf, hf'⟩, hw⟩
  | ite t p q ihp ihq =>
    rintro s a i ⟨m1, m2, h, h1, h2⟩ hw
    by_cases ht : M.t t i = true
    · obtain ⟨k, hk0, hw0⟩ := hw.of_one (by rw [nx_ite h, if_pos ht]) hx
      subst hk0; clear hw; have hw := hw0; clear hw0
      rcases ih k (by omega) p _ _ _ h1 hw with ⟨h3, h4⟩ | ⟨j, k', hk', hf', hw⟩
      · exact .inl ⟨by simp only [Stk]; rw [if_pos ht]; exact h3, h4⟩
      · exact .inr ⟨j, k', by omega, by simp only [Fin]; rw [if_pos ht]; exact hf', hw⟩
    · obtain ⟨k, hk0, hw0⟩ := hw.of_one (by rw [nx_ite h, if_neg ht]) hx
      subst hk0; clear hw; have hw := hw0; clear hw0
      rcases ih k (by omega) q _ _ _ h2 hw with ⟨h3, h4⟩ | ⟨j, k', hk', hf', hw⟩
      · exact .inl ⟨by simp only [Stk]; rw [if_neg ht]; exact h3, h4⟩
      · exact .inr ⟨j, k', by omega, by simp only [Fin]; rw [if_neg ht]; exact hf', hw⟩
  | cho p q ihp ihq =>
    rintro s a i ⟨m1, m2, h, h1, h2⟩ hw
    obtain ⟨k, hk0, hw0⟩ := hw.of_two (nx_cho h) hx
    subst hk0; clear hw; have hw := hw0; clear hw0
    rcases hw with hw | hw
    · rcases ih k (by omega) p _ _ _ h1 hw with ⟨h3, h4⟩ | ⟨j, k', hk', hf', hw⟩
      · exact .inl ⟨.inl h3, h4⟩
      · exact .inr ⟨j, k', by omega, .inl hf', hw⟩
    · rcases ih k (by omega) q _ _ _ h2 hw with ⟨h3, h4⟩ | ⟨j, k', hk', hf', hw⟩
      · exact .inl ⟨.inr h3, h4⟩
      · exact .inr ⟨j, k', by omega, .inr hf', hw⟩
  | whl t p ihp =>
    rintro s a i ⟨m, h, h1⟩ hw
    by_cases ht : M.t t i = true
    · obtain ⟨k, hk0, hw0⟩ := hw.of_one (by rw [nx_whl h, if_pos ht]) hx
      subst hk0; clear hw; have hw := hw0; clear hw0
      rcases ih k (by omega) p _ _ _ h1 hw with ⟨h3, h4⟩ | ⟨j, k', hk', hf', hw⟩
      · exact .inl ⟨⟨i, .refl _, ht, h3⟩, h4⟩
      · rcases ih k' (by omega) (.whl t p) s a j ⟨m, h, h1⟩ hw with ⟨⟨j2, h3, h5, h6⟩, h4⟩ | ⟨j2, k2, hk2, ⟨hf2, ht2⟩, hw⟩
        · exact .inl ⟨⟨j2, .head ⟨ht, hf'⟩ h3, h5, h6⟩, h4⟩
        · exact .inr ⟨j2, k2, by omega, ⟨.head ⟨ht, hf'⟩ hf2, ht2⟩, hw⟩
    · obtain ⟨k, hk0, hw0⟩ := hw.of_one (by rw [nx_whl h, if_neg ht]) hx
      subst hk0; clear hw; have hw := hw0; clear hw0
      exact .inr ⟨i, k, by omega, ⟨.refl _, by simpa using ht⟩, hw⟩

theorem stk_way : ∀ (p : Pg) {s a i : Nat}, Lay G p s a → Stk M p i → ∃ x, Star (Edge M G) (s, i) x ∧ nxp M G x = [] ∧ Blkd G x := by
  intro p
  induction p with
  | skip => intro s a i h hf; cases hf
  | asg v e => intro s a i h hf; cases hf
  | asm t =>
    intro s a i h hf
    exact ⟨(s, i), .refl _, by rw [nx_asm h, if_neg (by simpa [Stk] using hf)], _, _, h⟩
  | seq p q ihp ihq =>
    rintro s a i ⟨m, h1, h2⟩ hf
    rcases hf with hf | ⟨k, hk, hf⟩
    · exact ihp h1 hf
    · obtain ⟨x, h3, h4⟩ := ihq h2 hf
      exact ⟨x, (fin_way p h1 hk).trans h3, h4⟩
  | ite t p q ihp ihq =>
    rintro s a i ⟨m1, m2, h, h1, h2⟩ hf
    simp only [Stk] at hf
    by_cases ht : M.t t i = true
    · rw [if_pos ht] at hf
      obtain ⟨x, h3, h4⟩ := ihp h1 hf
      exact ⟨x, .head (edge_one (by rw [nx_ite h, if_pos ht])) h3, h4⟩
    · rw [if_neg ht] at hf
      obtain ⟨x, h3, h4⟩ := ihq h2 hf
      exact ⟨x, .head (edge_one (by rw [nx_ite h, if_neg ht])) h3, h4⟩
  | cho p q ihp ihq =>
    rintro s a i ⟨m1, m2, h, h1, h2⟩ hf
    rcases hf with hf | hf
    · obtain ⟨x, h3, h4⟩ := ihp h1 hf
      exact ⟨x, .head (by unfold Edge; rw [nx_cho h]; simp) h3, h4⟩
    · obtain ⟨x, h3, h4⟩ := ihq h2 hf
      exact ⟨x, .head (j := (m2, i)) (by unfold Edge; rw [nx_cho h]; simp) h3, h4⟩
  | whl t p ihp =>
    rintro s a i ⟨m, h, h1⟩ ⟨j, hs, ht, hf⟩
    obtain ⟨x, h3, h4⟩ := ihp h1 hf
    exact ⟨x, ((whl_way h h1 hs).tail (edge_one (by rw [nx_whl h, if_pos ht]))).trans h3, h4⟩

/-! ### Runs that go on for ever -/
def Inf (M : Mdl) (G : List Stp) (x : Pt) : Prop := ∃ S : Pt → Prop, S x ∧ ∀ y, S y → ∃ z, Edge M G y z ∧ S z
theorem Inf.step {x : Pt} (h : Inf M G x) : ∃ z, Edge M G x z ∧ Inf M G z := by
  obtain ⟨S, hx, hS⟩ := h
  obtain ⟨z, h1, h2⟩ := hS x hx
  exact ⟨z, h1, S, h2, hS⟩
theorem Inf.back {x z : Pt} (h : Edge M G x z) (hz : Inf M G z) : Inf M G x := by
  obtain ⟨S, h1, hS⟩ := hz
  refine ⟨fun y => y = x ∨ S y, .inl rfl, ?_⟩
  rintro y (rfl | hy)
  · exact ⟨z, h, .inr h1⟩
  · obtain ⟨u, h2, h3⟩ := hS y hy
    exact ⟨u, h2, .inr h3⟩
theorem Inf.star {x z : Pt} (h : Star (Edge M G) x z) (hz : Inf M G z) : Inf M G x := by
  induction h with
  | refl => exact hz
  | head h _ ih => exact (ih hz).back h
theorem Inf.upto {S : Pt → Prop} (hS : ∀ y, S y → ∃ z u, Edge M G y z ∧ Star (Edge M G) z u ∧ (S u ∨ Inf M G u)) {x : Pt} (hx : S x) : Inf M G x := by
  refine ⟨fun z => Inf M G z ∨ ∃ u, Star (Edge M G) z u ∧ S u, .inr ⟨x, .refl _, hx⟩, ?_⟩
  rintro y (hy | ⟨u, hs, hu⟩)
  · obtain ⟨z, h1, h2⟩ := hy.step
    exact ⟨z, h1, .inl h2⟩
  · cases hs with
    | refl =>
      obtain ⟨z, u', h1, h2, h3 | h3⟩ := hS _ hu
      · exact ⟨z, h1, .inr ⟨u', h2, h3⟩⟩
      · exact ⟨z, h1, .inl (h3.star h2)⟩
    | head h1 h2 => exact ⟨_, h1, .inr ⟨u, h2, hu⟩⟩
/-- A way round. -/
theorem Inf.round {x y : Pt} (h : Edge M G x y) (h' : Star (Edge M G) y x) : Inf M G x := Inf.upto (S := fun z => z = x) (by rintro z rfl; exact ⟨y, z, h, h', .inl rfl⟩) rfl
theorem not_inf_of {x : Pt} (h : ∀ y, Edge M G x y → ¬ Inf M G y) : ¬ Inf M G x := by
  intro hx
  obtain ⟨z, h1, h2⟩ := hx.step
  exact h z h1 h2

theorem lps_inf : ∀ (p : Pg) {s a i : Nat}, Lay G p s a → Lps M p i → Inf M G (s, i) := by
  intro p
  induction p with
  | skip => intro s a i h hf; cases hf
  | asg v e => intro s a i h hf; cases hf
  | asm t => intro s a i h hf; cases hf
  | seq p q ihp ihq =>
    rintro s a i ⟨m, h1, h2⟩ hf
    rcases hf with hf | ⟨k, hk, hf⟩
    · exact ihp h1 hf
    · exact (ihq h2 hf).star (fin_way p h1 hk)
  | ite t p q ihp ihq =>
    rintro s a i ⟨m1, m2, h, h1, h2⟩ hf
    simp only [Lps] at hf
    by_cases ht : M.t t i = true
    · rw [if_pos ht] at hf
      exact (ihp h1 hf).back (edge_one (by rw [nx_ite h, if_pos ht]))
    · rw [if_neg ht] at hf
      exact (ihq h2 hf).back (edge_one (by rw [nx_ite h, if_neg ht]))
  | cho p q ihp ihq =>
    rintro s a i ⟨m1, m2, h, h1, h2⟩ hf
    rcases hf with hf | hf
    · exact (ihp h1 hf).back (by unfold Edge; rw [nx_cho h]; simp)
    · exact Inf.back (z := (m2, i)) (by unfold Edge; rw [nx_cho h]; simp) (ihq h2 hf)
  | whl t p ihp =>
    rintro s a i ⟨m, h, h1⟩ ⟨j, hs, ht, hf⟩
    refine Inf.star (whl_way h h1 hs) ?_
    rcases hf with hf | ⟨S, hj, hS⟩
    · exact (ihp h1 hf).back (edge_one (by rw [nx_whl h, if_pos ht]))
    · refine Inf.upto (S := fun y => ∃ u, y = (s, u) ∧ S u) ?_ ⟨j, rfl, hj⟩
      rintro y ⟨u, rfl, hu⟩
      obtain ⟨h2, v, h3, h4⟩ := hS u hu
      exact ⟨(m, u), (s, v), edge_one (by rw [nx_whl h, if_pos h2]), fin_way p h1 h3, .inl ⟨v, rfl, h4⟩⟩

theorem inf_one {x y : Pt} (h : Inf M G x) (hx : nxp M G x = [y]) : Inf M G y := by
  obtain ⟨z, h1, h2⟩ := h.step
  unfold Edge at h1
  rw [hx] at h1
  simp at h1
  subst h1
  exact h2
theorem inf_lps : ∀ (p : Pg) {s a i : Nat}, Lay G p s a → Inf M G (s, i) → Lps M p i ∨ ∃ m, Fin M p i m ∧ Inf M G (a, m) := by
  intro p
  induction p with
  | skip => intro s a i h hf; exact .inr ⟨i, rfl, inf_one hf (nx_one h rfl)⟩
  | asg v e => intro s a i h hf; exact .inr ⟨_, rfl, inf_one hf (nx_asg h)⟩
  | asm t =>
    intro s a i h hf
    by_cases ht : M.t t i = true
    · exact .inr ⟨i, ⟨ht, rfl⟩, inf_one hf (by rw [nx_asm h, if_pos ht])⟩
    · obtain ⟨z, h1, _⟩ := hf.step
      unfold Edge at h1
      rw [nx_asm h, if_neg ht] at h1
      cases h1
  | seq p q ihp ihq =>
    rintro s a i ⟨m, h1, h2⟩ hf
    rcases ihp h1 hf with h3 | ⟨k, h3, h4⟩
    · exact .inl (.inl h3)
    · rcases ihq h2 h4 with h5 | ⟨j, h5, h6⟩
      · exact .inl (.inr ⟨k, h3, h5⟩)
      · exact .inr ⟨j, ⟨k, h3, h5⟩, h6⟩
  | ite t p q ihp ihq =>
    rintro s a i ⟨m1, m2, h, h1, h2⟩ hf
    simp only [Lps, Fin]
    by_cases ht : M.t t i = true
    · simp only [if_pos ht]
      exact ihp h1 (inf_one hf (by rw [nx_ite h, if_pos ht]))
    · simp only [if_neg ht]
      exact ihq h2 (inf_one hf (by rw [nx_ite h, if_neg ht]))
  | cho p q ihp ihq =>
    rintro s a i ⟨m1, m2, h, h1, h2⟩ hf
    obtain ⟨z, h3, h4⟩ := hf.step
    unfold Edge at h3
    rw [nx_cho h] at h3
    simp at h3
    rcases h3 with rfl | rfl
    · rcases ihp h1 h4 with h5 | ⟨k, h5, h6⟩
      · exact .inl (.inl h5)
      · exact .inr ⟨k, .inl h5, h6⟩
    · rcases ihq h2 h4 with h5 | ⟨k, h5, h6⟩
      · exact .inl (.inr h5)
      · exact .inr ⟨k, .inr h5, h6⟩
  | whl t p ihp =>
    rintro s a i ⟨m, h, h1⟩ hf
    by_cases hout : ∃ k, Fin M (.whl t p) i k ∧ Inf M G (a, k)
    · exact .inr hout
    by_cases hin : ∃ j, Star (fun u v => M.t t u = true ∧ Fin M p u v) i j ∧ M.t t j = true ∧ Lps M p j
    · obtain ⟨j, h3, h4, h5⟩ := hin
      exact .inl ⟨j, h3, h4, .inl h5⟩
    have key : ∀ u, (Star (fun u v => M.t t u = true ∧ Fin M p u v) i u ∧ Inf M G (s, u)) → M.t t u = true ∧ ∃ v, Fin M p u v ∧ (Star (fun u v => M.t t u = true ∧ Fin M p u v) i v ∧ Inf M G (s, v)) := by
      rintro u ⟨h3, h4⟩
      by_cases ht : M.t t u = true
      · refine ⟨ht, ?_⟩
        rcases ihp h1 (inf_one h4 (by rw [nx_whl h, if_pos ht])) with h5 | ⟨v, h5, h6⟩
        · exact absurd ⟨u, h3, ht, h5⟩ hin
        · exact ⟨v, h5, h3.tail ⟨ht, h5⟩, h6⟩
      · exact absurd ⟨u, ⟨h3, by simpa using ht⟩, inf_one h4 (by rw [nx_whl h, if_neg ht])⟩ hout
    have h0 := key i ⟨.refl _, hf⟩
    exact .inl ⟨i, .refl _, h0.1, .inr ⟨_, ⟨.refl _, hf⟩, key⟩⟩

/-! ### A program that leads to the end -/
/-- The end is stop 0, all others do something. -/
def Top (G : List Stp) : Prop := G[0]? = some ⟨none, []⟩ ∧ ∀ k s, 0 < k → G[k]? = some s → s.d ≠ none
theorem nx_end {i : Nat} (h : Top G) : nxp M G (0, i) = [] := by simp [nxp, h.1, after]
theorem fin_iff {p : Pg} {s i j : Nat} (hT : Top G) (h : Lay G p s 0) : Star (Edge M G) (s, i) (0, j) ↔ Fin M p i j := by
  constructor
  · intro hs
    obtain ⟨n, hn⟩ := Way.of hs
    rcases way_fin (nx_end hT) n p s 0 i h hn with ⟨_, q, nx, h2⟩ | ⟨m, k, hk, hf, hw⟩
    · rw [hT.1] at h2; simp at h2
    · cases hw with
      | nil => exact hf
      | cons e w => unfold Edge at e; rw [nx_end hT] at e; cases e
  · exact fin_way p h
theorem stk_iff {p : Pg} {s i : Nat} (hT : Top G) (h : Lay G p s 0) : (∃ x, Star (Edge M G) (s, i) x ∧ nxp M G x = [] ∧ x.1 ≠ 0) ↔ Stk M p i := by
  constructor
  · rintro ⟨x, hs, hx, h0⟩
    obtain ⟨n, hn⟩ := Way.of hs
    rcases way_fin hx n p s 0 i h hn with ⟨h1, _⟩ | ⟨m, k, hk, hf, hw⟩
    · exact h1
    · cases hw with
      | nil => exact absurd rfl h0
      | cons e w => unfold Edge at e; rw [nx_end hT] at e; cases e
  · intro hs
    obtain ⟨x, h1, h2, q, nx, h3⟩ := stk_way p h hs
    refine ⟨x, h1, h2, fun e => ?_⟩
    rw [e, hT.1] at h3
    simp at h3
theorem lps_iff {p : Pg} {s i : Nat} (hT : Top G) (h : Lay G p s 0) : Inf M G (s, i) ↔ Lps M p i := by
  constructor
  · intro hi
    rcases inf_lps p h hi with h1 | ⟨m, _, h2⟩
    · exact h1
    · obtain ⟨z, h3, _⟩ := h2.step
      unfold Edge at h3; rw [nx_end hT] at h3; cases h3
  · exact lps_inf p h
end
end Go.Proofs.YtkgdhlpmlpbbkaaGreat

namespace Go.Proofs.YtkgdhlpmlpbbkaaGreat
open Go.RowKit

def mdl : Mdl := ⟨asg, tst⟩

/-! ### Rows of points -/
def ptC (l : List Pt) : List Value := l.flatMap fun p => [.int .i64 p.1, .int .i64 p.2]
theorem ptC_len (l : List Pt) : (ptC l).length = l.length * 2 := by
  induction l with
  | nil => rfl
  | cons x l ih => unfold ptC at *; simp [ih]; omega
theorem ptC_app (l l' : List Pt) : ptC (l ++ l') = ptC l ++ ptC l' := by simp [ptC]
theorem ptC_get : ∀ {l : List Pt} {k : Nat} {p : Pt}, l[k]? = some p → (ptC l)[k * 2]? = some (.int .i64 p.1) ∧ (ptC l)[k * 2 + 1]? = some (.int .i64 p.2) := by
  intro l
  induction l with
  | nil => intro k p h; simp at h
  | cons x l ih =>
    intro k p h
    cases k with
    | zero => simp at h; subst h; exact ⟨rfl, rfl⟩
    | succ k =>
      have h' := ih (by simpa using h)
      rw [show ptC (x :: l) = [.int .i64 x.1, .int .i64 x.2] ++ ptC l from rfl, show (k + 1) * 2 = 2 + k * 2 by omega]
      refine ⟨?_, ?_⟩ <;> rw [List.getElem?_append_right (by show 2 ≤ _; omega)]
      · rw [show 2 + k * 2 - [Value.int .i64 (x.1 : Int), .int .i64 x.2].length = k * 2 by simp]; exact h'.1
      · rw [show 2 + k * 2 + 1 - [Value.int .i64 (x.1 : Int), .int .i64 x.2].length = k * 2 + 1 by show 2 + k * 2 + 1 - 2 = _; omega]; exact h'.2
def PRow (w : World) (B : Nat) (v : Value) (l : List Pt) : Prop := w.ownsRow B 145 2 v l.length (ptC l)
theorem infoPt : (Tryz.prog.info? 145).map (fun i => (i.zero, i.size, i.bytes)) = some (some (.agg #[.int .i64 0, .int .i64 0]), 2, 16) := by kernel_rfl
theorem PRow.nil (w : World) (B : Nat) : PRow w B (.slice none 0 0) [] := ⟨rfl, .inl ⟨rfl, rfl⟩⟩
theorem PRow.nil0 (w : World) (B : Nat) : w.ownsRow B 145 2 (.slice none 0 0) 0 [] := ⟨rfl, .inl ⟨rfl, rfl⟩⟩
def FollPost (l : List Pt) (w : World) (e : Ending) (w' : World) : Prop := ∃ v, e = .returned v ∧ PRow w' w.heap.size v l ∧ Below w.heap.size w w'

/-! ### The slice of the numbers that come next -/
def NxS (w : World) (v : Value) (l : List Nat) : Prop := ∃ a cap, v = .slice a l.length cap ∧ l.length ≤ cap ∧ (l = [] ∨ ∃ b o, a = some ⟨b, o, none⟩ ∧ ∀ j n, l[j]? = some n → w.cell? ⟨b, o + j, none⟩ = some (.int .i64 (n : Nat)))
theorem NxS.kept {w w' : World} {v : Value} {l : List Nat} (h : NxS w v l) (hb : Below w.heap.size w w') : NxS w' v l := by
  obtain ⟨a, cap, h1, h2, h3⟩ := h
  refine ⟨a, cap, h1, h2, ?_⟩
  rcases h3 with h3 | ⟨b, o, h3, h4⟩
  · exact .inl h3
  · exact .inr ⟨b, o, h3, fun j n hj => ckeep hb (h4 j n hj)⟩

def StopR (w : World) (B : Nat) (s : Stp) (x y : Value) : Prop :=
  match s.d with
  | none => x = .nilIface ∧ y = .slice none 0 0 ∧ s.nx = []
  | some p => StV w B p x ∧ ∃ b, y = .slice (some ⟨b, 0, none⟩) s.nx.length s.nx.length ∧ ∀ j n, s.nx[j]? = some n → w.cell? ⟨b, j, none⟩ = some (.int .i64 (n : Nat))
/-- The flow with these stops. -/
def FlowR (w : World) (B : Nat) (sp : Value) (G : List Stp) : Prop := ∃ rb cap, sp = .slice (some ⟨rb, 0, none⟩) G.length cap ∧ G.length ≤ cap ∧ ∀ k s, G[k]? = some s → ∃ x y, w.cell? ⟨rb, k * 2, none⟩ = some x ∧ w.cell? ⟨rb, k * 2 + 1, none⟩ = some y ∧ StopR w B s x y

set_option maxRecDepth 100000 in
set_option maxHeartbeats 4000000 in
theorem foll_plain (rb : Nat) (n cap k : Nat) (st : Int) (i : Nat) (x z z2 : Value) (a : Option Addr) (c2 : Nat) (l : List Nat) (w : World) (hk : k < n) (_hc : n ≤ cap) (hl : l.length ≤ 2)
    (hx : w.cell? ⟨rb, k * 2, none⟩ = some x) (hy : w.cell? ⟨rb, k * 2 + 1, none⟩ = some (.slice a l.length c2)) (hn : NxS w (.slice a l.length c2) l)
    (ta : ∀ W, (Instr.typeAssert x 94 119 true).run Tryz.prog W = .ok (.tuple #[z, .bool false]) W)
    (tg : ∀ W, (Instr.typeAssert x 94 198 true).run Tryz.prog W = .ok (.tuple #[z2, .bool false]) W) :
    Calls Tryz.prog 136 #[.agg #[.slice (some ⟨rb, 0, none⟩) n cap, .int .i64 st], .agg #[.int .i64 k, .int .i64 i]] w (FollPost (l.map (·, i)) w) := by
  obtain ⟨i0, hi0, hz0, hz1, hz2⟩ := info_parts infoPt
  have W1 := Blk.new w #[.slice (some ⟨rb, 0, none⟩) n cap, .int .i64 st] 70
  have b1 := (Below.refl w.heap.size w).alloc (Nat.le_refl _) (.cells #[.slice (some ⟨rb, 0, none⟩) n cap, .int .i64 st] 70)
  have W2 := Blk.new (w.alloc (.cells #[.slice (some ⟨rb, 0, none⟩) n cap, .int .i64 st] 70)) #[.int .i64 k, .int .i64 i] 145
  have b2 := b1.alloc (by simp) (.cells #[.int .i64 k, .int .i64 i] 145)
  have W1' := W1.alloc (.cells #[.int .i64 k, .int .i64 i] 145)
  have e0 : (w.alloc (.cells #[.slice (some ⟨rb, 0, none⟩) n cap, .int .i64 st] 70)).heap.size = w.heap.size + 1 := by simp
  rw [e0] at W2
  clear W1 b1 e0
  go_enter Tryz.func136, Tryz.ntmps136
  go_wp2_with fail
  generalize (w.alloc (.cells #[.slice (some ⟨rb, 0, none⟩) n cap, .int .i64 st] 70)).alloc (.cells #[.int .i64 k, .int .i64 i] 145) = w0 at *
  have j0 := W1'.cell 0
  have j1 := W1'.cell 1
  have p0 := W2.cell 0
  have p1 := W2.cell 1
  simp at j0 j1 p0 p1
  have hx0 := ckeep b2 hx
  have hy0 := ckeep b2 hy
  have hkc : (k : Int) < n := by omega
  have HNK := Lib.hid hn
  have B2 := Lib.hid b2
  clear hn b2 hx hy W1' W2
  go_quiet (fail)
  go_wp2_with fail
  have HB0 := Lib.hid (bdrewN B2.out nq)
  clear B2
  generalize w0.drewN nq = wl at *
  go_loopw [9, 47] (fun v j wr => ∃ k : Nat, k ≤ l.length ∧ j = .int .i64 k ∧ Hid (PRow wr w.heap.size v ((l.take k).map (·, i))) ∧ Hid (Below w.heap.size w wr)) (fun _ j _ => l.length - (intOf j).toNat)
  case atStart => exact ⟨0, by omega, rfl, PRow.nil _ _, HB0⟩
  case round =>
    clear HB0
    obtain ⟨k, hk, rfl, HR, HB⟩ := hrel
    by_cases hlt : k < l.length
    · have hlt2 : (k : Int) < l.length := by omega
      obtain ⟨a', cap', e1, h4, h5⟩ := HNK.out.kept HB.out
      injection e1 with e1 _ e2
      subst e1 e2
      rcases h5 with h5 | ⟨b, o, h5, h6⟩
      · rw [h5] at hlt; simp at hlt
      subst h5
      have hc := h6 k l[k] (List.getElem?_eq_getElem hlt)
      have HS := Lib.hid (List.take_succ_eq_append_getElem hlt)
      generalize l[k] = m at hc HS
      clear h6
      have hlen : ((l.take k).map (fun x => ((x, i) : Pt))).length = k := by simp; omega
      have HL := Lib.hid hlen
      have HR2 := Lib.hid (show wr.ownsRow w.heap.size 145 2 u9 k (ptC ((l.take k).map (fun x => ((x, i) : Pt)))) from by have := HR.out; unfold PRow at this; rw [HL.out] at this; exact this)
      clear HR hlen
      go_wp2_with (at_builtin; refine wpList_append_lies _ (by rfl) _ _ _ (by rfl) w.heap.size 145 i0 _ 2 16 Tryz.underlying179 hi0 hz0 hz1 hz2 rfl (by omega) _ _ _ (by rfl) (World.ownsRow.alloc HR2.out _) ⟨wr.heap.size, 0, none⟩ 1 1 [.int .i64 (m : Int), .int .i64 (i : Int)] (by rfl) (by rfl) (World.news_of_block (cs := #[.int .i64 (m : Int), .int .i64 (i : Int)]) (t := 145) (fr := (0, 0)) (heap_alloc_new wr _)) (by simp [Value.oneCell']) (by omega) (by unfold maxLen; omega) (by omega) (by have := HB.out.size; simp; omega) (wr.heap.size + 1) (by simp) ?_; intro g3 cap3 w3 hown hgrow hat hlt3)
      have hb3 := (HB.out.alloc HB.out.size _).grown hgrow (by have := HB.out.size; simp; omega) (fun k hk => (World.ownsRow.lt HR2.out k hk).1)
      refine ⟨⟨k + 1, by omega, by go_num, ?_, hb3⟩, by simp [intOf]; omega⟩
      show w3.ownsRow _ _ _ _ _ _
      rw [HS.out, List.map_append, ptC_app]
      simp only [List.length_append, HL.out]
      exact hown
    · have hk2 : k = l.length := by omega
      subst hk2
      have HR2 := Lib.hid (show PRow wr w.heap.size u9 (l.map (·, i)) from by have := HR.out; rwa [List.take_length] at this)
      clear HR
      go_wp2_with fail
      go_ret
      exact ⟨_, rfl, HR2.out, HB.out⟩
set_option maxRecDepth 100000 in
set_option maxHeartbeats 4000000 in
theorem foll_asg (rb : Nat) (n cap k : Nat) (st : Int) (i : Nat) (v : UInt8) (xc : Int) (ya : Option Addr) (yn ym : Nat) (a : Option Addr) (c2 : Nat) (l : List Nat) (sv : Nat) (w : World) (hk : k < n) (_hc : n ≤ cap) (hl : l.length ≤ 2)
    (hx : w.cell? ⟨rb, k * 2, none⟩ = some (.iface 119 (.agg #[.string (bs [v]), .int .u8 xc, .slice ya yn ym]))) (hy : w.cell? ⟨rb, k * 2 + 1, none⟩ = some (.slice a l.length c2)) (hn : NxS w (.slice a l.length c2) l)
    (S : ∀ w', Below w.heap.size w w' → Calls Tryz.prog 149 #[.agg #[.string (bs [v]), .int .u8 xc, .slice ya yn ym], .int .i64 i] w' fun e w2 => e = .returned (.int .i64 (sv : Nat)) ∧ Below w'.heap.size w' w2) :
    Calls Tryz.prog 136 #[.agg #[.slice (some ⟨rb, 0, none⟩) n cap, .int .i64 st], .agg #[.int .i64 k, .int .i64 i]] w (FollPost (l.map (·, sv)) w) := by
  have HS := Lib.hid S
  clear S
  have ta := tas_asg_asg (.agg #[.string (bs [v]), .int .u8 xc, .slice ya yn ym])
  obtain ⟨i0, hi0, hz0, hz1, hz2⟩ := info_parts infoPt
  have W1 := Blk.new w #[.slice (some ⟨rb, 0, none⟩) n cap, .int .i64 st] 70
  have b1 := (Below.refl w.heap.size w).alloc (Nat.le_refl _) (.cells #[.slice (some ⟨rb, 0, none⟩) n cap, .int .i64 st] 70)
  have W2 := Blk.new (w.alloc (.cells #[.slice (some ⟨rb, 0, none⟩) n cap, .int .i64 st] 70)) #[.int .i64 k, .int .i64 i] 145
  have b2 := b1.alloc (by simp) (.cells #[.int .i64 k, .int .i64 i] 145)
  have W1' := W1.alloc (.cells #[.int .i64 k, .int .i64 i] 145)
  have e0 : (w.alloc (.cells #[.slice (some ⟨rb, 0, none⟩) n cap, .int .i64 st] 70)).heap.size = w.heap.size + 1 := by simp
  rw [e0] at W2
  clear W1 b1 e0
  go_enter Tryz.func136, Tryz.ntmps136
  go_wp2_with fail
  generalize (w.alloc (.cells #[.slice (some ⟨rb, 0, none⟩) n cap, .int .i64 st] 70)).alloc (.cells #[.int .i64 k, .int .i64 i] 145) = w0 at *
  have j0 := W1'.cell 0
  have j1 := W1'.cell 1
  have p0 := W2.cell 0
  have p1 := W2.cell 1
  simp at j0 j1 p0 p1
  have hx0 := ckeep b2 hx
  have hy0 := ckeep b2 hy
  have hkc : (k : Int) < n := by omega
  have HNK := Lib.hid hn
  have B2 := Lib.hid b2
  clear hn b2 hx hy W1' W2
  go_quiet (fail)
  have k0 : (w0.drewN nq).cell? ⟨w.heap.size, 0, none⟩ = _ := j0
  have k1 : (w0.drewN nq).cell? ⟨w.heap.size, 1, none⟩ = _ := j1
  have k2 : (w0.drewN nq).cell? ⟨w.heap.size + 1, 0, none⟩ = _ := p0
  have k3 : (w0.drewN nq).cell? ⟨rb, k * 2, none⟩ = _ := hx0
  have B2' := Lib.hid (bdrewN B2.out nq)
  clear j0 j1 p0 p1 hx0 hy0 B2
  generalize w0.drewN nq = wq at *
  go_wp2_with fail
  have b3 := B2'.out.alloc (by have := B2'.out.size; omega) (.cells #[.string (bs [v]), .int .u8 xc, .slice ya yn ym] 119)
  refine (HS.out _ b3).mono ?_
  rintro e w2 ⟨rfl, hq⟩
  have B3 := Lib.hid (bnext b3 hq)
  clear b3 hq B2'
  go_wp2_with fail
  have HB0 := B3
  clear B3
  go_loopw [9, 47] (fun v j wr => ∃ k : Nat, k ≤ l.length ∧ j = .int .i64 k ∧ Hid (PRow wr w.heap.size v ((l.take k).map (·, sv))) ∧ Hid (Below w.heap.size w wr)) (fun _ j _ => l.length - (intOf j).toNat)
  case atStart => exact ⟨0, by omega, rfl, PRow.nil _ _, HB0⟩
  case round =>
    clear HB0
    obtain ⟨k, hk, rfl, HR, HB⟩ := hrel
    by_cases hlt : k < l.length
    · have hlt2 : (k : Int) < l.length := by omega
      obtain ⟨a', cap', e1, h4, h5⟩ := HNK.out.kept HB.out
      injection e1 with e1 _ e2
      subst e1 e2
      rcases h5 with h5 | ⟨b, o, h5, h6⟩
      · rw [h5] at hlt; simp at hlt
      subst h5
      have hc := h6 k l[k] (List.getElem?_eq_getElem hlt)
      have HS := Lib.hid (List.take_succ_eq_append_getElem hlt)
      generalize l[k] = m at hc HS
      clear h6
      have hlen : ((l.take k).map (fun x => ((x, sv) : Pt))).length = k := by simp; omega
      have HL := Lib.hid hlen
      have HR2 := Lib.hid (show wr.ownsRow w.heap.size 145 2 u9 k (ptC ((l.take k).map (fun x => ((x, sv) : Pt)))) from by have := HR.out; unfold PRow at this; rw [HL.out] at this; exact this)
      clear HR hlen
      go_wp2_with (at_builtin; refine wpList_append_lies _ (by rfl) _ _ _ (by rfl) w.heap.size 145 i0 _ 2 16 Tryz.underlying179 hi0 hz0 hz1 hz2 rfl (by omega) _ _ _ (by rfl) (World.ownsRow.alloc HR2.out _) ⟨wr.heap.size, 0, none⟩ 1 1 [.int .i64 (m : Int), .int .i64 (sv : Int)] (by rfl) (by rfl) (World.news_of_block (cs := #[.int .i64 (m : Int), .int .i64 (sv : Int)]) (t := 145) (fr := (0, 0)) (heap_alloc_new wr _)) (by simp [Value.oneCell']) (by omega) (by unfold maxLen; omega) (by omega) (by have := HB.out.size; simp; omega) (wr.heap.size + 1) (by simp) ?_; intro g3 cap3 w3 hown hgrow hat hlt3)
      have hb3 := (HB.out.alloc HB.out.size _).grown hgrow (by have := HB.out.size; simp; omega) (fun k hk => (World.ownsRow.lt HR2.out k hk).1)
      refine ⟨⟨k + 1, by omega, by go_num, ?_, hb3⟩, by simp [intOf]; omega⟩
      show w3.ownsRow _ _ _ _ _ _
      rw [HS.out, List.map_append, ptC_app]
      simp only [List.length_append, HL.out]
      exact hown
    · have hk2 : k = l.length := by omega
      subst hk2
      have HR2 := Lib.hid (show PRow wr w.heap.size u9 (l.map (·, sv)) from by have := HR.out; rwa [List.take_length] at this)
      clear HR
      go_wp2_with fail
      go_ret
      exact ⟨_, rfl, HR2.out, HB.out⟩
set_option maxRecDepth 100000 in
set_option maxHeartbeats 4000000 in
theorem foll_grd_t (rb : Nat) (n cap k : Nat) (st : Int) (i : Nat) (T : TypeId) (u z : Value) (f : Nat) (rc : Value) (b0 : Nat) (c n1 : Nat) (hc1 : 1 ≤ c) (w : World) (hk : k < n) (_hc : n ≤ cap)
    (hx : w.cell? ⟨rb, k * 2, none⟩ = some (.iface T u)) (hy : w.cell? ⟨rb, k * 2 + 1, none⟩ = some (.slice (some ⟨b0, 0, none⟩) c c)) (hn1 : w.cell? ⟨b0, 0, none⟩ = some (.int .i64 (n1 : Nat)))
    (ta : ∀ W, (Instr.typeAssert (.iface T u) 94 119 true).run Tryz.prog W = .ok (.tuple #[z, .bool false]) W)
    (tg : ∀ W, (Instr.typeAssert (.iface T u) 94 198 true).run Tryz.prog W = .ok (.tuple #[.iface T u, .bool true]) W)
    (tm : ∀ w, (method 323 T u "loop.example/productprograms/impl.passes").run Tryz.prog w = .ok (f, rc) w) (tf : ∀ (a : Array Value) w, (callFunc f a).run Tryz.prog w = .ok (.enter f a) w)
    (S : ∀ w', Below w.heap.size w w' → Calls Tryz.prog f #[rc, .int .i64 i] w' fun e w2 => e = .returned (.bool true) ∧ Below w'.heap.size w' w2) :
    Calls Tryz.prog 136 #[.agg #[.slice (some ⟨rb, 0, none⟩) n cap, .int .i64 st], .agg #[.int .i64 k, .int .i64 i]] w (FollPost [(n1, i)] w) := by
  have HS := Lib.hid S
  clear S
  obtain ⟨i0, hi0, hz0, hz1, hz2⟩ := info_parts infoPt
  have W1 := Blk.new w #[.slice (some ⟨rb, 0, none⟩) n cap, .int .i64 st] 70
  have b1 := (Below.refl w.heap.size w).alloc (Nat.le_refl _) (.cells #[.slice (some ⟨rb, 0, none⟩) n cap, .int .i64 st] 70)
  have W2 := Blk.new (w.alloc (.cells #[.slice (some ⟨rb, 0, none⟩) n cap, .int .i64 st] 70)) #[.int .i64 k, .int .i64 i] 145
  have b2 := b1.alloc (by simp) (.cells #[.int .i64 k, .int .i64 i] 145)
  have W1' := W1.alloc (.cells #[.int .i64 k, .int .i64 i] 145)
  have e0 : (w.alloc (.cells #[.slice (some ⟨rb, 0, none⟩) n cap, .int .i64 st] 70)).heap.size = w.heap.size + 1 := by simp
  rw [e0] at W2
  clear W1 b1 e0
  go_enter Tryz.func136, Tryz.ntmps136
  go_wp2_with fail
  generalize (w.alloc (.cells #[.slice (some ⟨rb, 0, none⟩) n cap, .int .i64 st] 70)).alloc (.cells #[.int .i64 k, .int .i64 i] 145) = w0 at *
  have j0 := W1'.cell 0
  have j1 := W1'.cell 1
  have p0 := W2.cell 0
  have p1 := W2.cell 1
  simp at j0 j1 p0 p1
  have hx0 := ckeep b2 hx
  have hy0 := ckeep b2 hy
  have hkc : (k : Int) < n := by omega
  have B2 := Lib.hid b2
  clear b2 hx hy W1' W2
  go_quiet (fail)
  go_wp2_with fail
  have b3 := bdrewN B2.out nq
  refine (HS.out _ b3).mono ?_
  rintro e w2 ⟨rfl, hq⟩
  have b4 := bnext b3 hq
  have hc2 : (1 : Int) ≤ c := by omega
  have c0 := ckeep b4 hn1
  have B4 := Lib.hid b4
  clear b3 b4 hq B2 hn1
  go_wp2_with fail
  refine wp_loop_rounds 2 ?_
  rw [rounds_succ]
  go_wp2_with (at_builtin; refine wpList_append_lies _ (by rfl) _ _ _ (by rfl) w.heap.size 145 i0 _ 2 16 Tryz.underlying179 hi0 hz0 hz1 hz2 rfl (by omega) _ _ _ (by rfl) (PRow.nil0 _ _) ⟨w2.heap.size, 0, none⟩ 1 1 [.int .i64 (n1 : Int), .int .i64 (i : Int)] (by rfl) (by rfl) (World.news_of_block (cs := #[.int .i64 (n1 : Int), .int .i64 (i : Int)]) (t := 145) (fr := (0, 0)) (heap_alloc_new w2 _)) (by simp [Value.oneCell']) (by omega) (by unfold maxLen; omega) (by omega) (by have := B4.out.size; simp; omega) (w2.heap.size + 1) (by simp) ?_; intro g3 cap3 w3 hown hgrow hat hlt3)
  have HO := Lib.hid hown
  have b5 := Lib.hid ((B4.out.alloc B4.out.size _).grown hgrow (by have := B4.out.size; simp; omega) (fun k hk => by simp [Value.ownBlock] at hk))
  clear hown hgrow hat hlt3 c0
  rw [rounds_succ]
  go_wp2_with fail
  go_ret
  exact ⟨_, rfl, HO.out, b5.out⟩
set_option maxRecDepth 100000 in
set_option maxHeartbeats 4000000 in
theorem foll_grd_f (rb : Nat) (n cap k : Nat) (st : Int) (i : Nat) (T : TypeId) (u z : Value) (f : Nat) (rc : Value) (b0 : Nat) (n2 : Nat) (w : World) (hk : k < n) (_hc : n ≤ cap)
    (hx : w.cell? ⟨rb, k * 2, none⟩ = some (.iface T u)) (hy : w.cell? ⟨rb, k * 2 + 1, none⟩ = some (.slice (some ⟨b0, 0, none⟩) 2 2)) (hn2 : w.cell? ⟨b0, 1, none⟩ = some (.int .i64 (n2 : Nat)))
    (ta : ∀ W, (Instr.typeAssert (.iface T u) 94 119 true).run Tryz.prog W = .ok (.tuple #[z, .bool false]) W)
    (tg : ∀ W, (Instr.typeAssert (.iface T u) 94 198 true).run Tryz.prog W = .ok (.tuple #[.iface T u, .bool true]) W)
    (tm : ∀ w, (method 323 T u "loop.example/productprograms/impl.passes").run Tryz.prog w = .ok (f, rc) w) (tf : ∀ (a : Array Value) w, (callFunc f a).run Tryz.prog w = .ok (.enter f a) w)
    (S : ∀ w', Below w.heap.size w w' → Calls Tryz.prog f #[rc, .int .i64 i] w' fun e w2 => e = .returned (.bool false) ∧ Below w'.heap.size w' w2) :
    Calls Tryz.prog 136 #[.agg #[.slice (some ⟨rb, 0, none⟩) n cap, .int .i64 st], .agg #[.int .i64 k, .int .i64 i]] w (FollPost [(n2, i)] w) := by
  have HS := Lib.hid S
  clear S
  obtain ⟨i0, hi0, hz0, hz1, hz2⟩ := info_parts infoPt
  have W1 := Blk.new w #[.slice (some ⟨rb, 0, none⟩) n cap, .int .i64 st] 70
  have b1 := (Below.refl w.heap.size w).alloc (Nat.le_refl _) (.cells #[.slice (some ⟨rb, 0, none⟩) n cap, .int .i64 st] 70)
  have W2 := Blk.new (w.alloc (.cells #[.slice (some ⟨rb, 0, none⟩) n cap, .int .i64 st] 70)) #[.int .i64 k, .int .i64 i] 145
  have b2 := b1.alloc (by simp) (.cells #[.int .i64 k, .int .i64 i] 145)
  have W1' := W1.alloc (.cells #[.int .i64 k, .int .i64 i] 145)
  have e0 : (w.alloc (.cells #[.slice (some ⟨rb, 0, none⟩) n cap, .int .i64 st] 70)).heap.size = w.heap.size + 1 := by simp
  rw [e0] at W2
  clear W1 b1 e0
  go_enter Tryz.func136, Tryz.ntmps136
  go_wp2_with fail
  generalize (w.alloc (.cells #[.slice (some ⟨rb, 0, none⟩) n cap, .int .i64 st] 70)).alloc (.cells #[.int .i64 k, .int .i64 i] 145) = w0 at *
  have j0 := W1'.cell 0
  have j1 := W1'.cell 1
  have p0 := W2.cell 0
  have p1 := W2.cell 1
  simp at j0 j1 p0 p1
  have hx0 := ckeep b2 hx
  have hy0 := ckeep b2 hy
  have hkc : (k : Int) < n := by omega
  have B2 := Lib.hid b2
  clear b2 hx hy W1' W2
  go_quiet (fail)
  go_wp2_with fail
  have b3 := bdrewN B2.out nq
  refine (HS.out _ b3).mono ?_
  rintro e w2 ⟨rfl, hq⟩
  have b4 := bnext b3 hq
  have c0 := ckeep b4 hn2
  have B4 := Lib.hid b4
  clear b3 b4 hq B2 hn2
  go_wp2_with fail
  refine wp_loop_rounds 2 ?_
  rw [rounds_succ]
  go_wp2_with (at_builtin; refine wpList_append_lies _ (by rfl) _ _ _ (by rfl) w.heap.size 145 i0 _ 2 16 Tryz.underlying179 hi0 hz0 hz1 hz2 rfl (by omega) _ _ _ (by rfl) (PRow.nil0 _ _) ⟨w2.heap.size, 0, none⟩ 1 1 [.int .i64 (n2 : Int), .int .i64 (i : Int)] (by rfl) (by rfl) (World.news_of_block (cs := #[.int .i64 (n2 : Int), .int .i64 (i : Int)]) (t := 145) (fr := (0, 0)) (heap_alloc_new w2 _)) (by simp [Value.oneCell']) (by omega) (by unfold maxLen; omega) (by omega) (by have := B4.out.size; simp; omega) (w2.heap.size + 1) (by simp) ?_; intro g3 cap3 w3 hown hgrow hat hlt3)
  have HO := Lib.hid hown
  have b5 := Lib.hid ((B4.out.alloc B4.out.size _).grown hgrow (by have := B4.out.size; simp; omega) (fun k hk => by simp [Value.ownBlock] at hk))
  clear hown hgrow hat hlt3 c0
  rw [rounds_succ]
  go_wp2_with fail
  go_ret
  exact ⟨_, rfl, HO.out, b5.out⟩
set_option maxRecDepth 100000 in
set_option maxHeartbeats 4000000 in
theorem foll_grd_0 (rb : Nat) (n cap k : Nat) (st : Int) (i : Nat) (T : TypeId) (u z : Value) (f : Nat) (rc : Value) (b0 : Nat)  (w : World) (hk : k < n) (_hc : n ≤ cap)
    (hx : w.cell? ⟨rb, k * 2, none⟩ = some (.iface T u)) (hy : w.cell? ⟨rb, k * 2 + 1, none⟩ = some (.slice (some ⟨b0, 0, none⟩) 1 1)) 
    (ta : ∀ W, (Instr.typeAssert (.iface T u) 94 119 true).run Tryz.prog W = .ok (.tuple #[z, .bool false]) W)
    (tg : ∀ W, (Instr.typeAssert (.iface T u) 94 198 true).run Tryz.prog W = .ok (.tuple #[.iface T u, .bool true]) W)
    (tm : ∀ w, (method 323 T u "loop.example/productprograms/impl.passes").run Tryz.prog w = .ok (f, rc) w) (tf : ∀ (a : Array Value) w, (callFunc f a).run Tryz.prog w = .ok (.enter f a) w)
    (S : ∀ w', Below w.heap.size w w' → Calls Tryz.prog f #[rc, .int .i64 i] w' fun e w2 => e = .returned (.bool false) ∧ Below w'.heap.size w' w2) :
    Calls Tryz.prog 136 #[.agg #[.slice (some ⟨rb, 0, none⟩) n cap, .int .i64 st], .agg #[.int .i64 k, .int .i64 i]] w (FollPost [] w) := by
  have HS := Lib.hid S
  clear S
  obtain ⟨i0, hi0, hz0, hz1, hz2⟩ := info_parts infoPt
  have W1 := Blk.new w #[.slice (some ⟨rb, 0, none⟩) n cap, .int .i64 st] 70
  have b1 := (Below.refl w.heap.size w).alloc (Nat.le_refl _) (.cells #[.slice (some ⟨rb, 0, none⟩) n cap, .int .i64 st] 70)
  have W2 := Blk.new (w.alloc (.cells #[.slice (some ⟨rb, 0, none⟩) n cap, .int .i64 st] 70)) #[.int .i64 k, .int .i64 i] 145
  have b2 := b1.alloc (by simp) (.cells #[.int .i64 k, .int .i64 i] 145)
  have W1' := W1.alloc (.cells #[.int .i64 k, .int .i64 i] 145)
  have e0 : (w.alloc (.cells #[.slice (some ⟨rb, 0, none⟩) n cap, .int .i64 st] 70)).heap.size = w.heap.size + 1 := by simp
  rw [e0] at W2
  clear W1 b1 e0
  go_enter Tryz.func136, Tryz.ntmps136
  go_wp2_with fail
  generalize (w.alloc (.cells #[.slice (some ⟨rb, 0, none⟩) n cap, .int .i64 st] 70)).alloc (.cells #[.int .i64 k, .int .i64 i] 145) = w0 at *
  have j0 := W1'.cell 0
  have j1 := W1'.cell 1
  have p0 := W2.cell 0
  have p1 := W2.cell 1
  simp at j0 j1 p0 p1
  have hx0 := ckeep b2 hx
  have hy0 := ckeep b2 hy
  have hkc : (k : Int) < n := by omega
  have B2 := Lib.hid b2
  clear b2 hx hy W1' W2
  go_quiet (fail)
  go_wp2_with fail
  have b3 := bdrewN B2.out nq
  refine (HS.out _ b3).mono ?_
  rintro e w2 ⟨rfl, hq⟩
  have b4 := bnext b3 hq
  have B4 := Lib.hid b4
  clear b3 b4 hq B2
  go_wp2_with fail
  refine wp_loop_rounds 1 ?_
  rw [rounds_succ]
  go_wp2_with fail
  go_ret
  exact ⟨_, rfl, PRow.nil _ _, B4.out⟩
end Go.Proofs.YtkgdhlpmlpbbkaaGreat

namespace Go.Proofs.YtkgdhlpmlpbbkaaGreat
open Go.RowKit Tm

set_option maxHeartbeats 2000000 in
theorem implPasses (t : Tm) (B : Nat) (xc : Int) (ya : Option Addr) (yn ym : Nat) (i : Nat) (hi : i < 27) (w : World) (ht : Ok false true t) (hr : RepT w B t (.int .u8 xc) (.slice ya yn ym)) :
    Calls Tryz.prog 181 #[.agg #[.int .u8 xc, .slice ya yn ym], .int .i64 i] w fun e w' => e = .returned (.bool (tst t i)) ∧ Below w.heap.size w w' := by
  have HR := Lib.hid hr
  clear hr
  have C := fun w => Lib.hid (implAt_yes i w (by omega) (by omega))
  have D := fun w h => Lib.hid (holds_any _ _ _ (at_st3 (i := (i : Int)) (by omega) (by omega)) t B (.int .u8 xc) (.slice ya yn ym) w ht h)
  go_enter Tryz.func181, Tryz.ntmps181
  go_wp2_with fail
  have hbx := (Below.refl w.heap.size w).alloc (Nat.le_refl _) (.cells #[.int .u8 xc, .slice ya yn ym] 92)
  have hk := Blk.new w #[.int .u8 xc, .slice ya yn ym] 92
  generalize w.alloc (.cells #[.int .u8 xc, .slice ya yn ym] 92) = w0 at *
  refine (C _).out.mono ?_
  rintro e w1 ⟨rfl, hb⟩
  have HB1 := Lib.hid (bnext hbx hb)
  have hk1 := hk.kept hb
  have q0 := hk1.cell 0
  have q1 := hk1.cell 1
  simp at q0 q1
  have hl1 := hk1.lt
  have HA := Lib.hid (Blk.new w1 #[.int .i64 (ax i), .int .i64 (ay i), .int .i64 (az i)] 33)
  have hbe := (Below.refl _ w1).alloc (Nat.le_refl _) (.cells #[.int .i64 (ax i), .int .i64 (ay i), .int .i64 (az i)] 33)
  have HBx := Lib.hid (bnext HB1.out hbe)
  have HRx := Lib.hid (HR.out.below HBx.out)
  clear hb hk hk1 hbe hbx HB1
  go_wp2_with fail
  refine (D _ HRx.out).out.mono ?_
  rintro e w2 ⟨rfl, hb⟩
  have HB2 := Lib.hid (bnext HBx.out hb)
  clear hb q0 q1 hl1
  rw [show tru (one (ax i) (ay i) (az i)) t = tst t i from rfl]
  go_wp2_with fail
  go_ret
  exact ⟨rfl, HB2.out⟩

/-- What a stop of a flow is. -/
def StpOk (s : Stp) : Prop := match s.d with
  | none => s.nx = []
  | some .skip => s.nx.length = 1
  | some (.asg v e) => s.nx.length = 1 ∧ isVarB false v = true ∧ Ok false false e
  | some (.seq _ _) => False
  | some (.ite t _ _) => s.nx.length = 2 ∧ Ok false true t
  | some (.whl t _) => s.nx.length = 2 ∧ Ok false true t
  | some (.cho _ _) => s.nx.length = 2
  | some (.asm t) => s.nx.length = 1 ∧ Ok false true t

theorem miss_some {want : Array (String × TypeId)} {got : Array Method} (h : (want.toList.filter fun (name, sig) => !got.any fun m => m.name == name && m.sig == sig).length = 1) : ∃ m, Instr.missingMethod want got = some m := by
  obtain ⟨p, hp⟩ := List.length_eq_one_iff.1 h
  unfold Instr.missingMethod
  simp only [hp, List.map_cons, List.map_nil]
  cases hc : p.1.contains '.'
  · simp [List.partition, List.partition.loop, hc, Instr.least]
  · simp [List.partition, List.partition.loop, hc, Instr.least]
noncomputable def wantOf (a : TypeId) : Array (String × TypeId) := match Tryz.prog.underlying a with
  | some (.interface w) => w
  | _ => #[]
theorem tas_miss {t s a : TypeId} {v z : Value} (hu : Tryz.prog.underlying a = some (.interface (wantOf a))) (hi : ∀ W, (typeInfo t).run Tryz.prog W = .ok ((Tryz.prog.info? t).getD default) W)
    (h : ((wantOf a).toList.filter fun (name, sig) => !((Tryz.prog.info? t).getD default).methods.any fun m => m.name == name && m.sig == sig).length = 1) (hz : ∀ W, (zeroValue a).run Tryz.prog W = .ok z W) (W : World) :
    (Instr.typeAssert (.iface t v) s a true).run Tryz.prog W = .ok (.tuple #[z, .bool false]) W := by
  obtain ⟨m, hm⟩ := miss_some h
  simp [Instr.typeAssert, run_underlying hu, hi, hm, hz, Result.andThen]
theorem tg_skip (v : Value) (W : World) : (Instr.typeAssert (.iface 188 v) 94 198 true).run Tryz.prog W = .ok (.tuple #[.nilIface, .bool false]) W :=
  tas_miss (by kernel_rfl) (fun W => by kernel_rfl) (by kernel_rfl) (fun W => by kernel_rfl) W
theorem tg_asg (v : Value) (W : World) : (Instr.typeAssert (.iface 119 v) 94 198 true).run Tryz.prog W = .ok (.tuple #[.nilIface, .bool false]) W :=
  tas_miss (by kernel_rfl) (fun W => by kernel_rfl) (by kernel_rfl) (fun W => by kernel_rfl) W
theorem tg_cho (v : Value) (W : World) : (Instr.typeAssert (.iface 176 v) 94 198 true).run Tryz.prog W = .ok (.tuple #[.nilIface, .bool false]) W :=
  tas_miss (by kernel_rfl) (fun W => by kernel_rfl) (by kernel_rfl) (fun W => by kernel_rfl) W
theorem tg_nil (W : World) : (Instr.typeAssert .nilIface 94 198 true).run Tryz.prog W = .ok (.tuple #[.nilIface, .bool false]) W := by kernel_rfl
theorem ta_nil (W : World) : (Instr.typeAssert .nilIface 94 119 true).run Tryz.prog W = .ok (.tuple #[.agg #[.string ⟨#[]⟩, .int .u8 0, .slice none 0 0], .bool false]) W := by kernel_rfl
theorem tg_ite (v : Value) (W : World) : (Instr.typeAssert (.iface 174 v) 94 198 true).run Tryz.prog W = .ok (.tuple #[.iface 174 v, .bool true]) W := by kernel_rfl
theorem tg_whl (v : Value) (W : World) : (Instr.typeAssert (.iface 96 v) 94 198 true).run Tryz.prog W = .ok (.tuple #[.iface 96 v, .bool true]) W := by kernel_rfl
theorem tg_asm (v : Value) (W : World) : (Instr.typeAssert (.iface 186 v) 94 198 true).run Tryz.prog W = .ok (.tuple #[.iface 186 v, .bool true]) W := by kernel_rfl

theorem varB_cases {v : UInt8} (h : isVarB false v = true) : v = 120 ∨ v = 121 ∨ v = 122 := by
  simpa [isVarB, or_assoc] using h
theorem len1 {l : List Nat} (h : l.length = 1) : ∃ a, l = [a] := by
  match l, h with
  | [a], _ => exact ⟨a, rfl⟩
theorem len2 {l : List Nat} (h : l.length = 2) : ∃ a b, l = [a, b] := by
  match l, h with
  | [a, b], _ => exact ⟨a, b, rfl⟩

/-- A guarded stop with two stops behind it. -/
theorem foll_two {w1 w : World} {rb n cap k : Nat} {st : Int} {i : Nat} {T : TypeId} {u z : Value} {f : Nat} {rc : Value} {b a1 a2 : Nat} {t : Tm} (hb : Below w1.heap.size w1 w) (hk : k < n) (hc : n ≤ cap)
    (hx : w1.cell? ⟨rb, k * 2, none⟩ = some (.iface T u)) (hy : w1.cell? ⟨rb, k * 2 + 1, none⟩ = some (.slice (some ⟨b, 0, none⟩) 2 2)) (hn : ∀ j n, [a1, a2][j]? = some n → w1.cell? ⟨b, j, none⟩ = some (.int .i64 (n : Nat)))
    (ta : ∀ W, (Instr.typeAssert (.iface T u) 94 119 true).run Tryz.prog W = .ok (.tuple #[z, .bool false]) W)
    (tg : ∀ W, (Instr.typeAssert (.iface T u) 94 198 true).run Tryz.prog W = .ok (.tuple #[.iface T u, .bool true]) W)
    (tm : ∀ w, (method 323 T u "loop.example/productprograms/impl.passes").run Tryz.prog w = .ok (f, rc) w) (tf : ∀ (a : Array Value) w, (callFunc f a).run Tryz.prog w = .ok (.enter f a) w)
    (S : ∀ w', Below w1.heap.size w1 w' → Calls Tryz.prog f #[rc, .int .i64 i] w' fun e w2 => e = .returned (.bool (tst t i)) ∧ Below w'.heap.size w' w2) :
    Calls Tryz.prog 136 #[.agg #[.slice (some ⟨rb, 0, none⟩) n cap, .int .i64 st], .agg #[.int .i64 k, .int .i64 i]] w (FollPost (gd mdl t [a1, a2] i) w) := by
  have S' : ∀ w', Below w.heap.size w w' → Calls Tryz.prog f #[rc, .int .i64 i] w' fun e w2 => e = .returned (.bool (tst t i)) ∧ Below w'.heap.size w' w2 := fun w' h => S w' (bnext hb h)
  unfold gd
  show Calls _ _ _ _ (FollPost (if tst t i = true then _ else _) w)
  by_cases h : tst t i = true
  · rw [if_pos h]
    simp only [h] at S'
    exact foll_grd_t rb n cap k st i T u z f rc b 2 a1 (by omega) w hk hc (ckeep hb hx) (ckeep hb hy) (ckeep hb (hn 0 a1 rfl)) ta tg tm tf S'
  · rw [if_neg h]
    simp only [h] at S'
    exact foll_grd_f rb n cap k st i T u z f rc b a2 w hk hc (ckeep hb hx) (ckeep hb hy) (ckeep hb (hn 1 a2 rfl)) ta tg tm tf S'

theorem foll_any {w1 w : World} {B : Nat} {sp : Value} {G : List Stp} (hF : FlowR w1 B sp G) (hG : ∀ (k : Nat) (s : Stp), G[k]? = some s → StpOk s) (st : Int) (x : Pt) (hx : x.1 < G.length) (hi : x.2 < 27) (hb : Below w1.heap.size w1 w) :
    Calls Tryz.prog 136 #[.agg #[sp, .int .i64 st], ptV x] w (FollPost (nxp mdl G x) w) := by
  obtain ⟨rb, cap, rfl, hcap, hs⟩ := hF
  obtain ⟨k, i⟩ := x
  simp only at hx hi
  obtain ⟨x, y, h1, h2, h3⟩ := hs k _ (List.getElem?_eq_getElem hx)
  have ho := hG k _ (List.getElem?_eq_getElem hx)
  show Calls _ _ #[_, .agg #[.int .i64 (k : Int), .int .i64 (i : Int)]] _ _
  unfold nxp
  simp only [List.getElem?_eq_getElem hx]
  generalize G[k] = s at *
  obtain ⟨d, nx⟩ := s
  unfold StopR at h3
  unfold StpOk at ho
  unfold after
  cases d with
  | none =>
    obtain ⟨rfl, rfl, e⟩ := h3
    simp only at e
    subst e
    exact foll_plain rb _ cap k st i _ _ _ none 0 [] w hx hcap (by simp) (ckeep hb h1) (ckeep hb h2) ⟨none, 0, rfl, Nat.le_refl _, .inl rfl⟩ ta_nil tg_nil
  | some p =>
    simp only at h3 ho ⊢
    obtain ⟨hv, b, rfl, hn⟩ := h3
    have hN : ∀ l : List Nat, nx = l → NxS w (.slice (some ⟨b, 0, none⟩) nx.length nx.length) nx := fun l _ => ⟨_, _, rfl, Nat.le_refl _, .inr ⟨b, 0, rfl, fun j n hj => by rw [Nat.zero_add]; exact ckeep hb (hn j n hj)⟩⟩
    cases p with
    | skip =>
      cases hv
      exact foll_plain rb _ cap k st i _ _ _ _ _ nx w hx hcap (by omega) (ckeep hb h1) (ckeep hb h2) (hN _ rfl) (tas_asg_skip _) (tg_skip _)
    | asg v e =>
      obtain ⟨a1, b1, h, hr⟩ := hv
      cases h
      obtain ⟨ya, yn, ym, rfl, rfl⟩ := hr.forms
      exact foll_asg rb _ cap k st i v _ ya yn ym _ _ nx (asg v e i) w hx hcap (by omega) (ckeep hb h1) (ckeep hb h2) (hN _ rfl) (fun w' h' => implStep v (varB_cases ho.2.1) i e B _ ya yn ym w' hi ho.2.2 (hr.rep.below (bnext hb h')))
    | seq p q => exact absurd ho (by simp)
    | ite t p q =>
      obtain ⟨x, y, a1, b1, h, hr, _, _⟩ := hv
      cases h
      obtain ⟨ya, yn, ym, rfl, rfl⟩ := hr.forms
      obtain ⟨m1, m2, rfl⟩ := len2 ho.1
      exact foll_two (f := 181) hb hx hcap h1 h2 hn (tas_asg_ite _) (tg_ite _) (fun w => by kernel_rfl) (fun a w => by kernel_rfl) (fun w' h' => implPasses t B _ ya yn ym i hi w' ho.2 (hr.rep.below h'))
    | whl t p =>
      obtain ⟨x, y, a1, h, hr, _⟩ := hv
      cases h
      obtain ⟨ya, yn, ym, rfl, rfl⟩ := hr.forms
      obtain ⟨m1, m2, rfl⟩ := len2 ho.1
      exact foll_two (f := 181) hb hx hcap h1 h2 hn (tas_asg_whl _) (tg_whl _) (fun w => by kernel_rfl) (fun a w => by kernel_rfl) (fun w' h' => implPasses t B _ ya yn ym i hi w' ho.2 (hr.rep.below h'))
    | cho p q =>
      obtain ⟨a1, b1, h, _⟩ := hv
      cases h
      exact foll_plain rb _ cap k st i _ _ _ _ _ nx w hx hcap (by omega) (ckeep hb h1) (ckeep hb h2) (hN _ rfl) (tas_asg_cho _) (tg_cho _)
    | asm t =>
      obtain ⟨x, y, h, hr⟩ := hv
      cases h
      obtain ⟨ya, yn, ym, rfl, rfl⟩ := hr.forms
      obtain ⟨m1, rfl⟩ := len1 ho.1
      have S' : ∀ w', Below w.heap.size w w' → Calls Tryz.prog 181 #[.agg #[.int .u8 t.head.toNat, .slice ya yn ym], .int .i64 i] w' fun e w2 => e = .returned (.bool (tst t i)) ∧ Below w'.heap.size w' w2 := fun w' h' => implPasses t B _ ya yn ym i hi w' ho.2 (hr.rep.below (bnext hb h'))
      simp only
      unfold gd
      show Calls _ _ _ _ (FollPost (if tst t i = true then _ else _) w)
      by_cases h : tst t i = true
      · rw [if_pos h]
        simp only [h] at S'
        exact foll_grd_t rb _ cap k st i _ _ _ 181 _ b 1 m1 (by omega) w hx hcap (ckeep hb h1) (ckeep hb h2) (ckeep hb (hn 0 m1 rfl)) (tas_asg_asm _) (tg_asm _) (fun w => by kernel_rfl) (fun a w => by kernel_rfl) S'
      · rw [if_neg h]
        simp only [h] at S'
        exact foll_grd_0 rb _ cap k st i _ _ _ 181 _ b w hx hcap (ckeep hb h1) (ckeep hb h2) (tas_asg_asm _) (tg_asm _) (fun w => by kernel_rfl) (fun a w => by kernel_rfl) S'
end Go.Proofs.YtkgdhlpmlpbbkaaGreat

namespace Go.Proofs.YtkgdhlpmlpbbkaaGreat

abbrev Mp := Pt → Option Bool
def upd (m : Mp) (p : Pt) (v : Bool) : Mp := fun q => if p = q then some v else m q
theorem upd_same (m : Mp) (p : Pt) (v : Bool) : upd m p v p = some v := by simp [upd]
theorem upd_ne {m : Mp} {p q : Pt} {v : Bool} (h : p ≠ q) : upd m p v q = m q := by simp [upd, h]
def univ (N : Nat) : List Pt := (List.range N).flatMap fun k => (List.range 27).map fun i => (k, i)
theorem mem_univ {N : Nat} {x : Pt} : x ∈ univ N ↔ x.1 < N ∧ x.2 < 27 := by
  unfold univ
  simp only [List.mem_flatMap, List.mem_range, List.mem_map]
  constructor
  · rintro ⟨k, hk, i, hi, rfl⟩; exact ⟨hk, hi⟩
  · rintro ⟨h1, h2⟩; exact ⟨x.1, h1, x.2, h2, rfl⟩
def unk (N : Nat) (m : Mp) : Nat := (univ N).countP fun x => (m x).isNone
theorem unk_le {N : Nat} {m m' : Mp} (h : ∀ x, m x ≠ none → m' x ≠ none) : unk N m' ≤ unk N m := by
  apply List.countP_mono_left
  intro x _ hx
  cases hm : m x with
  | none => rfl
  | some b => exact absurd (by simpa using hx) (h x (by simp [hm]))
theorem countP_lt {p q : Pt → Bool} : ∀ {l : List Pt}, (∀ x, q x = true → p x = true) → ∀ {x : Pt}, x ∈ l → p x = true → q x = false → l.countP q < l.countP p := by
  intro l
  induction l with
  | nil => intro _ x hx; cases hx
  | cons y l ih =>
    intro h x hx hp hq
    simp only [List.countP_cons]
    rcases List.mem_cons.1 hx with rfl | hx
    · have := List.countP_mono_left (l := l) (fun z _ => h z)
      rw [hp, hq]
      simp
      omega
    · have := ih h hx hp hq
      by_cases hy : q y = true
      · rw [hy, h y hy]; simp; omega
      · simp only [Bool.not_eq_true] at hy
        rw [hy]
        simp
        omega
theorem unk_lt {N : Nat} {m m' : Mp} (h : ∀ x, m x ≠ none → m' x ≠ none) {x : Pt} (hx : x.1 < N ∧ x.2 < 27) (h1 : m x = none) (h2 : m' x ≠ none) : unk N m' < unk N m := by
  apply countP_lt (x := x) _ (mem_univ.2 hx) (by simp [h1])
  · cases h3 : m' x with
    | none => exact absurd h3 h2
    | some b => rfl
  · intro y hy
    cases hm : m y with
    | none => rfl
    | some b => exact absurd (by simpa using hy) (h y (by simp [hm]))

section
variable {M : Mdl} {G : List Stp}

structure Pre (M : Mdl) (G : List Stp) (x : Pt) (m : Mp) (lo : Bool) : Prop where
  gr : ∀ g, m g = some true → ∃ y, Edge M G g y ∧ Star (Edge M G) y x
  bk : lo = false → ∀ b, m b = some false → ¬ Inf M G b
structure Went (M : Mdl) (G : List Stp) (x : Pt) (m : Mp) (F : Nat → Bool) (lo bl : Bool) (m' : Mp) (F' : Nat → Bool) (lo' bl' : Bool) : Prop where
  ext : ∀ y b, m y = some b → m' y = some b
  new : ∀ y, m y = none → m' y ≠ none → m' y = some false ∧ Star (Edge M G) x y ∧ ∀ z, Edge M G y z → m' z ≠ none
  at_ : m' x ≠ none
  fin : ∀ j, j < 27 → (F' j = true ↔ F j = true ∨ (m (0, j) = none ∧ m' (0, j) ≠ none))
  blk : bl' = true ↔ bl = true ∨ ∃ y, m y = none ∧ m' y ≠ none ∧ nxp M G y = [] ∧ y.1 ≠ 0
  lp1 : lo' = true → lo = true ∨ Inf M G x
  lp2 : lo' = false → lo = false ∧ ¬ Inf M G x ∧ ∀ b, m' b = some false → ¬ Inf M G b
structure Going (M : Mdl) (G : List Stp) (x0 : Pt) (m : Mp) (F : Nat → Bool) (lo bl : Bool) (W : List Pt) (x : Pt) (m1 : Mp) (F1 : Nat → Bool) (lo1 bl1 : Bool) : Prop where
  ext : ∀ y b, m y = some b → m1 y = some b
  way : ∀ y, y ∈ W → m y = none ∧ m1 y = some true ∧ Star (Edge M G) x0 y ∧ (∃ z, Edge M G y z ∧ Star (Edge M G) z x) ∧ ∀ z, Edge M G y z → m1 z ≠ none ∨ z = x
  new : ∀ y, m y = none → m1 y ≠ none → y ∈ W ∨ (m1 y = some false ∧ Star (Edge M G) x0 y ∧ ∀ z, Edge M G y z → m1 z ≠ none)
  to : Star (Edge M G) x0 x
  hd : x0 = x ∨ x0 ∈ W
  fin : ∀ j, j < 27 → (F1 j = true ↔ F j = true ∨ (m (0, j) = none ∧ m1 (0, j) ≠ none))
  blk : bl1 = true ↔ bl = true ∨ ∃ y, m y = none ∧ m1 y ≠ none ∧ nxp M G y = [] ∧ y.1 ≠ 0
  lp1 : lo1 = true → lo = true ∨ Inf M G x0
  lp2 : lo1 = false → lo = false ∧ (∀ b, m1 b = some false → ¬ Inf M G b) ∧ (¬ Inf M G x → ∀ y, y ∈ W → ¬ Inf M G y)
structure Ended (M : Mdl) (G : List Stp) (x0 : Pt) (m : Mp) (F : Nat → Bool) (lo bl : Bool) (W : List Pt) (m1 : Mp) (F1 : Nat → Bool) (lo1 bl1 : Bool) : Prop where
  ext : ∀ y b, m y = some b → m1 y = some b
  way : ∀ y, y ∈ W → m y = none ∧ m1 y = some true ∧ Star (Edge M G) x0 y ∧ ∀ z, Edge M G y z → m1 z ≠ none
  new : ∀ y, m y = none → m1 y ≠ none → y ∈ W ∨ (m1 y = some false ∧ Star (Edge M G) x0 y ∧ ∀ z, Edge M G y z → m1 z ≠ none)
  at_ : m1 x0 ≠ none
  fin : ∀ j, j < 27 → (F1 j = true ↔ F j = true ∨ (m (0, j) = none ∧ m1 (0, j) ≠ none))
  blk : bl1 = true ↔ bl = true ∨ ∃ y, m y = none ∧ m1 y ≠ none ∧ nxp M G y = [] ∧ y.1 ≠ 0
  lp1 : lo1 = true → lo = true ∨ Inf M G x0
  lp2 : lo1 = false → lo = false ∧ (∀ b, m1 b = some false → ¬ Inf M G b) ∧ ¬ Inf M G x0 ∧ ∀ y, y ∈ W → ¬ Inf M G y

variable {x0 x : Pt} {m m1 : Mp} {F F1 : Nat → Bool} {lo bl lo1 bl1 : Bool} {W : List Pt}

theorem Going.start (hp : Pre M G x0 m lo) : Going M G x0 m F lo bl [] x0 m F lo bl where
  ext := fun _ _ h => h
  way := fun y hy => by cases hy
  new := fun y h h' => absurd h h'
  to := .refl _
  hd := .inl rfl
  fin := fun j _ => ⟨fun h => .inl h, fun h => h.elim id (fun h => absurd h.1 h.2)⟩
  blk := ⟨fun h => .inl h, fun h => h.elim id (fun ⟨y, h1, h2, _⟩ => absurd h1 h2)⟩
  lp1 := fun h => .inl h
  lp2 := fun h => ⟨h, hp.bk h, fun _ y hy => by cases hy⟩

theorem Going.known {b : Bool} (hp : Pre M G x0 m lo) (h : Going M G x0 m F lo bl W x m1 F1 lo1 bl1) (hx : m1 x = some b) : Ended M G x0 m F lo bl W m1 F1 (lo1 || b) bl1 where
  ext := h.ext
  way := fun y hy => by
    obtain ⟨h1, h2, h3, _, h5⟩ := h.way y hy
    refine ⟨h1, h2, h3, fun z hz => ?_⟩
    rcases h5 z hz with h6 | rfl
    · exact h6
    · rw [hx]; simp
  new := h.new
  at_ := by
    rcases h.hd with rfl | h1
    · rw [hx]; simp
    · rw [(h.way x0 h1).2.1]; simp
  fin := h.fin
  blk := h.blk
  lp1 := fun hl => by
    cases b with
    | false => exact h.lp1 (by simpa using hl)
    | true =>
      right
      refine Inf.star h.to ?_
      cases hm : m x with
      | some b =>
        have := h.ext x b hm
        rw [hx] at this
        injection this with this
        subst this
        obtain ⟨y, h1, h2⟩ := hp.gr x hm
        exact Inf.round h1 (h2.trans h.to)
      | none =>
        rcases h.new x hm (by rw [hx]; simp) with h1 | ⟨h1, _⟩
        · obtain ⟨_, _, _, ⟨z, h2, h3⟩, _⟩ := h.way x h1
          exact Inf.round h2 h3
        · rw [hx] at h1; simp at h1
  lp2 := fun hl => by
    simp at hl
    obtain ⟨h1, rfl⟩ := hl
    obtain ⟨h2, h3, h4⟩ := h.lp2 h1
    have h5 := h4 (h3 x hx)
    refine ⟨h2, h3, ?_, h5⟩
    rcases h.hd with rfl | h6
    · exact h3 _ hx
    · exact h5 _ h6

theorem none_of (he : ∀ y b, m y = some b → m1 y = some b) {y : Pt} (h : m1 y = none) : m y = none := by
  cases hm : m y with
  | none => rfl
  | some b => rw [he y b hm] at h; cases h
theorem ne_upd (he : ∀ y b, m y = some b → m1 y = some b) (hx : m1 x = none) : ∀ y b, m y = some b → upd m1 x true y = some b := by
  intro y b h
  by_cases e : x = y
  · subst e; rw [he _ _ h] at hx; cases hx
  · rw [upd_ne e]; exact he y b h
theorem upd_some {y : Pt} (h : m1 y ≠ none) : upd m1 x true y ≠ none := by
  by_cases e : x = y
  · subst e; rw [upd_same]; simp
  · rw [upd_ne e]; exact h

/-- At a point behind which nothing comes. -/
theorem Going.last {F2 : Nat → Bool} {bl2 : Bool} (h : Going M G x0 m F lo bl W x m1 F1 lo1 bl1) (hx : m1 x = none) (hn : nxp M G x = [])
    (h0 : x.1 = 0 → (∀ j, j < 27 → (F2 j = true ↔ F1 j = true ∨ j = x.2)) ∧ bl2 = bl1) (h1 : x.1 ≠ 0 → (∀ j, j < 27 → F2 j = F1 j) ∧ bl2 = true) :
    Ended M G x0 m F lo bl (W ++ [x]) (upd m1 x true) F2 lo1 bl2 := by
  have hmx := none_of h.ext hx
  have hedge : ∀ z, ¬ Edge M G x z := fun z hz => by unfold Edge at hz; rw [hn] at hz; cases hz
  constructor
  · exact ne_upd h.ext hx
  · intro y hy
    rcases List.mem_append.1 hy with hy | hy
    · obtain ⟨k1, k2, k3, _, k5⟩ := h.way y hy
      have e : x ≠ y := fun e => by subst e; rw [hx] at k2; cases k2
      refine ⟨k1, by rw [upd_ne e]; exact k2, k3, fun z hz => ?_⟩
      rcases k5 z hz with k6 | rfl
      · exact upd_some k6
      · rw [upd_same]; simp
    · simp at hy
      subst hy
      exact ⟨hmx, upd_same _ _ _, h.to, fun z hz => absurd hz (hedge z)⟩
  · intro y hy hy2
    by_cases e : x = y
    · subst e; exact .inl (by simp)
    · rw [upd_ne e] at hy2 ⊢
      rcases h.new y hy hy2 with k | ⟨k1, k2, k3⟩
      · exact .inl (List.mem_append_left _ k)
      · exact .inr ⟨k1, k2, fun z hz => upd_some (k3 z hz)⟩
  · rcases h.hd with rfl | k
    · rw [upd_same]; simp
    · exact upd_some (by rw [(h.way _ k).2.1]; simp)
  · intro j hj
    have hf := h.fin j hj
    by_cases e : x = (0, j)
    · subst e
      have := (h0 rfl).1 j hj
      rw [this, upd_same]
      simp [hmx]
    · rw [upd_ne e, ← hf]
      by_cases e0 : x.1 = 0
      · rw [(h0 e0).1 j hj]
        constructor
        · rintro (k | k)
          · exact k
          · exact absurd (Prod.ext e0 k.symm) e
        · exact fun k => .inl k
      · rw [(h1 e0).1 j hj]
  · by_cases e0 : x.1 = 0
    · rw [(h0 e0).2, h.blk]
      constructor
      · rintro (k | ⟨y, k1, k2, k3, k4⟩)
        · exact .inl k
        · exact .inr ⟨y, k1, upd_some k2, k3, k4⟩
      · rintro (k | ⟨y, k1, k2, k3, k4⟩)
        · exact .inl k
        · have e : x ≠ y := fun e => by subst e; exact k4 e0
          rw [upd_ne e] at k2
          exact .inr ⟨y, k1, k2, k3, k4⟩
    · rw [(h1 e0).2]
      refine ⟨fun _ => .inr ⟨x, hmx, by rw [upd_same]; simp, hn, e0⟩, fun _ => rfl⟩
  · exact h.lp1
  · intro hl
    obtain ⟨k1, k2, k3⟩ := h.lp2 hl
    have hnx : ¬ Inf M G x := not_inf_of (fun y hy => absurd hy (hedge y))
    have k4 := k3 hnx
    refine ⟨k1, fun b hb => ?_, ?_, fun y hy => ?_⟩
    · by_cases e : x = b
      · subst e; exact hnx
      · rw [upd_ne e] at hb; exact k2 b hb
    · rcases h.hd with rfl | k
      · exact hnx
      · exact k4 _ k
    · rcases List.mem_append.1 hy with hy | hy
      · exact k4 y hy
      · simp at hy; subst hy; exact hnx

/-- The walk goes to one of two points that come next. -/
theorem Going.pre {z : Pt} (hp : Pre M G x0 m lo) (h : Going M G x0 m F lo bl W x m1 F1 lo1 bl1) (_hx : m1 x = none) (hz : Edge M G x z) : Pre M G z (upd m1 x true) lo1 where
  gr := fun g hg => by
    by_cases e : x = g
    · subst e; exact ⟨z, hz, .refl _⟩
    · rw [upd_ne e] at hg
      cases hm : m g with
      | some b =>
        have := h.ext g b hm
        rw [hg] at this
        injection this with this
        subst this
        obtain ⟨y, k1, k2⟩ := hp.gr g hm
        exact ⟨y, k1, (k2.trans h.to).tail hz⟩
      | none =>
        rcases h.new g hm (by rw [hg]; simp) with k | ⟨k, _⟩
        · obtain ⟨_, _, _, ⟨y, k1, k2⟩, _⟩ := h.way g k
          exact ⟨y, k1, k2.tail hz⟩
        · rw [hg] at k; simp at k
  bk := fun hl b hb => by
    by_cases e : x = b
    · subst e; rw [upd_same] at hb; simp at hb
    · rw [upd_ne e] at hb; exact (h.lp2 hl).2.1 b hb

theorem Going.step {y0 : Pt} {m3 : Mp} {F3 : Nat → Bool} {lo3 bl3 : Bool} (h : Going M G x0 m F lo bl W x m1 F1 lo1 bl1) (hx : m1 x = none) (h00 : ∀ j, nxp M G (0, j) = [])
    (hy0 : Edge M G x y0)
    (hw : (nxp M G x = [y0] ∧ m3 = upd m1 x true ∧ F3 = F1 ∧ lo3 = lo1 ∧ bl3 = bl1) ∨ ∃ z, nxp M G x = [y0, z] ∧ Went M G z (upd m1 x true) F1 lo1 bl1 m3 F3 lo3 bl3) :
    Going M G x0 m F lo bl (W ++ [x]) y0 m3 F3 lo3 bl3 := by
  have hmx := none_of h.ext hx
  have hxj : ∀ j, x ≠ (0, j) := fun j e => by subst e; unfold Edge at hy0; rw [h00] at hy0; cases hy0
  have key : (∀ y b, upd m1 x true y = some b → m3 y = some b) ∧ (∀ y, upd m1 x true y = none → m3 y ≠ none → m3 y = some false ∧ Star (Edge M G) x y ∧ ∀ z, Edge M G y z → m3 z ≠ none) ∧
      (∀ z, Edge M G x z → m3 z ≠ none ∨ z = y0) ∧ (∀ j, j < 27 → (F3 j = true ↔ F1 j = true ∨ (upd m1 x true (0, j) = none ∧ m3 (0, j) ≠ none))) ∧
      (bl3 = true ↔ bl1 = true ∨ ∃ y, upd m1 x true y = none ∧ m3 y ≠ none ∧ nxp M G y = [] ∧ y.1 ≠ 0) ∧ (lo3 = true → lo1 = true ∨ Inf M G x) ∧
      (lo3 = false → lo1 = false ∧ (¬ Inf M G y0 → ¬ Inf M G x) ∧ ∀ b, m3 b = some false → ¬ Inf M G b ∨ upd m1 x true b = some false) := by
    rcases hw with ⟨hn, rfl, rfl, rfl, rfl⟩ | ⟨z, hn, hW⟩
    · have he : ∀ z, Edge M G x z → z = y0 := fun z hz => by unfold Edge at hz; rw [hn] at hz; simpa using hz
      refine ⟨fun y b h => h, fun y h1 h2 => absurd h1 h2, fun z hz => .inr (he z hz), fun j _ => ⟨fun h => .inl h, fun h => h.elim id (fun h => absurd h.1 h.2)⟩, ⟨fun h => .inl h, fun h => h.elim id (fun ⟨y, h1, h2, _⟩ => absurd h1 h2)⟩, fun h => .inl h, fun h => ⟨h, fun hy => not_inf_of fun y hy' => by rw [he y hy']; exact hy, fun b hb => .inr hb⟩⟩
    · have he : ∀ u, Edge M G x u → u = y0 ∨ u = z := fun u hu => by unfold Edge at hu; rw [hn] at hu; simpa using hu
      have hz : Edge M G x z := by unfold Edge; rw [hn]; simp
      refine ⟨hW.ext, fun y h1 h2 => ?_, fun u hu => ?_, hW.fin, hW.blk, fun hl => ?_, fun hl => ?_⟩
      · obtain ⟨k1, k2, k3⟩ := hW.new y h1 h2
        exact ⟨k1, .head hz k2, k3⟩
      · rcases he u hu with rfl | rfl
        · exact .inr rfl
        · exact .inl hW.at_
      · rcases hW.lp1 hl with k | k
        · exact .inl k
        · exact .inr (k.back hz)
      · obtain ⟨k1, k2, k3⟩ := hW.lp2 hl
        refine ⟨k1, fun hy => not_inf_of fun y hy' => ?_, fun b hb => .inl (k3 b hb)⟩
        rcases he y hy' with rfl | rfl
        · exact hy
        · exact k2
  clear hw
  obtain ⟨kext, knew, kat, kfin, kblk, klo1, klo2⟩ := key
  have kne : ∀ y, m1 y ≠ none → m3 y ≠ none := fun y hy => by
    cases hc : m1 y with
    | none => exact absurd hc hy
    | some b =>
      have : upd m1 x true y = some b := by
        by_cases e : x = y
        · subst e; rw [hx] at hc; cases hc
        · rw [upd_ne e]; exact hc
      rw [kext y b this]; simp
  have kx : m3 x = some true := kext x true (upd_same _ _ _)
  constructor
  · exact fun y b hb => kext y b (ne_upd h.ext hx y b hb)
  · intro y hy
    rcases List.mem_append.1 hy with hy | hy
    · obtain ⟨k1, k2, k3, ⟨z, k4, k5⟩, k6⟩ := h.way y hy
      have e : x ≠ y := fun e => by subst e; rw [hx] at k2; cases k2
      refine ⟨k1, kext y true (by rw [upd_ne e]; exact k2), k3, ⟨z, k4, k5.tail hy0⟩, fun u hu => ?_⟩
      rcases k6 u hu with k7 | rfl
      · exact .inl (kne u k7)
      · exact .inl (by rw [kx]; simp)
    · simp at hy
      subst hy
      exact ⟨hmx, kx, h.to, ⟨y0, hy0, .refl _⟩, kat⟩
  · intro y hy hy3
    by_cases e : x = y
    · subst e; exact .inl (by simp)
    · by_cases h1 : m1 y = none
      · obtain ⟨k1, k2, k3⟩ := knew y (by rw [upd_ne e]; exact h1) hy3
        exact .inr ⟨k1, h.to.trans k2, k3⟩
      · rcases h.new y hy h1 with k | ⟨k1, k2, k3⟩
        · exact .inl (List.mem_append_left _ k)
        · exact .inr ⟨kext y false (by rw [upd_ne e]; exact k1), k2, fun z hz => kne z (k3 z hz)⟩
  · exact h.to.tail hy0
  · rcases h.hd with rfl | k
    · exact .inr (by simp)
    · exact .inr (List.mem_append_left _ k)
  · intro j hj
    rw [kfin j hj, h.fin j hj, upd_ne (hxj j)]
    constructor
    · rintro ((k | ⟨k1, k2⟩) | ⟨k1, k2⟩)
      · exact .inl k
      · exact .inr ⟨k1, kne _ k2⟩
      · exact .inr ⟨none_of h.ext k1, k2⟩
    · rintro (k | ⟨k1, k2⟩)
      · exact .inl (.inl k)
      · by_cases h1 : m1 (0, j) = none
        · exact .inr ⟨h1, k2⟩
        · exact .inl (.inr ⟨k1, h1⟩)
  · rw [kblk, h.blk]
    constructor
    · rintro ((k | ⟨y, k1, k2, k3⟩) | ⟨y, k1, k2, k3⟩)
      · exact .inl k
      · exact .inr ⟨y, k1, kne _ k2, k3⟩
      · have e : x ≠ y := fun e => by subst e; rw [upd_same] at k1; cases k1
        rw [upd_ne e] at k1
        exact .inr ⟨y, none_of h.ext k1, k2, k3⟩
    · rintro (k | ⟨y, k1, k2, k3, k4⟩)
      · exact .inl (.inl k)
      · have e : x ≠ y := fun e => by subst e; unfold Edge at hy0; rw [k3] at hy0; cases hy0
        by_cases h1 : m1 y = none
        · exact .inr ⟨y, by rw [upd_ne e]; exact h1, k2, k3, k4⟩
        · exact .inl (.inr ⟨y, k1, h1, k3, k4⟩)
  · intro hl
    rcases klo1 hl with k | k
    · exact h.lp1 k
    · exact .inr (k.star h.to)
  · intro hl
    obtain ⟨k1, k2, k3⟩ := klo2 hl
    obtain ⟨k4, k5, k6⟩ := h.lp2 k1
    refine ⟨k4, fun b hb => ?_, fun hy y hy' => ?_⟩
    · rcases k3 b hb with k | k
      · exact k
      · by_cases e : x = b
        · subst e; rw [upd_same] at k; simp at k
        · rw [upd_ne e] at k; exact k5 b k
    · have hnx := k2 hy
      rcases List.mem_append.1 hy' with hy' | hy'
      · exact k6 hnx y hy'
      · simp at hy'; subst hy'; exact hnx

/-- All points of the way are passed. -/
def unmark (W : List Pt) (m : Mp) : Mp := fun q => if q ∈ W then some false else m q
theorem unmark_zero (m : Mp) : unmark [] m = m := by funext q; simp [unmark]
theorem unmark_snoc (W : List Pt) (m : Mp) (p : Pt) : unmark (W ++ [p]) m = upd (unmark W m) p false := by
  funext q
  unfold unmark upd
  by_cases e : p = q
  · subst e; simp
  · have : ¬ q = p := fun h => e h.symm
    simp [e, this]
theorem Ended.went (h : Ended M G x0 m F lo bl W m1 F1 lo1 bl1) : Went M G x0 m F lo bl (unmark W m1) F1 lo1 bl1 := by
  have kne : ∀ y, unmark W m1 y ≠ none ↔ m1 y ≠ none := fun y => by
    unfold unmark
    by_cases hy : y ∈ W
    · rw [if_pos hy, (h.way y hy).2.1]; simp
    · rw [if_neg hy]
  constructor
  · intro y b hb
    have : y ∉ W := fun hy => by rw [(h.way y hy).1] at hb; cases hb
    unfold unmark
    rw [if_neg this]
    exact h.ext y b hb
  · intro y hy hy2
    rw [kne] at hy2
    rcases h.new y hy hy2 with k | ⟨k1, k2, k3⟩
    · exact ⟨by unfold unmark; rw [if_pos k], (h.way y k).2.2.1, fun z hz => (kne z).2 ((h.way y k).2.2.2 z hz)⟩
    · refine ⟨?_, k2, fun z hz => (kne z).2 (k3 z hz)⟩
      unfold unmark
      split
      · rfl
      · exact k1
  · exact (kne _).2 h.at_
  · intro j hj
    rw [h.fin j hj]
    simp only [kne]
  · rw [h.blk]
    simp only [kne]
  · exact h.lp1
  · intro hl
    obtain ⟨k1, k2, k3, k4⟩ := h.lp2 hl
    refine ⟨k1, k3, fun b hb => ?_⟩
    unfold unmark at hb
    split at hb
    · exact k4 b (by assumption)
    · exact k2 b hb
end
end Go.Proofs.YtkgdhlpmlpbbkaaGreat

namespace Go.Proofs.YtkgdhlpmlpbbkaaGreat
open Go.RowKit Tm Go.ChangeMaps

def wkC (sp : Value) (st : Int) (F : Nat → Bool) (lo bl : Bool) (bm : Nat) : Array Value := #[sp, .int .i64 st, .int .u32 (nb 27 F), .bool lo, .bool bl, .map (some bm)]
def WkB (w : World) (bw : Nat) (sp : Value) (st : Int) (F : Nat → Bool) (lo bl : Bool) (bm : Nat) : Prop := Blk w bw (wkC sp st F lo bl bm) 109
theorem WkB.cells {w : World} {bw : Nat} {sp : Value} {st : Int} {F : Nat → Bool} {lo bl : Bool} {bm : Nat} (h : WkB w bw sp st F lo bl bm) :
    w.cell? ⟨bw, 0, none⟩ = some sp ∧ w.cell? ⟨bw, 1, none⟩ = some (.int .i64 st) ∧ w.cell? ⟨bw, 2, none⟩ = some (.int .u32 (nb 27 F)) ∧ w.cell? ⟨bw, 3, none⟩ = some (.bool lo) ∧ w.cell? ⟨bw, 4, none⟩ = some (.bool bl) ∧ w.cell? ⟨bw, 5, none⟩ = some (.map (some bm)) :=
  ⟨h.cell 0, h.cell 1, h.cell 2, h.cell 3, h.cell 4, h.cell 5⟩
theorem WkB.free' {w : World} {bw : Nat} {sp : Value} {st : Int} {F : Nat → Bool} {lo bl : Bool} {bm : Nat} (h : WkB w bw sp st F lo bl bm) : w.frozen? ⟨bw, 2, none⟩ = false ∧ w.frozen? ⟨bw, 3, none⟩ = false ∧ w.frozen? ⟨bw, 4, none⟩ = false :=
  ⟨h.free 2, h.free 3, h.free 4⟩

def EndPost (bw bm : Nat) (sp : Value) (st : Int) (F : Nat → Bool) (lo bl : Bool) (w : World) (e : Ending) (w' : World) : Prop := e = .returned (.tuple #[]) ∧ WkB w' bw sp st F lo bl bm ∧ Kp2 bw bm w w' ∧ (bm ≠ bw → w'.heap[bm]? = w.heap[bm]?)

theorem ret_end {w0 w : World} {bw bm : Nat} {sp : Value} {st : Int} {F : Nat → Bool} {lo bl : Bool} {o : Obj} {j : Nat} {v : Value} {F' : Nat → Bool} {lo' bl' : Bool} (h : WkB w bw sp st F lo bl bm) (hk : Kp2 bw bm w0 w) (hm : bm ≠ bw → w.heap[bm]? = w0.heap[bm]?) (hlt : bm < w0.heap.size)
    (e : (wkC sp st F lo bl bm).setIfInBounds j v = wkC sp st F' lo' bl' bm) :
    WkB ((w.setCell ⟨bw, j, none⟩ v).alloc o) bw sp st F' lo' bl' bm ∧ Kp2 bw bm w0 ((w.setCell ⟨bw, j, none⟩ v).alloc o) ∧ (bm ≠ bw → ((w.setCell ⟨bw, j, none⟩ v).alloc o).heap[bm]? = w0.heap[bm]?) := by
  refine ⟨?_, (hk.setA j v).put o, fun hne => ?_⟩
  · have := (Blk.set h j v).alloc o
    rw [e] at this
    exact this
  · rw [Below.heap_alloc _ _ _ (by have := hk.size; simp [World.setCell]; omega), Below.heap_setCell _ _ _ _ hne]
    exact hm hne
set_option maxRecDepth 100000 in
set_option maxHeartbeats 2000000 in
theorem end_other (bw bm : Nat) (sp : Value) (st : Int) (F : Nat → Bool) (lo bl : Bool) (k i : Nat) (hk : 0 < k) (w : World) (h : WkB w bw sp st F lo bl bm) (hbm : bm < w.heap.size) :
    Calls Tryz.prog 137 #[.pointer (some ⟨bw, 0, none⟩), .agg #[.int .i64 k, .int .i64 i]] w (EndPost bw bm sp st F lo true w) := by
  have hk' : ((k : Int) == 0) = false := by rw [beq_eq_false_iff_ne]; omega
  have hlt := h.lt
  obtain ⟨_, _, _, _, q, _⟩ := h.cells
  obtain ⟨_, _, fr⟩ := h.free'
  go_enter Tryz.func137, Tryz.ntmps137
  go_wp2_with fail
  go_end0
  exact ⟨rfl, ret_end h (Kp2.refl _ _ _) (fun _ => rfl) hbm rfl⟩
set_option maxRecDepth 100000 in
set_option maxHeartbeats 2000000 in
theorem end_zero (bw bm : Nat) (sp : Value) (st : Int) (F : Nat → Bool) (lo bl : Bool) (i : Nat) (hi : i < 27) (w : World) (h : WkB w bw sp st F lo bl bm) (hbm : bm < w.heap.size) :
    Calls Tryz.prog 137 #[.pointer (some ⟨bw, 0, none⟩), .agg #[.int .i64 0, .int .i64 i]] w (EndPost bw bm sp st (fun j => F j || j == i) lo bl w) := by
  have hlt := h.lt
  obtain ⟨_, _, q, _, _, _⟩ := h.cells
  obtain ⟨fr, _, _⟩ := h.free'
  have E := fun w => Lib.hid (implWithB F i w hi)
  go_enter Tryz.func137, Tryz.ntmps137
  go_wp2_with fail
  go_region_with ((go_at_call 66; (with_reducible refine (E _).out.mono ?_); rintro e w2 ⟨rfl, rfl⟩))
  all_goals
    go_end0
    have h2 := ret_end h (Kp2.refl bw bm w) (fun _ => rfl) hbm (o := .cells #[.int .i64 0, .int .i64 i] 145) (j := 2) (v := .int .u32 (nb 27 fun j => F j || j == i : Nat)) (F' := fun j => F j || j == i) rfl
    exact ⟨rfl, h2.1.drew, h2.2.1.next (Below.refl _ _).drew, h2.2.2⟩
theorem end_any (bw bm : Nat) (sp : Value) (st : Int) (F : Nat → Bool) (lo bl : Bool) (x : Pt) (hi : x.2 < 27) (w : World) (h : WkB w bw sp st F lo bl bm) (hbm : bm < w.heap.size) :
    Calls Tryz.prog 137 #[.pointer (some ⟨bw, 0, none⟩), .agg #[.int .i64 x.1, .int .i64 x.2]] w fun e w' => ∃ (F2 : Nat → Bool) (bl2 : Bool), (x.1 = 0 → (∀ j, j < 27 → (F2 j = true ↔ F j = true ∨ j = x.2)) ∧ bl2 = bl) ∧ (x.1 ≠ 0 → (∀ j, j < 27 → F2 j = F j) ∧ bl2 = true) ∧ EndPost bw bm sp st F2 lo bl2 w e w' := by
  by_cases h0 : x.1 = 0
  · rw [h0]
    exact (end_zero bw bm sp st F lo bl x.2 hi w h hbm).mono fun e w' hp => ⟨_, _, fun _ => ⟨fun j _ => by simp, rfl⟩, fun hn => absurd rfl hn, hp⟩
  · exact (end_other bw bm sp st F lo bl x.1 x.2 (by omega) w h hbm).mono fun e w' hp => ⟨_, _, fun hn => absurd hn h0, fun _ => ⟨fun j _ => rfl, rfl⟩, hp⟩
theorem Blk.grown {w w' : World} {b : Nat} {cs : Array Value} {t : TypeId} {row : Option Nat} (h : Blk w b cs t) (hg : w.grownBy w' row) (hr : row ≠ some b) : Blk w' b cs t := (hg.block b h.lt (fun e => hr e.symm)).trans h
end Go.Proofs.YtkgdhlpmlpbbkaaGreat

namespace Go.Proofs.YtkgdhlpmlpbbkaaGreat
open Go.RowKit Tm Go.ChangeMaps

/-- What stays the same throughout. -/
structure WkK where
  G : List Stp
  sp : Value
  st : Int
  bw : Nat
  bm : Nat
  w0 : World
  x0 : Pt
  m : Mp
  F : Nat → Bool
  lo : Bool
  bl : Bool
structure WkJ (K : WkK) (v4 : Value) (W : List Pt) (x : Pt) (m1 : Mp) (F1 : Nat → Bool) (lo1 bl1 : Bool) (w : World) : Prop where
  box : Blk w K.w0.heap.size #[.int .i64 x.1, .int .i64 x.2] 145
  row : w.ownsRow (K.w0.heap.size + 1) 145 2 v4 W.length (ptC W)
  wk : WkB w K.bw K.sp K.st F1 lo1 bl1 K.bm
  mp : MapAt w K.bm m1
  kp : Kp2 K.bw K.bm K.w0 w
  go : Going mdl K.G K.x0 K.m K.F K.lo K.bl W x m1 F1 lo1 bl1
  un : x.1 < K.G.length ∧ x.2 < 27
  cnt : W.length + unk K.G.length m1 ≤ 27 * K.G.length
structure WkH (K : WkK) (w1 : World) (B : Nat) : Prop where
  fl : FlowR w1 B K.sp K.G
  ok : ∀ (k : Nat) (s : Stp), K.G[k]? = some s → StpOk s
  un : ∀ x y : Pt, x.1 < K.G.length ∧ x.2 < 27 → Edge mdl K.G x y → y.1 < K.G.length ∧ y.2 < 27
  top : Top K.G
  bel : Below w1.heap.size w1 K.w0
  hw : w1.heap.size ≤ K.bw ∧ K.bw < K.w0.heap.size
  hm : w1.heap.size ≤ K.bm ∧ K.bm < K.w0.heap.size
  ne : K.bw ≠ K.bm
  pre : Pre mdl K.G K.x0 K.m K.lo
  sm : K.G.length ≤ 1000
def FolPost (K : WkK) (e : Ending) (w' : World) : Prop := e = .returned (.tuple #[]) ∧ ∃ m' F' lo' bl', WkB w' K.bw K.sp K.st F' lo' bl' K.bm ∧ MapAt w' K.bm m' ∧ Kp2 K.bw K.bm K.w0 w' ∧ Went mdl K.G K.x0 K.m K.F K.lo K.bl m' F' lo' bl'

theorem jump_mono {l : Nat} {J J' : Act → World → Prop} {Q : Exit → Act → World → Prop} (h : ∀ a w, J a w → J' a w) : ∀ e a w, Exit.jump l J Q e a w → Exit.jump l J' Q e a w := by
  intro e a w he
  cases e <;> first | exact he | exact ⟨he.1, h _ _ he.2⟩
theorem WkJ.start {K : WkK} {w1 : World} {B : Nat} (hH : WkH K w1 B) (hx0 : K.x0.1 < K.G.length ∧ K.x0.2 < 27) (hwk : WkB K.w0 K.bw K.sp K.st K.F K.lo K.bl K.bm) (hmp : MapAt K.w0 K.bm K.m) :
    WkJ K (.slice none 0 0) [] K.x0 K.m K.F K.lo K.bl (K.w0.alloc (.cells #[.int .i64 K.x0.1, .int .i64 K.x0.2] 145)) where
  box := Blk.new _ _ _
  row := ⟨rfl, .inl ⟨rfl, rfl⟩⟩
  wk := hwk.alloc _
  mp := hmp.kept ((Below.refl _ _).alloc (Nat.le_refl _) _)
  kp := (Kp2.refl _ _ _).put _
  go := Going.start hH.pre
  un := hx0
  cnt := by
    have h1 : unk K.G.length K.m ≤ (univ K.G.length).length := List.countP_le_length
    have h2 : ∀ N, (univ N).length = 27 * N := fun N => by
      unfold univ
      induction N with
      | zero => rfl
      | succ N ih => rw [List.range_succ (n := N), List.flatMap_append, List.length_append, ih]; simp; omega
    rw [h2] at h1
    simpa using h1
theorem WkJ.lookN {K : WkK} {v4 : Value} {W : List Pt} {x : Pt} {m1 : Mp} {F1 : Nat → Bool} {lo1 bl1 : Bool} {w : World} (h : WkJ K v4 W x m1 F1 lo1 bl1 w) (n : Nat) :
    (Instr.lookup 107 (.map (some K.bm)) (.agg #[.int .i64 x.1, .int .i64 x.2]) true).run Tryz.prog (w.drewN n) = .ok (.tuple #[.bool ((m1 x).getD false), .bool (m1 x).isSome]) (w.drewN n) :=
  look_run (h.mp.kept (bdrewN (Below.refl _ _) n)) x

theorem wp_scope_lab {P : Program} {Q : Exit → Act → World → Prop} {a : Act} {w : World} {r1 rest : Code} (l : Nat) (J : Act → World → Prop) (μ : Act → World → Nat) (h1 : findLabel r1 l = none)
    (first : r1.wp P (Exit.then J (fun _ _ _ => False)) a w)
    (pass : ∀ a w, J a w → rest.wp P (Exit.jump l (fun a' w' => J a' w' ∧ μ a' w' < μ a w) Q) a w) : (Code.scope (r1.seq ((Code.label l).seq rest))).wp P Q a w := by
  refine wp_scope_jumps l J μ (rest := .seq .skip rest) (by simp [findLabel, h1]) ?_ ?_
  · refine wp_seq (wp_mono first ?_)
    intro e a w h
    cases e with
    | normal => exact wp_seq (wp_label (wp_mono (pass a w h) (jump_mono fun a w h => h.1)))
    | _ => exact h.elim
  · intro a w h
    exact wp_seq (wp_skip (pass a w h))
/-- What stands behind the label. -/
def FolRest (rest : Code) : Prop := ∃ (fn : Func) (r0 r1 : Code), Tryz.prog.funcs[111]? = some fn ∧ fn.body = some (r0.seq (Code.scope (r1.seq ((Code.label 0).seq rest))))
def FolJ (K : WkK) (P : Pt → Mp → Prop) (a : Act) (w : World) : Prop := ∃ (v4 : Value) (W : List Pt) (x : Pt) (m1 : Mp) (F1 : Nat → Bool) (lo1 bl1 : Bool) (u : Nat → Value), a = { tmps := List.toArray (Value.pointer (some ⟨K.bw, 0, none⟩) :: Value.agg #[.int .i64 K.x0.1, .int .i64 K.x0.2] :: undef :: Value.pointer (some ⟨K.w0.heap.size, 0, none⟩) :: v4 :: u 5 :: u 6 :: u 7 :: u 8 :: u 9 :: u 10 :: u 11 :: u 12 :: u 13 :: u 14 :: u 15 :: u 16 :: u 17 :: u 18 :: u 19 :: u 20 :: u 21 :: u 22 :: u 23 :: u 24 :: u 25 :: u 26 :: u 27 :: u 28 :: u 29 :: u 30 :: u 31 :: u 32 :: u 33 :: u 34 :: u 35 :: u 36 :: u 37 :: u 38 :: u 39 :: u 40 :: u 41 :: u 42 :: u 43 :: u 44 :: u 45 :: u 46 :: u 47 :: u 48 :: u 49 :: u 50 :: u 51 :: u 52 :: u 53 :: u 54 :: u 55 :: u 56 :: u 57 :: u 58 :: u 59 :: u 60 :: u 61 :: u 62 :: u 63 :: u 64 :: u 65 :: u 66 :: u 67 :: u 68 :: u 69 :: u 70 :: u 71 :: u 72 :: u 73 :: u 74 :: u 75 :: u 76 :: u 77 :: u 78 :: u 79 :: u 80 :: u 81 :: []), defers := [] } ∧ WkJ K v4 W x m1 F1 lo1 bl1 w ∧ P x m1
def FolQ (K : WkK) (w : World) (Q : Exit → Act → World → Prop) : Exit → Act → World → Prop := Exit.jump 0 (fun a' w' => FolJ K (fun _ _ => True) a' w' ∧ unk K.G.length (mapIn w' K.bm) < unk K.G.length (mapIn w K.bm)) Q
theorem row_forms {w : World} {B : Nat} {v : Value} {l : List Pt} (h : w.ownsRow B 145 2 v l.length (ptC l)) : ∃ a cap, v = .slice a l.length cap ∧ ∀ k p, l[k]? = some p → ∃ g, a = some ⟨g, 0, none⟩ ∧ B ≤ g ∧ w.cell? ⟨g, k * 2, none⟩ = some (.int .i64 (p.1 : Nat)) ∧ w.cell? ⟨g, k * 2 + 1, none⟩ = some (.int .i64 (p.2 : Nat)) := by
  have h' := h
  obtain ⟨h1, h2⟩ := h
  rcases h2 with ⟨h2, h3⟩ | ⟨g, cap, cur, rfl, b, c, d, _⟩
  · have : l = [] := List.eq_nil_of_length_eq_zero h3
    subst this
    exact ⟨none, 0, h2, fun k p hk => by simp at hk⟩
  · refine ⟨_, cap, rfl, fun k p hk => ⟨g, rfl, b, ?_, ?_⟩⟩
    · have hlt := (List.getElem?_eq_some_iff.1 hk).1
      rw [World.ownsRow.cellAt h' (k * 2) (by omega)]
      exact (ptC_get hk).1
    · have hlt := (List.getElem?_eq_some_iff.1 hk).1
      rw [World.ownsRow.cellAt h' (k * 2 + 1) (by omega)]
      exact (ptC_get hk).2

theorem row_cap {w : World} {B : Nat} {a : Option Addr} {n cap : Nat} {l : List Pt} (h : w.ownsRow B 145 2 (.slice a n cap) l.length (ptC l)) : n ≤ cap := by
  obtain ⟨h1, h2⟩ := h
  rcases h2 with ⟨h2, h3⟩ | ⟨g, cap', cur, e, b, c, d, _⟩
  · injection h2 with _ e1 e2; omega
  · injection e with _ e1 e2; omega
theorem folJ_mk {K : WkK} {P : Pt → Mp → Prop} {L : List Value} {v4 : Value} {W : List Pt} {x : Pt} {m1 : Mp} {F1 : Nat → Bool} {lo1 bl1 : Bool} {w : World}
    (e : L = Value.pointer (some ⟨K.bw, 0, none⟩) :: Value.agg #[.int .i64 K.x0.1, .int .i64 K.x0.2] :: undef :: Value.pointer (some ⟨K.w0.heap.size, 0, none⟩) :: v4 :: L.getD 5 undef :: L.getD 6 undef :: L.getD 7 undef :: L.getD 8 undef :: L.getD 9 undef :: L.getD 10 undef :: L.getD 11 undef :: L.getD 12 undef :: L.getD 13 undef :: L.getD 14 undef :: L.getD 15 undef :: L.getD 16 undef :: L.getD 17 undef :: L.getD 18 undef :: L.getD 19 undef :: L.getD 20 undef :: L.getD 21 undef :: L.getD 22 undef :: L.getD 23 undef :: L.getD 24 undef :: L.getD 25 undef :: L.getD 26 undef :: L.getD 27 undef :: L.getD 28 undef :: L.getD 29 undef :: L.getD 30 undef :: L.getD 31 undef :: L.getD 32 undef :: L.getD 33 undef :: L.getD 34 undef :: L.getD 35 undef :: L.getD 36 undef :: L.getD 37 undef :: L.getD 38 undef :: L.getD 39 undef :: L.getD 40 undef :: L.getD 41 undef :: L.getD 42 undef :: L.getD 43 undef :: L.getD 44 undef :: L.getD 45 undef :: L.getD 46 undef :: L.getD 47 undef :: L.getD 48 undef :: L.getD 49 undef :: L.getD 50 undef :: L.getD 51 undef :: L.getD 52 undef :: L.getD 53 undef :: L.getD 54 undef :: L.getD 55 undef :: L.getD 56 undef :: L.getD 57 undef :: L.getD 58 undef :: L.getD 59 undef :: L.getD 60 undef :: L.getD 61 undef :: L.getD 62 undef :: L.getD 63 undef :: L.getD 64 undef :: L.getD 65 undef :: L.getD 66 undef :: L.getD 67 undef :: L.getD 68 undef :: L.getD 69 undef :: L.getD 70 undef :: L.getD 71 undef :: L.getD 72 undef :: L.getD 73 undef :: L.getD 74 undef :: L.getD 75 undef :: L.getD 76 undef :: L.getD 77 undef :: L.getD 78 undef :: L.getD 79 undef :: L.getD 80 undef :: L.getD 81 undef :: []) (hj : WkJ K v4 W x m1 F1 lo1 bl1 w) (hp : P x m1) : FolJ K P { tmps := L.toArray, defers := [] } w :=
  ⟨v4, W, x, m1, F1, lo1, bl1, fun n => L.getD n undef, by simp only [Act.mk.injEq, and_true]; exact congrArg List.toArray e, hj, hp⟩
/-- What stays behind a store into the map. -/
theorem stored {w0 w : World} {bw bm bx : Nat} (o : Obj) (hne : bw ≠ bm) (hx : bm < bx) {sp : Value} {st : Int} {F : Nat → Bool} {lo bl : Bool} {v : Value} {l : List Pt} (hk : Kp2 bw bm w0 w) (hw : WkB w bw sp st F lo bl bm) (hr : w.ownsRow bx 145 2 v l.length (ptC l)) :
    Kp2 bw bm w0 (setBlock w bm o) ∧ WkB (setBlock w bm o) bw sp st F lo bl bm ∧ (setBlock w bm o).ownsRow bx 145 2 v l.length (ptC l) := by
  refine ⟨hk.setB o, Blk.setB hw hne o, ?_⟩
  obtain ⟨h1, h2⟩ := hr
  refine ⟨h1, ?_⟩
  rcases h2 with h2 | ⟨g, cap, cur, a, b, c, d⟩
  · exact .inl h2
  · refine .inr ⟨g, cap, cur, a, b, ?_, d⟩
    show (w.heap.setIfInBounds bm o)[g]? = _
    rw [Array.getElem?_setIfInBounds_ne (by omega)]; exact c
theorem orow_kept {w w' : World} {B : Nat} {v : Value} {l : List Pt} (h : w.ownsRow B 145 2 v l.length (ptC l)) (hb : Below w.heap.size w w') : w'.ownsRow B 145 2 v l.length (ptC l) := by
  obtain ⟨h1, h2⟩ := h
  refine ⟨h1, ?_⟩
  rcases h2 with h2 | ⟨g, cap, cur, a, b, c, d⟩
  · exact .inl h2
  · exact .inr ⟨g, cap, cur, a, b, (hb.block g (Array.getElem?_eq_some_iff.1 c).1).trans c, d⟩
theorem orow_len {w : World} {B : Nat} {v : Value} {l : List Pt} (h : w.ownsRow B 145 2 v l.length (ptC l)) : l.length ≤ maxLen := by
  obtain ⟨h1, h2⟩ := h
  rcases h2 with ⟨_, h2⟩ | ⟨g, cap, cur, e, f, c, d, d2, _⟩
  · omega
  · omega
theorem orow_kp2 {w w' : World} {B a b : Nat} {v : Value} {l : List Pt} (h : w.ownsRow B 145 2 v l.length (ptC l)) (hk : Kp2 a b w w') (ha : a < B) (hb : b < B) : w'.ownsRow B 145 2 v l.length (ptC l) := by
  obtain ⟨h1, h2⟩ := h
  refine ⟨h1, ?_⟩
  rcases h2 with h2 | ⟨g, cap, cur, e, f, c, d⟩
  · exact .inl h2
  · exact .inr ⟨g, cap, cur, e, f, (hk.block g (Array.getElem?_eq_some_iff.1 c).1 (by omega) (by omega)).trans c, d⟩

set_option maxRecDepth 1000000 in
set_option maxHeartbeats 4000000 in
theorem pass_known (K : WkK) (w1 : World) (B : Nat) (hH : WkH K w1 B) (rest : Code) (hr : FolRest rest) (b : Bool) (a : Act) (w : World) (hJ : FolJ K (fun x m1 => m1 x = some b) a w) : rest.wp Tryz.prog (FolQ K w (bodyPost Tryz.prog Tryz.f111 (FolPost K))) a w := by
  obtain ⟨fn, r0, r1, h1, h2⟩ := hr
  have h3 := Tryz.func111
  rw [h1] at h3
  injection h3 with h3
  subst h3
  simp only [Tryz.f111, Option.some.injEq, Code.seq.injEq, Code.scope.injEq] at h2
  obtain ⟨rfl, rfl, _, rfl⟩ := h2
  clear h1
  unfold FolJ at hJ
  obtain ⟨v4, W, x, m1, F1, lo1, bl1, u, rfl, hj, hm⟩ := hJ
  obtain ⟨q0, q1, q2, q3, q4, q5⟩ := hj.wk.cells
  obtain ⟨f2, f3, f4⟩ := hj.wk.free'
  have b0 := hj.box.cell 0
  have b1 := hj.box.cell 1
  simp at b0 b1
  have hl := hj.lookN
  obtain ⟨a, cap, rfl, hrow⟩ := row_forms hj.row
  clear hrow
  have HJ := Lib.hid hj
  have HH := Lib.hid hH
  clear hH
  simp only [hm, Option.getD_some, Option.isSome_some] at hl
  cases lo1
  · have HE := Lib.hid (show Ended mdl K.G K.x0 K.m K.F K.lo K.bl W m1 F1 (b) bl1 from by have := hj.go.known HH.out.pre hm; simpa using this)
    clear hm hj
    go_wp2_with fail
    go_quiet (fail)
    go_wp2_with fail
    have hb0 := bdrewN (Below.refl w.heap.size w) nq
    have T1 := Lib.hid ((HJ.out.mp.kept hb0).setCell (a := ⟨K.bw, 3, none⟩) (by exact fun e => HH.out.ne e.symm) (.bool b))
    have T2 : Hid (WkB ((w.drewN nq).setCell ⟨K.bw, 3, none⟩ (.bool b)) K.bw K.sp K.st F1 b bl1 K.bm) := by have := Blk.set (Blk.kept HJ.out.wk hb0) 3 (.bool b); exact this
    have T3 := Lib.hid ((HJ.out.kp.next hb0).setA 3 (.bool b))
    have T4 := Lib.hid (orow_kp2 (orow_kept HJ.out.row hb0) ((Kp2.refl K.bw K.bm _).setA 3 (.bool b)) (by have := HH.out.hw.2; omega) (by have := HH.out.hm.2; omega))
    have HN : Hid (W.length = W.length) := rfl
    clear hb0 q0 q1 q2 q3 q4 q5 f2 f3 f4 b0 b1 hl HJ
    generalize (w.drewN nq).setCell ⟨K.bw, 3, none⟩ (.bool b) = wt at *
    go_loopw [72] (fun i wr => ∃ k : Nat, k ≤ W.length ∧ i = .int .i64 k ∧ Hid (MapAt wr K.bm (unmark (W.take k) m1)) ∧ Hid (WkB wr K.bw K.sp K.st F1 b bl1 K.bm) ∧ Hid (Kp2 K.bw K.bm K.w0 wr) ∧ Hid (wr.ownsRow (K.w0.heap.size + 1) 145 2 (.slice a W.length cap) W.length (ptC W))) (fun i _ => W.length - (intOf i).toNat)
    case atStart => exact ⟨0, by omega, rfl, by rw [List.take_zero, unmark_zero]; exact T1.out, T2, T3, T4⟩
    case round =>
      clear T1 T2 T3 T4
      obtain ⟨k, hk, rfl, R1, R2, R3, R4⟩ := hrel
      by_cases hlt : k < W.length
      · have hlt2 : (k : Int) < W.length := by omega
        obtain ⟨a', cap', e1, hcell⟩ := row_forms R4.out
        injection e1 with e1 e3 e2
        clear e3
        subst e1 e2
        obtain ⟨p, hp⟩ : ∃ p, W[k]? = some p := ⟨_, List.getElem?_eq_getElem (by rw [HN.out]; exact hlt)⟩
        obtain ⟨g, rfl, hg, c0, c1⟩ := hcell k p hp
        have HS : Hid (W.take (k + 1) = W.take k ++ [p]) := by show _ = _; rw [List.take_add_one, hp]; rfl
        clear hp
        clear hcell
        have HM2 := Lib.hid HH.out.hm.2
        have HNE := Lib.hid HH.out.ne
        obtain ⟨z0, z1, z2, z3, z4, z5⟩ := R2.out.cells
        have bx := (Below.refl wr.heap.size wr).alloc (Nat.le_refl _) (.cells #[.int .i64 p.1, .int .i64 p.2] 145)
        have M1 := Lib.hid (R1.out.kept bx)
        obtain ⟨o, ho, hat⟩ := store_run R1.out p false
        have hs1 : (Instr.mapUpdate 107 (.map (some K.bm)) (.agg #[.int .i64 p.1, .int .i64 p.2]) (.bool false)).run Tryz.prog (wr.alloc (.cells #[.int .i64 p.1, .int .i64 p.2] 145)).drew = .ok () (setBlock (wr.alloc (.cells #[.int .i64 p.1, .int .i64 p.2] 145)).drew K.bm o) :=
          ho _ (bx.drew.block K.bm R1.out.lt)
        have HAT := Lib.hid (hat (wr.alloc (.cells #[.int .i64 p.1, .int .i64 p.2] 145)).drew (by have := R1.out.lt; have := bx.drew.size; omega))
        have HST := Lib.hid (stored o HNE.out (bx := K.w0.heap.size + 1) (by have := HM2.out; omega) (R3.out.next bx.drew) (Blk.kept R2.out bx.drew) (orow_kept R4.out bx.drew))
        have hlt3 : K.bw < wr.heap.size := R2.out.lt
        have hk63 : (k : Int) + 1 ≤ 9223372036854775807 := by have := orow_len R4.out; rw [HN.out] at this; unfold maxLen at this; omega
        have bxd := Lib.hid bx.drew
        clear ho hat bx
        go_wp2_with fail
        refine wp_region_still_tail 5 (by kernel_rfl) (by kernel_rfl) ?_
        change wpStill _ _ (World.drew _) (fun a' => wpList _ _ _ _ a' (World.drew _)) _ _
        have y0 : (wr.alloc (.cells #[.int .i64 p.1, .int .i64 p.2] 145)).drew.cell? ⟨wr.heap.size, 0, none⟩ = some (.int .i64 p.1) := (Blk.new wr #[.int .i64 p.1, .int .i64 p.2] 145).drew.cell 0
        have y1 : (wr.alloc (.cells #[.int .i64 p.1, .int .i64 p.2] 145)).drew.cell? ⟨wr.heap.size, 1, none⟩ = some (.int .i64 p.2) := (Blk.new wr #[.int .i64 p.1, .int .i64 p.2] 145).drew.cell 1
        have y5 := ckeep bxd.out z5
        clear z0 z1 z2 z3 z4 z5 c0 c1
        generalize (wr.alloc (.cells #[.int .i64 p.1, .int .i64 p.2] 145)).drew = wd at *
        simp only [List.take_succ_cons, List.take_zero, List.drop_succ_cons, List.drop_zero]
        repeat still_step
        refine wpStill_nil ?_
        go_wp2_with fail
        refine ⟨⟨k + 1, by omega, by go_num, ?_, HST.out.2.1, HST.out.1, HST.out.2.2⟩, by simp [intOf]; omega⟩
        rw [HS.out, unmark_snoc]
        exact HAT.out
      · have hk2 : k = W.length := by omega
        subst hk2
        have R1' := Lib.hid (show MapAt wr K.bm (unmark W m1) from by have := R1.out; rwa [List.take_of_length_le (by rw [HN.out]; exact Nat.le_refl _)] at this)
        clear R1
        go_wp2_with fail
        unfold FolQ
        simp only [Exit.jump]
        go_end0
        exact ⟨rfl, _, _, _, _, R2.out, R1'.out, R3.out, HE.out.went⟩
  · have HE := Lib.hid (show Ended mdl K.G K.x0 K.m K.F K.lo K.bl W m1 F1 (true) bl1 from by have := hj.go.known HH.out.pre hm; simpa using this)
    clear hm hj
    go_wp2_with fail
    go_quiet (fail)
    go_wp2_with fail
    have hb0 := bdrewN (Below.refl w.heap.size w) nq
    have T1 := Lib.hid ((HJ.out.mp.kept hb0).setCell (a := ⟨K.bw, 3, none⟩) (by exact fun e => HH.out.ne e.symm) (.bool true))
    have T2 : Hid (WkB ((w.drewN nq).setCell ⟨K.bw, 3, none⟩ (.bool true)) K.bw K.sp K.st F1 true bl1 K.bm) := by have := Blk.set (Blk.kept HJ.out.wk hb0) 3 (.bool true); exact this
    have T3 := Lib.hid ((HJ.out.kp.next hb0).setA 3 (.bool true))
    have T4 := Lib.hid (orow_kp2 (orow_kept HJ.out.row hb0) ((Kp2.refl K.bw K.bm _).setA 3 (.bool true)) (by have := HH.out.hw.2; omega) (by have := HH.out.hm.2; omega))
    have HN : Hid (W.length = W.length) := rfl
    clear hb0 q0 q1 q2 q3 q4 q5 f2 f3 f4 b0 b1 hl HJ
    generalize (w.drewN nq).setCell ⟨K.bw, 3, none⟩ (.bool true) = wt at *
    go_loopw [72] (fun i wr => ∃ k : Nat, k ≤ W.length ∧ i = .int .i64 k ∧ Hid (MapAt wr K.bm (unmark (W.take k) m1)) ∧ Hid (WkB wr K.bw K.sp K.st F1 true bl1 K.bm) ∧ Hid (Kp2 K.bw K.bm K.w0 wr) ∧ Hid (wr.ownsRow (K.w0.heap.size + 1) 145 2 (.slice a W.length cap) W.length (ptC W))) (fun i _ => W.length - (intOf i).toNat)
    case atStart => exact ⟨0, by omega, rfl, by rw [List.take_zero, unmark_zero]; exact T1.out, T2, T3, T4⟩
    case round =>
      clear T1 T2 T3 T4
      obtain ⟨k, hk, rfl, R1, R2, R3, R4⟩ := hrel
      by_cases hlt : k < W.length
      · have hlt2 : (k : Int) < W.length := by omega
        obtain ⟨a', cap', e1, hcell⟩ := row_forms R4.out
        injection e1 with e1 e3 e2
        clear e3
        subst e1 e2
        obtain ⟨p, hp⟩ : ∃ p, W[k]? = some p := ⟨_, List.getElem?_eq_getElem (by rw [HN.out]; exact hlt)⟩
        obtain ⟨g, rfl, hg, c0, c1⟩ := hcell k p hp
        have HS : Hid (W.take (k + 1) = W.take k ++ [p]) := by show _ = _; rw [List.take_add_one, hp]; rfl
        clear hp
        clear hcell
        have HM2 := Lib.hid HH.out.hm.2
        have HNE := Lib.hid HH.out.ne
        obtain ⟨z0, z1, z2, z3, z4, z5⟩ := R2.out.cells
        have bx := (Below.refl wr.heap.size wr).alloc (Nat.le_refl _) (.cells #[.int .i64 p.1, .int .i64 p.2] 145)
        have M1 := Lib.hid (R1.out.kept bx)
        obtain ⟨o, ho, hat⟩ := store_run R1.out p false
        have hs1 : (Instr.mapUpdate 107 (.map (some K.bm)) (.agg #[.int .i64 p.1, .int .i64 p.2]) (.bool false)).run Tryz.prog (wr.alloc (.cells #[.int .i64 p.1, .int .i64 p.2] 145)).drew = .ok () (setBlock (wr.alloc (.cells #[.int .i64 p.1, .int .i64 p.2] 145)).drew K.bm o) :=
          ho _ (bx.drew.block K.bm R1.out.lt)
        have HAT := Lib.hid (hat (wr.alloc (.cells #[.int .i64 p.1, .int .i64 p.2] 145)).drew (by have := R1.out.lt; have := bx.drew.size; omega))
        have HST := Lib.hid (stored o HNE.out (bx := K.w0.heap.size + 1) (by have := HM2.out; omega) (R3.out.next bx.drew) (Blk.kept R2.out bx.drew) (orow_kept R4.out bx.drew))
        have hlt3 : K.bw < wr.heap.size := R2.out.lt
        have hk63 : (k : Int) + 1 ≤ 9223372036854775807 := by have := orow_len R4.out; rw [HN.out] at this; unfold maxLen at this; omega
        have bxd := Lib.hid bx.drew
        clear ho hat bx
        go_wp2_with fail
        refine wp_region_still_tail 5 (by kernel_rfl) (by kernel_rfl) ?_
        change wpStill _ _ (World.drew _) (fun a' => wpList _ _ _ _ a' (World.drew _)) _ _
        have y0 : (wr.alloc (.cells #[.int .i64 p.1, .int .i64 p.2] 145)).drew.cell? ⟨wr.heap.size, 0, none⟩ = some (.int .i64 p.1) := (Blk.new wr #[.int .i64 p.1, .int .i64 p.2] 145).drew.cell 0
        have y1 : (wr.alloc (.cells #[.int .i64 p.1, .int .i64 p.2] 145)).drew.cell? ⟨wr.heap.size, 1, none⟩ = some (.int .i64 p.2) := (Blk.new wr #[.int .i64 p.1, .int .i64 p.2] 145).drew.cell 1
        have y5 := ckeep bxd.out z5
        clear z0 z1 z2 z3 z4 z5 c0 c1
        generalize (wr.alloc (.cells #[.int .i64 p.1, .int .i64 p.2] 145)).drew = wd at *
        simp only [List.take_succ_cons, List.take_zero, List.drop_succ_cons, List.drop_zero]
        repeat still_step
        refine wpStill_nil ?_
        go_wp2_with fail
        refine ⟨⟨k + 1, by omega, by go_num, ?_, HST.out.2.1, HST.out.1, HST.out.2.2⟩, by simp [intOf]; omega⟩
        rw [HS.out, unmark_snoc]
        exact HAT.out
      · have hk2 : k = W.length := by omega
        subst hk2
        have R1' := Lib.hid (show MapAt wr K.bm (unmark W m1) from by have := R1.out; rwa [List.take_of_length_le (by rw [HN.out]; exact Nat.le_refl _)] at this)
        clear R1
        go_wp2_with fail
        unfold FolQ
        simp only [Exit.jump]
        go_end0
        exact ⟨rfl, _, _, _, _, R2.out, R1'.out, R3.out, HE.out.went⟩
end Go.Proofs.YtkgdhlpmlpbbkaaGreat

namespace Go.Proofs.YtkgdhlpmlpbbkaaGreat
open Go.RowKit Tm Go.ChangeMaps

set_option maxRecDepth 1000000 in
set_option maxHeartbeats 4000000 in
theorem pass_last (K : WkK) (w1 : World) (B : Nat) (hH : WkH K w1 B) (rest : Code) (hr : FolRest rest)  (a : Act) (w : World) (hJ : FolJ K (fun x m1 => m1 x = none ∧ nxp mdl K.G x = []) a w) : rest.wp Tryz.prog (FolQ K w (bodyPost Tryz.prog Tryz.f111 (FolPost K))) a w := by
  obtain ⟨fn, r0, r1, h1, h2⟩ := hr
  have h3 := Tryz.func111
  rw [h1] at h3
  injection h3 with h3
  subst h3
  simp only [Tryz.f111, Option.some.injEq, Code.seq.injEq, Code.scope.injEq] at h2
  obtain ⟨rfl, rfl, _, rfl⟩ := h2
  clear h1
  unfold FolJ at hJ
  obtain ⟨v4, W, x, m1, F1, lo1, bl1, u, rfl, hj, hm⟩ := hJ
  obtain ⟨q0, q1, q2, q3, q4, q5⟩ := hj.wk.cells
  obtain ⟨f2, f3, f4⟩ := hj.wk.free'
  have b0 := hj.box.cell 0
  have b1 := hj.box.cell 1
  simp at b0 b1
  have hl := hj.lookN
  obtain ⟨a, cap, rfl, hrow⟩ := row_forms hj.row
  clear hrow
  have HJ := Lib.hid hj
  have HH := Lib.hid hH
  clear hH
  obtain ⟨hm, hnx⟩ := hm
  simp only [hm, Option.getD_none, Option.isSome_none] at hl
  have HG := Lib.hid hj.go
  have HM := Lib.hid hm
  have HX := Lib.hid hnx
  have HU := Lib.hid hj.un
  have HC := Lib.hid (show W.length ≤ 27000 from by have := hj.cnt; have := HH.out.sm; omega)
  have HCN := Lib.hid hj.cnt
  obtain ⟨i0, hi0, hz0, hz1, hz2⟩ := info_parts infoPt
  clear hm hnx hj
  cases lo1
  · skip
    go_wp2_with fail
    go_quiet (fail)
    go_wp2_with fail
    have hb0 := bdrewN (Below.refl w.heap.size w) nq
    have A1 := Lib.hid ((HJ.out.mp.kept hb0).setCell (a := ⟨K.bw, 3, none⟩) (by exact fun e => HH.out.ne e.symm) (.bool false))
    have A2 : WkB ((w.drewN nq).setCell ⟨K.bw, 3, none⟩ (.bool false)) K.bw K.sp K.st F1 false bl1 K.bm := by have := Blk.set (Blk.kept HJ.out.wk hb0) 3 (.bool false); exact this
    have A3 := Lib.hid ((HJ.out.kp.next hb0).setA 3 (.bool false))
    have A4 := Lib.hid (orow_kp2 (orow_kept HJ.out.row hb0) ((Kp2.refl K.bw K.bm _).setA 3 (.bool false)) (by have := HH.out.hw.2; omega) (by have := HH.out.hm.2; omega))
    have A5 := (Blk.kept HJ.out.box hb0).setOther (p := ⟨K.bw, 3, none⟩) (by have := HH.out.hw.2; simp; omega) (.bool false)
    clear hb0 q0 q1 q2 q3 q4 q5 f2 f3 f4 b0 b1 hl HJ
    generalize (w.drewN nq).setCell ⟨K.bw, 3, none⟩ (.bool false) = wA at *
    refine wp_region_still_tail 5 (by kernel_rfl) (by kernel_rfl) ?_
    change wpStill _ _ (World.drew _) (fun a' => wpList _ _ _ _ a' (World.drew _)) _ _
    have bd := (Below.refl wA.heap.size wA).drew
    have y5 := ckeep bd A2.cells.2.2.2.2.2
    have y0 : wA.drew.cell? ⟨K.w0.heap.size, 0, none⟩ = some (.int .i64 x.1) := ckeep bd (A5.cell 0)
    have y1 : wA.drew.cell? ⟨K.w0.heap.size, 1, none⟩ = some (.int .i64 x.2) := ckeep bd (A5.cell 1)
    obtain ⟨o, ho, hat⟩ := store_run A1.out x true
    have hs1 : (Instr.mapUpdate 107 (.map (some K.bm)) (.agg #[.int .i64 x.1, .int .i64 x.2]) (.bool true)).run Tryz.prog wA.drew = .ok () (setBlock wA.drew K.bm o) := ho _ (bd.block K.bm A1.out.lt)
    have B1 := Lib.hid (hat wA.drew (by have := A1.out.lt; have := bd.size; omega))
    have HST := stored o HH.out.ne (bx := K.w0.heap.size + 1) (by have := HH.out.hm.2; omega) (A3.out.next bd) (Blk.kept A2 bd) (orow_kept A4.out bd)
    have B2 := HST.2.1
    have B3 := Lib.hid HST.1
    have B4 := Lib.hid HST.2.2
    have B5 := (Blk.kept A5 bd).setB (k := K.bm) (by have := HH.out.hm.2; omega) o
    clear ho hat HST A1 A2 A3 A4 A5 bd
    have HW : Hid (wA.drew = wA.drew) := rfl
    generalize hwd : wA.drew = wd at *
    clear HW hwd
    simp only [List.take_succ_cons, List.take_zero, List.drop_succ_cons, List.drop_zero]
    repeat still_step
    refine wpStill_nil ?_
    clear y5 y0 y1
    generalize setBlock wd K.bm o = wB at *
    have hlen := Lib.hid HC.out
    have x0 : wB.cell? ⟨K.w0.heap.size, 0, none⟩ = some (.int .i64 x.1) := B5.cell 0
    have x1 : wB.cell? ⟨K.w0.heap.size, 1, none⟩ = some (.int .i64 x.2) := B5.cell 1
    have hbig : K.w0.heap.size + 1 ≤ wB.heap.size := by have := B5.lt; omega
    have bxx := (Below.refl wB.heap.size wB).alloc (Nat.le_refl _) (.cells #[.int .i64 x.1, .int .i64 x.2] 145)
    have C1 := Lib.hid (B1.out.kept bxx)
    have C2 := Lib.hid (Blk.kept B2 bxx)
    have C3 := Lib.hid (B3.out.next bxx)
    have C5 := Lib.hid (Blk.kept B5 bxx)
    have HB5 := Lib.hid B5
    have hblt : K.w0.heap.size < wB.heap.size := B5.lt
    clear B5 B1 B3 bxx
    go_wp2_with (at_builtin; refine wpList_append_lies _ (by rfl) _ _ _ (by rfl) (K.w0.heap.size + 1) 145 i0 _ 2 16 Tryz.underlying179 hi0 hz0 hz1 hz2 rfl (by omega) _ W.length (ptC W) (by rfl) (World.ownsRow.alloc B4.out _) ⟨wB.heap.size, 0, none⟩ 1 1 [.int .i64 (x.1 : Int), .int .i64 (x.2 : Int)] (by rfl) (by rfl) (World.news_of_block (cs := #[.int .i64 (x.1 : Int), .int .i64 (x.2 : Int)]) (t := 145) (fr := (0, 0)) (heap_alloc_new wB _)) (by simp [Value.oneCell']) (by omega) (by have := hlen.out; unfold maxLen; omega) (by have := hlen.out; omega) (by simp; omega) (wB.heap.size + 1) (by simp) ?_; intro g3 cap3 w3 hown hgrow hat hlt3)
    have hnr : ∀ k, (Value.slice a W.length cap).ownBlock = some k → K.w0.heap.size + 1 ≤ k := fun k hk => (World.ownsRow.lt B4.out k hk).1
    have D1 := Lib.hid (C1.out.grown hgrow (fun e => by have := hnr _ e; have := HH.out.hm.2; omega))
    have D2 : WkB w3 K.bw K.sp K.st F1 false bl1 K.bm := Blk.grown C2.out hgrow (fun e => by have := hnr _ e; have := HH.out.hw.2; omega)
    have D3 := Lib.hid (C3.out.grown hgrow (fun k hk => by have := hnr k hk; omega))
    have D4 : Hid (w3.ownsRow (K.w0.heap.size + 1) 145 2 (.slice (some ⟨g3, 0, none⟩) (W.length + 1) cap3) (W ++ [x]).length (ptC (W ++ [x]))) := by show World.ownsRow _ _ _ _ _ _ _; rw [List.length_append, ptC_app]; exact hown
    have D5 := Blk.grown C5.out hgrow (fun e => by have := hnr _ e; omega)
    clear hnr hown hgrow hat hlt3 C1 C2 C3 C5 HB5 B2 B4 x0 x1 hs1 hbig hblt hlen
    refine wp_region_still_tail 5 (by kernel_rfl) (by kernel_rfl) ?_
    change wpStill _ _ (World.drew _) (fun a' => wpList _ _ _ _ a' (World.drew _)) _ _
    have bd := (Below.refl w3.heap.size w3).drew
    have y0 := ckeep bd D2.cells.1
    have y1 := ckeep bd D2.cells.2.1
    have x0 : w3.drew.cell? ⟨K.w0.heap.size, 0, none⟩ = some (.int .i64 x.1) := ckeep bd (D5.cell 0)
    have x1 : w3.drew.cell? ⟨K.w0.heap.size, 1, none⟩ = some (.int .i64 x.2) := ckeep bd (D5.cell 1)
    have E1 := Lib.hid (D1.out.kept bd)
    have E2 := Lib.hid (Blk.kept D2 bd)
    have E3 := Lib.hid (D3.out.next bd)
    have E4 := Lib.hid (orow_kept D4.out bd)
    have E5 := Lib.hid (Blk.kept D5 bd)
    clear D1 D2 D3 D4 D5 bd
    generalize w3.drew = wE at *
    simp only [List.take_succ_cons, List.take_zero, List.drop_succ_cons, List.drop_zero]
    repeat still_step
    refine wpStill_nil ?_
    clear y0 y1 x0 x1
    have CF : Calls Tryz.prog 136 #[.agg #[K.sp, .int .i64 K.st], .agg #[.int .i64 x.1, .int .i64 x.2]] wE (FollPost (nxp mdl K.G x) wE) :=
      foll_any HH.out.fl HH.out.ok K.st x HU.out.1 HU.out.2 ((HH.out.bel).trans (E3.out.below HH.out.hw.1 HH.out.hm.1 HH.out.bel.size))
    rw [HX.out] at CF
    have HCF := Lib.hid CF
    clear CF
    go_wp2_with fail
    refine HCF.out.mono ?_
    rintro e w4 ⟨v7, rfl, hv7, hb⟩
    have F1' := Lib.hid (E1.out.kept hb)
    have F2' := Lib.hid (Blk.kept E2.out hb)
    have F3' := Lib.hid (E3.out.next hb)
    have F4' := Lib.hid (orow_kept E4.out hb)
    have F5' := Blk.kept E5.out hb
    have hwE : K.w0.heap.size ≤ wE.heap.size := E3.out.size
    clear hb E1 E2 E3 E4 E5 HCF
    obtain ⟨a7, cap7, rfl, h7⟩ := row_forms hv7
    clear h7 hv7
    have y0 : w4.cell? ⟨K.w0.heap.size, 0, none⟩ = some (.int .i64 x.1) := F5'.cell 0
    have y1 : w4.cell? ⟨K.w0.heap.size, 1, none⟩ = some (.int .i64 x.2) := F5'.cell 1
    have HEN := Lib.hid (end_any K.bw K.bm K.sp K.st F1 false bl1 x HU.out.2 w4 F2'.out F1'.out.lt)
    clear F5'
    simp only [List.length_nil]
    go_wp2_with fail
    refine HEN.out.mono ?_
    rintro e w5 ⟨F2, bl2, g0, g1, rfl, k1, k2, k3⟩
    have HE := Lib.hid (HG.out.last HM.out HX.out g0 g1)
    have T1 := Lib.hid (F1'.out.of (k3 (fun e => HH.out.ne e.symm)))
    have T2 := Lib.hid k1
    have T3 := Lib.hid (F3'.out.trans k2)
    have T4 := Lib.hid (orow_kp2 F4'.out k2 (by have := HH.out.hw.2; omega) (by have := HH.out.hm.2; omega))
    have HN : Hid ((W ++ [x]).length = W.length + 1) := by show _ = _; simp
    clear g0 g1 k1 k2 k3 HEN F1' F2' F3' F4' y0 y1
    generalize (some (⟨g3, 0, none⟩ : Addr)) = a3 at *
    go_wp2_with fail
    go_loopw [72] (fun i wr => ∃ k : Nat, k ≤ (W.length + 1) ∧ i = .int .i64 k ∧ Hid (MapAt wr K.bm (unmark ((W ++ [x]).take k) (upd m1 x true))) ∧ Hid (WkB wr K.bw K.sp K.st F2 false bl2 K.bm) ∧ Hid (Kp2 K.bw K.bm K.w0 wr) ∧ Hid (wr.ownsRow (K.w0.heap.size + 1) 145 2 (.slice a3 (W.length + 1) cap3) (W ++ [x]).length (ptC (W ++ [x])))) (fun i _ => (W.length + 1) - (intOf i).toNat)
    case atStart => exact ⟨0, by omega, rfl, by rw [List.take_zero, unmark_zero]; exact T1.out, T2, T3, T4⟩
    case round =>
      clear T1 T2 T3 T4
      obtain ⟨k, hk, rfl, R1, R2, R3, R4⟩ := hrel
      by_cases hlt : k < (W.length + 1)
      · have hlt2 : (k : Int) < (W.length + 1) := by omega
        obtain ⟨a', cap', e1, hcell⟩ := row_forms R4.out
        injection e1 with e1 e3 e2
        clear e3
        subst e1 e2
        obtain ⟨p, hp⟩ : ∃ p, (W ++ [x])[k]? = some p := ⟨_, List.getElem?_eq_getElem (by rw [HN.out]; exact hlt)⟩
        obtain ⟨g, rfl, hg, c0, c1⟩ := hcell k p hp
        have HS : Hid ((W ++ [x]).take (k + 1) = (W ++ [x]).take k ++ [p]) := by show _ = _; rw [List.take_add_one, hp]; rfl
        clear hp
        clear hcell
        have HM2 := Lib.hid HH.out.hm.2
        have HNE := Lib.hid HH.out.ne
        obtain ⟨z0, z1, z2, z3, z4, z5⟩ := R2.out.cells
        have bx := (Below.refl wr.heap.size wr).alloc (Nat.le_refl _) (.cells #[.int .i64 p.1, .int .i64 p.2] 145)
        have M1 := Lib.hid (R1.out.kept bx)
        obtain ⟨o, ho, hat⟩ := store_run R1.out p false
        have hs1 : (Instr.mapUpdate 107 (.map (some K.bm)) (.agg #[.int .i64 p.1, .int .i64 p.2]) (.bool false)).run Tryz.prog (wr.alloc (.cells #[.int .i64 p.1, .int .i64 p.2] 145)).drew = .ok () (setBlock (wr.alloc (.cells #[.int .i64 p.1, .int .i64 p.2] 145)).drew K.bm o) :=
          ho _ (bx.drew.block K.bm R1.out.lt)
        have HAT := Lib.hid (hat (wr.alloc (.cells #[.int .i64 p.1, .int .i64 p.2] 145)).drew (by have := R1.out.lt; have := bx.drew.size; omega))
        have HST := Lib.hid (stored o HNE.out (bx := K.w0.heap.size + 1) (by have := HM2.out; omega) (R3.out.next bx.drew) (Blk.kept R2.out bx.drew) (orow_kept R4.out bx.drew))
        have hlt3 : K.bw < wr.heap.size := R2.out.lt
        have hk63 : (k : Int) + 1 ≤ 9223372036854775807 := by have := orow_len R4.out; rw [HN.out] at this; unfold maxLen at this; omega
        have bxd := Lib.hid bx.drew
        clear ho hat bx
        go_wp2_with fail
        refine wp_region_still_tail 5 (by kernel_rfl) (by kernel_rfl) ?_
        change wpStill _ _ (World.drew _) (fun a' => wpList _ _ _ _ a' (World.drew _)) _ _
        have y0 : (wr.alloc (.cells #[.int .i64 p.1, .int .i64 p.2] 145)).drew.cell? ⟨wr.heap.size, 0, none⟩ = some (.int .i64 p.1) := (Blk.new wr #[.int .i64 p.1, .int .i64 p.2] 145).drew.cell 0
        have y1 : (wr.alloc (.cells #[.int .i64 p.1, .int .i64 p.2] 145)).drew.cell? ⟨wr.heap.size, 1, none⟩ = some (.int .i64 p.2) := (Blk.new wr #[.int .i64 p.1, .int .i64 p.2] 145).drew.cell 1
        have y5 := ckeep bxd.out z5
        clear z0 z1 z2 z3 z4 z5 c0 c1
        generalize (wr.alloc (.cells #[.int .i64 p.1, .int .i64 p.2] 145)).drew = wd at *
        simp only [List.take_succ_cons, List.take_zero, List.drop_succ_cons, List.drop_zero]
        repeat still_step
        refine wpStill_nil ?_
        go_wp2_with fail
        refine ⟨⟨k + 1, by omega, by go_num, ?_, HST.out.2.1, HST.out.1, HST.out.2.2⟩, by simp [intOf]; omega⟩
        rw [HS.out, unmark_snoc]
        exact HAT.out
      · have hk2 : k = (W.length + 1) := by omega
        subst hk2
        have R1' := Lib.hid (show MapAt wr K.bm (unmark (W ++ [x]) (upd m1 x true)) from by have := R1.out; rwa [List.take_of_length_le (by rw [HN.out]; exact Nat.le_refl _)] at this)
        clear R1
        go_wp2_with fail
        unfold FolQ
        simp only [Exit.jump]
        go_end0
        exact ⟨rfl, _, _, _, _, R2.out, R1'.out, R3.out, HE.out.went⟩
  · skip
    go_wp2_with fail
    go_quiet (fail)
    go_wp2_with fail
    have hb0 := bdrewN (Below.refl w.heap.size w) nq
    have A1 := Lib.hid ((HJ.out.mp.kept hb0).setCell (a := ⟨K.bw, 3, none⟩) (by exact fun e => HH.out.ne e.symm) (.bool true))
    have A2 : WkB ((w.drewN nq).setCell ⟨K.bw, 3, none⟩ (.bool true)) K.bw K.sp K.st F1 true bl1 K.bm := by have := Blk.set (Blk.kept HJ.out.wk hb0) 3 (.bool true); exact this
    have A3 := Lib.hid ((HJ.out.kp.next hb0).setA 3 (.bool true))
    have A4 := Lib.hid (orow_kp2 (orow_kept HJ.out.row hb0) ((Kp2.refl K.bw K.bm _).setA 3 (.bool true)) (by have := HH.out.hw.2; omega) (by have := HH.out.hm.2; omega))
    have A5 := (Blk.kept HJ.out.box hb0).setOther (p := ⟨K.bw, 3, none⟩) (by have := HH.out.hw.2; simp; omega) (.bool true)
    clear hb0 q0 q1 q2 q3 q4 q5 f2 f3 f4 b0 b1 hl HJ
    generalize (w.drewN nq).setCell ⟨K.bw, 3, none⟩ (.bool true) = wA at *
    refine wp_region_still_tail 5 (by kernel_rfl) (by kernel_rfl) ?_
    change wpStill _ _ (World.drew _) (fun a' => wpList _ _ _ _ a' (World.drew _)) _ _
    have bd := (Below.refl wA.heap.size wA).drew
    have y5 := ckeep bd A2.cells.2.2.2.2.2
    have y0 : wA.drew.cell? ⟨K.w0.heap.size, 0, none⟩ = some (.int .i64 x.1) := ckeep bd (A5.cell 0)
    have y1 : wA.drew.cell? ⟨K.w0.heap.size, 1, none⟩ = some (.int .i64 x.2) := ckeep bd (A5.cell 1)
    obtain ⟨o, ho, hat⟩ := store_run A1.out x true
    have hs1 : (Instr.mapUpdate 107 (.map (some K.bm)) (.agg #[.int .i64 x.1, .int .i64 x.2]) (.bool true)).run Tryz.prog wA.drew = .ok () (setBlock wA.drew K.bm o) := ho _ (bd.block K.bm A1.out.lt)
    have B1 := Lib.hid (hat wA.drew (by have := A1.out.lt; have := bd.size; omega))
    have HST := stored o HH.out.ne (bx := K.w0.heap.size + 1) (by have := HH.out.hm.2; omega) (A3.out.next bd) (Blk.kept A2 bd) (orow_kept A4.out bd)
    have B2 := HST.2.1
    have B3 := Lib.hid HST.1
    have B4 := Lib.hid HST.2.2
    have B5 := (Blk.kept A5 bd).setB (k := K.bm) (by have := HH.out.hm.2; omega) o
    clear ho hat HST A1 A2 A3 A4 A5 bd
    have HW : Hid (wA.drew = wA.drew) := rfl
    generalize hwd : wA.drew = wd at *
    clear HW hwd
    simp only [List.take_succ_cons, List.take_zero, List.drop_succ_cons, List.drop_zero]
    repeat still_step
    refine wpStill_nil ?_
    clear y5 y0 y1
    generalize setBlock wd K.bm o = wB at *
    have hlen := Lib.hid HC.out
    have x0 : wB.cell? ⟨K.w0.heap.size, 0, none⟩ = some (.int .i64 x.1) := B5.cell 0
    have x1 : wB.cell? ⟨K.w0.heap.size, 1, none⟩ = some (.int .i64 x.2) := B5.cell 1
    have hbig : K.w0.heap.size + 1 ≤ wB.heap.size := by have := B5.lt; omega
    have bxx := (Below.refl wB.heap.size wB).alloc (Nat.le_refl _) (.cells #[.int .i64 x.1, .int .i64 x.2] 145)
    have C1 := Lib.hid (B1.out.kept bxx)
    have C2 := Lib.hid (Blk.kept B2 bxx)
    have C3 := Lib.hid (B3.out.next bxx)
    have C5 := Lib.hid (Blk.kept B5 bxx)
    have HB5 := Lib.hid B5
    have hblt : K.w0.heap.size < wB.heap.size := B5.lt
    clear B5 B1 B3 bxx
    go_wp2_with (at_builtin; refine wpList_append_lies _ (by rfl) _ _ _ (by rfl) (K.w0.heap.size + 1) 145 i0 _ 2 16 Tryz.underlying179 hi0 hz0 hz1 hz2 rfl (by omega) _ W.length (ptC W) (by rfl) (World.ownsRow.alloc B4.out _) ⟨wB.heap.size, 0, none⟩ 1 1 [.int .i64 (x.1 : Int), .int .i64 (x.2 : Int)] (by rfl) (by rfl) (World.news_of_block (cs := #[.int .i64 (x.1 : Int), .int .i64 (x.2 : Int)]) (t := 145) (fr := (0, 0)) (heap_alloc_new wB _)) (by simp [Value.oneCell']) (by omega) (by have := hlen.out; unfold maxLen; omega) (by have := hlen.out; omega) (by simp; omega) (wB.heap.size + 1) (by simp) ?_; intro g3 cap3 w3 hown hgrow hat hlt3)
    have hnr : ∀ k, (Value.slice a W.length cap).ownBlock = some k → K.w0.heap.size + 1 ≤ k := fun k hk => (World.ownsRow.lt B4.out k hk).1
    have D1 := Lib.hid (C1.out.grown hgrow (fun e => by have := hnr _ e; have := HH.out.hm.2; omega))
    have D2 : WkB w3 K.bw K.sp K.st F1 true bl1 K.bm := Blk.grown C2.out hgrow (fun e => by have := hnr _ e; have := HH.out.hw.2; omega)
    have D3 := Lib.hid (C3.out.grown hgrow (fun k hk => by have := hnr k hk; omega))
    have D4 : Hid (w3.ownsRow (K.w0.heap.size + 1) 145 2 (.slice (some ⟨g3, 0, none⟩) (W.length + 1) cap3) (W ++ [x]).length (ptC (W ++ [x]))) := by show World.ownsRow _ _ _ _ _ _ _; rw [List.length_append, ptC_app]; exact hown
    have D5 := Blk.grown C5.out hgrow (fun e => by have := hnr _ e; omega)
    clear hnr hown hgrow hat hlt3 C1 C2 C3 C5 HB5 B2 B4 x0 x1 hs1 hbig hblt hlen
    refine wp_region_still_tail 5 (by kernel_rfl) (by kernel_rfl) ?_
    change wpStill _ _ (World.drew _) (fun a' => wpList _ _ _ _ a' (World.drew _)) _ _
    have bd := (Below.refl w3.heap.size w3).drew
    have y0 := ckeep bd D2.cells.1
    have y1 := ckeep bd D2.cells.2.1
    have x0 : w3.drew.cell? ⟨K.w0.heap.size, 0, none⟩ = some (.int .i64 x.1) := ckeep bd (D5.cell 0)
    have x1 : w3.drew.cell? ⟨K.w0.heap.size, 1, none⟩ = some (.int .i64 x.2) := ckeep bd (D5.cell 1)
    have E1 := Lib.hid (D1.out.kept bd)
    have E2 := Lib.hid (Blk.kept D2 bd)
    have E3 := Lib.hid (D3.out.next bd)
    have E4 := Lib.hid (orow_kept D4.out bd)
    have E5 := Lib.hid (Blk.kept D5 bd)
    clear D1 D2 D3 D4 D5 bd
    generalize w3.drew = wE at *
    simp only [List.take_succ_cons, List.take_zero, List.drop_succ_cons, List.drop_zero]
    repeat still_step
    refine wpStill_nil ?_
    clear y0 y1 x0 x1
    have CF : Calls Tryz.prog 136 #[.agg #[K.sp, .int .i64 K.st], .agg #[.int .i64 x.1, .int .i64 x.2]] wE (FollPost (nxp mdl K.G x) wE) :=
      foll_any HH.out.fl HH.out.ok K.st x HU.out.1 HU.out.2 ((HH.out.bel).trans (E3.out.below HH.out.hw.1 HH.out.hm.1 HH.out.bel.size))
    rw [HX.out] at CF
    have HCF := Lib.hid CF
    clear CF
    go_wp2_with fail
    refine HCF.out.mono ?_
    rintro e w4 ⟨v7, rfl, hv7, hb⟩
    have F1' := Lib.hid (E1.out.kept hb)
    have F2' := Lib.hid (Blk.kept E2.out hb)
    have F3' := Lib.hid (E3.out.next hb)
    have F4' := Lib.hid (orow_kept E4.out hb)
    have F5' := Blk.kept E5.out hb
    have hwE : K.w0.heap.size ≤ wE.heap.size := E3.out.size
    clear hb E1 E2 E3 E4 E5 HCF
    obtain ⟨a7, cap7, rfl, h7⟩ := row_forms hv7
    clear h7 hv7
    have y0 : w4.cell? ⟨K.w0.heap.size, 0, none⟩ = some (.int .i64 x.1) := F5'.cell 0
    have y1 : w4.cell? ⟨K.w0.heap.size, 1, none⟩ = some (.int .i64 x.2) := F5'.cell 1
    have HEN := Lib.hid (end_any K.bw K.bm K.sp K.st F1 true bl1 x HU.out.2 w4 F2'.out F1'.out.lt)
    clear F5'
    simp only [List.length_nil]
    go_wp2_with fail
    refine HEN.out.mono ?_
    rintro e w5 ⟨F2, bl2, g0, g1, rfl, k1, k2, k3⟩
    have HE := Lib.hid (HG.out.last HM.out HX.out g0 g1)
    have T1 := Lib.hid (F1'.out.of (k3 (fun e => HH.out.ne e.symm)))
    have T2 := Lib.hid k1
    have T3 := Lib.hid (F3'.out.trans k2)
    have T4 := Lib.hid (orow_kp2 F4'.out k2 (by have := HH.out.hw.2; omega) (by have := HH.out.hm.2; omega))
    have HN : Hid ((W ++ [x]).length = W.length + 1) := by show _ = _; simp
    clear g0 g1 k1 k2 k3 HEN F1' F2' F3' F4' y0 y1
    generalize (some (⟨g3, 0, none⟩ : Addr)) = a3 at *
    go_wp2_with fail
    go_loopw [72] (fun i wr => ∃ k : Nat, k ≤ (W.length + 1) ∧ i = .int .i64 k ∧ Hid (MapAt wr K.bm (unmark ((W ++ [x]).take k) (upd m1 x true))) ∧ Hid (WkB wr K.bw K.sp K.st F2 true bl2 K.bm) ∧ Hid (Kp2 K.bw K.bm K.w0 wr) ∧ Hid (wr.ownsRow (K.w0.heap.size + 1) 145 2 (.slice a3 (W.length + 1) cap3) (W ++ [x]).length (ptC (W ++ [x])))) (fun i _ => (W.length + 1) - (intOf i).toNat)
    case atStart => exact ⟨0, by omega, rfl, by rw [List.take_zero, unmark_zero]; exact T1.out, T2, T3, T4⟩
    case round =>
      clear T1 T2 T3 T4
      obtain ⟨k, hk, rfl, R1, R2, R3, R4⟩ := hrel
      by_cases hlt : k < (W.length + 1)
      · have hlt2 : (k : Int) < (W.length + 1) := by omega
        obtain ⟨a', cap', e1, hcell⟩ := row_forms R4.out
        injection e1 with e1 e3 e2
        clear e3
        subst e1 e2
        obtain ⟨p, hp⟩ : ∃ p, (W ++ [x])[k]? = some p := ⟨_, List.getElem?_eq_getElem (by rw [HN.out]; exact hlt)⟩
        obtain ⟨g, rfl, hg, c0, c1⟩ := hcell k p hp
        have HS : Hid ((W ++ [x]).take (k + 1) = (W ++ [x]).take k ++ [p]) := by show _ = _; rw [List.take_add_one, hp]; rfl
        clear hp
        clear hcell
        have HM2 := Lib.hid HH.out.hm.2
        have HNE := Lib.hid HH.out.ne
        obtain ⟨z0, z1, z2, z3, z4, z5⟩ := R2.out.cells
        have bx := (Below.refl wr.heap.size wr).alloc (Nat.le_refl _) (.cells #[.int .i64 p.1, .int .i64 p.2] 145)
        have M1 := Lib.hid (R1.out.kept bx)
        obtain ⟨o, ho, hat⟩ := store_run R1.out p false
        have hs1 : (Instr.mapUpdate 107 (.map (some K.bm)) (.agg #[.int .i64 p.1, .int .i64 p.2]) (.bool false)).run Tryz.prog (wr.alloc (.cells #[.int .i64 p.1, .int .i64 p.2] 145)).drew = .ok () (setBlock (wr.alloc (.cells #[.int .i64 p.1, .int .i64 p.2] 145)).drew K.bm o) :=
          ho _ (bx.drew.block K.bm R1.out.lt)
        have HAT := Lib.hid (hat (wr.alloc (.cells #[.int .i64 p.1, .int .i64 p.2] 145)).drew (by have := R1.out.lt; have := bx.drew.size; omega))
        have HST := Lib.hid (stored o HNE.out (bx := K.w0.heap.size + 1) (by have := HM2.out; omega) (R3.out.next bx.drew) (Blk.kept R2.out bx.drew) (orow_kept R4.out bx.drew))
        have hlt3 : K.bw < wr.heap.size := R2.out.lt
        have hk63 : (k : Int) + 1 ≤ 9223372036854775807 := by have := orow_len R4.out; rw [HN.out] at this; unfold maxLen at this; omega
        have bxd := Lib.hid bx.drew
        clear ho hat bx
        go_wp2_with fail
        refine wp_region_still_tail 5 (by kernel_rfl) (by kernel_rfl) ?_
        change wpStill _ _ (World.drew _) (fun a' => wpList _ _ _ _ a' (World.drew _)) _ _
        have y0 : (wr.alloc (.cells #[.int .i64 p.1, .int .i64 p.2] 145)).drew.cell? ⟨wr.heap.size, 0, none⟩ = some (.int .i64 p.1) := (Blk.new wr #[.int .i64 p.1, .int .i64 p.2] 145).drew.cell 0
        have y1 : (wr.alloc (.cells #[.int .i64 p.1, .int .i64 p.2] 145)).drew.cell? ⟨wr.heap.size, 1, none⟩ = some (.int .i64 p.2) := (Blk.new wr #[.int .i64 p.1, .int .i64 p.2] 145).drew.cell 1
        have y5 := ckeep bxd.out z5
        clear z0 z1 z2 z3 z4 z5 c0 c1
        generalize (wr.alloc (.cells #[.int .i64 p.1, .int .i64 p.2] 145)).drew = wd at *
        simp only [List.take_succ_cons, List.take_zero, List.drop_succ_cons, List.drop_zero]
        repeat still_step
        refine wpStill_nil ?_
        go_wp2_with fail
        refine ⟨⟨k + 1, by omega, by go_num, ?_, HST.out.2.1, HST.out.1, HST.out.2.2⟩, by simp [intOf]; omega⟩
        rw [HS.out, unmark_snoc]
        exact HAT.out
      · have hk2 : k = (W.length + 1) := by omega
        subst hk2
        have R1' := Lib.hid (show MapAt wr K.bm (unmark (W ++ [x]) (upd m1 x true)) from by have := R1.out; rwa [List.take_of_length_le (by rw [HN.out]; exact Nat.le_refl _)] at this)
        clear R1
        go_wp2_with fail
        unfold FolQ
        simp only [Exit.jump]
        go_end0
        exact ⟨rfl, _, _, _, _, R2.out, R1'.out, R3.out, HE.out.went⟩
end Go.Proofs.YtkgdhlpmlpbbkaaGreat

namespace Go.Proofs.YtkgdhlpmlpbbkaaGreat
open Go.RowKit Tm Go.ChangeMaps

theorem orow_set {w : World} {B : Nat} {v : Value} {l : List Pt} (h : w.ownsRow B 145 2 v l.length (ptC l)) {p : Addr} (hp : p.block < B) (u : Value) : (w.setCell p u).ownsRow B 145 2 v l.length (ptC l) := ownsRow_setCell_below h hp u

set_option maxRecDepth 1000000 in
set_option maxHeartbeats 4000000 in
theorem pass_one (K : WkK) (w1 : World) (B : Nat) (hH : WkH K w1 B) (rest : Code) (hr : FolRest rest) (y : Pt) (a : Act) (w : World) (hJ : FolJ K (fun x m1 => m1 x = none ∧ nxp mdl K.G x = [y]) a w) : rest.wp Tryz.prog (FolQ K w (bodyPost Tryz.prog Tryz.f111 (FolPost K))) a w := by
  obtain ⟨fn, r0, r1, h1, h2⟩ := hr
  have h3 := Tryz.func111
  rw [h1] at h3
  injection h3 with h3
  subst h3
  simp only [Tryz.f111, Option.some.injEq, Code.seq.injEq, Code.scope.injEq] at h2
  obtain ⟨rfl, rfl, _, rfl⟩ := h2
  clear h1
  unfold FolJ at hJ
  obtain ⟨v4, W, x, m1, F1, lo1, bl1, u, rfl, hj, hm⟩ := hJ
  obtain ⟨q0, q1, q2, q3, q4, q5⟩ := hj.wk.cells
  obtain ⟨f2, f3, f4⟩ := hj.wk.free'
  have b0 := hj.box.cell 0
  have b1 := hj.box.cell 1
  simp at b0 b1
  have hl := hj.lookN
  obtain ⟨a, cap, rfl, hrow⟩ := row_forms hj.row
  clear hrow
  have HJ := Lib.hid hj
  have HH := Lib.hid hH
  clear hH
  obtain ⟨hm, hnx⟩ := hm
  simp only [hm, Option.getD_none, Option.isSome_none] at hl
  have HG := Lib.hid hj.go
  have HM := Lib.hid hm
  have HX := Lib.hid hnx
  have HU := Lib.hid hj.un
  have HC := Lib.hid (show W.length ≤ 27000 from by have := hj.cnt; have := HH.out.sm; omega)
  have HCN := Lib.hid hj.cnt
  have HMI := Lib.hid hj.mp.inn
  obtain ⟨i0, hi0, hz0, hz1, hz2⟩ := info_parts infoPt
  clear hm hnx hj
  cases lo1
  · skip
    go_wp2_with fail
    go_quiet (fail)
    go_wp2_with fail
    have hb0 := bdrewN (Below.refl w.heap.size w) nq
    have A1 := Lib.hid ((HJ.out.mp.kept hb0).setCell (a := ⟨K.bw, 3, none⟩) (by exact fun e => HH.out.ne e.symm) (.bool false))
    have A2 : WkB ((w.drewN nq).setCell ⟨K.bw, 3, none⟩ (.bool false)) K.bw K.sp K.st F1 false bl1 K.bm := by have := Blk.set (Blk.kept HJ.out.wk hb0) 3 (.bool false); exact this
    have A3 := Lib.hid ((HJ.out.kp.next hb0).setA 3 (.bool false))
    have A4 := Lib.hid (orow_kp2 (orow_kept HJ.out.row hb0) ((Kp2.refl K.bw K.bm _).setA 3 (.bool false)) (by have := HH.out.hw.2; omega) (by have := HH.out.hm.2; omega))
    have A5 := (Blk.kept HJ.out.box hb0).setOther (p := ⟨K.bw, 3, none⟩) (by have := HH.out.hw.2; simp; omega) (.bool false)
    clear hb0 q0 q1 q2 q3 q4 q5 f2 f3 f4 b0 b1 hl HJ
    generalize (w.drewN nq).setCell ⟨K.bw, 3, none⟩ (.bool false) = wA at *
    refine wp_region_still_tail 5 (by kernel_rfl) (by kernel_rfl) ?_
    change wpStill _ _ (World.drew _) (fun a' => wpList _ _ _ _ a' (World.drew _)) _ _
    have bd := (Below.refl wA.heap.size wA).drew
    have y5 := ckeep bd A2.cells.2.2.2.2.2
    have y0 : wA.drew.cell? ⟨K.w0.heap.size, 0, none⟩ = some (.int .i64 x.1) := ckeep bd (A5.cell 0)
    have y1 : wA.drew.cell? ⟨K.w0.heap.size, 1, none⟩ = some (.int .i64 x.2) := ckeep bd (A5.cell 1)
    obtain ⟨o, ho, hat⟩ := store_run A1.out x true
    have hs1 : (Instr.mapUpdate 107 (.map (some K.bm)) (.agg #[.int .i64 x.1, .int .i64 x.2]) (.bool true)).run Tryz.prog wA.drew = .ok () (setBlock wA.drew K.bm o) := ho _ (bd.block K.bm A1.out.lt)
    have B1 := Lib.hid (hat wA.drew (by have := A1.out.lt; have := bd.size; omega))
    have HST := stored o HH.out.ne (bx := K.w0.heap.size + 1) (by have := HH.out.hm.2; omega) (A3.out.next bd) (Blk.kept A2 bd) (orow_kept A4.out bd)
    have B2 := HST.2.1
    have B3 := Lib.hid HST.1
    have B4 := Lib.hid HST.2.2
    have B5 := (Blk.kept A5 bd).setB (k := K.bm) (by have := HH.out.hm.2; omega) o
    clear ho hat HST A1 A2 A3 A4 A5 bd
    have HW : Hid (wA.drew = wA.drew) := rfl
    generalize hwd : wA.drew = wd at *
    clear HW hwd
    simp only [List.take_succ_cons, List.take_zero, List.drop_succ_cons, List.drop_zero]
    repeat still_step
    refine wpStill_nil ?_
    clear y5 y0 y1
    generalize setBlock wd K.bm o = wB at *
    have hlen := Lib.hid HC.out
    have x0 : wB.cell? ⟨K.w0.heap.size, 0, none⟩ = some (.int .i64 x.1) := B5.cell 0
    have x1 : wB.cell? ⟨K.w0.heap.size, 1, none⟩ = some (.int .i64 x.2) := B5.cell 1
    have hbig : K.w0.heap.size + 1 ≤ wB.heap.size := by have := B5.lt; omega
    have bxx := (Below.refl wB.heap.size wB).alloc (Nat.le_refl _) (.cells #[.int .i64 x.1, .int .i64 x.2] 145)
    have C1 := Lib.hid (B1.out.kept bxx)
    have C2 := Lib.hid (Blk.kept B2 bxx)
    have C3 := Lib.hid (B3.out.next bxx)
    have C5 := Lib.hid (Blk.kept B5 bxx)
    have HB5 := Lib.hid B5
    have hblt : K.w0.heap.size < wB.heap.size := B5.lt
    clear B5 B1 B3 bxx
    go_wp2_with (at_builtin; refine wpList_append_lies _ (by rfl) _ _ _ (by rfl) (K.w0.heap.size + 1) 145 i0 _ 2 16 Tryz.underlying179 hi0 hz0 hz1 hz2 rfl (by omega) _ W.length (ptC W) (by rfl) (World.ownsRow.alloc B4.out _) ⟨wB.heap.size, 0, none⟩ 1 1 [.int .i64 (x.1 : Int), .int .i64 (x.2 : Int)] (by rfl) (by rfl) (World.news_of_block (cs := #[.int .i64 (x.1 : Int), .int .i64 (x.2 : Int)]) (t := 145) (fr := (0, 0)) (heap_alloc_new wB _)) (by simp [Value.oneCell']) (by omega) (by have := hlen.out; unfold maxLen; omega) (by have := hlen.out; omega) (by simp; omega) (wB.heap.size + 1) (by simp) ?_; intro g3 cap3 w3 hown hgrow hat hlt3)
    have hnr : ∀ k, (Value.slice a W.length cap).ownBlock = some k → K.w0.heap.size + 1 ≤ k := fun k hk => (World.ownsRow.lt B4.out k hk).1
    have D1 := Lib.hid (C1.out.grown hgrow (fun e => by have := hnr _ e; have := HH.out.hm.2; omega))
    have D2 : WkB w3 K.bw K.sp K.st F1 false bl1 K.bm := Blk.grown C2.out hgrow (fun e => by have := hnr _ e; have := HH.out.hw.2; omega)
    have D3 := Lib.hid (C3.out.grown hgrow (fun k hk => by have := hnr k hk; omega))
    have D4 : Hid (w3.ownsRow (K.w0.heap.size + 1) 145 2 (.slice (some ⟨g3, 0, none⟩) (W.length + 1) cap3) (W ++ [x]).length (ptC (W ++ [x]))) := by show World.ownsRow _ _ _ _ _ _ _; rw [List.length_append, ptC_app]; exact hown
    have D5 := Blk.grown C5.out hgrow (fun e => by have := hnr _ e; omega)
    clear hnr hown hgrow hat hlt3 C1 C2 C3 C5 HB5 B2 B4 x0 x1 hs1 hbig hblt hlen
    refine wp_region_still_tail 5 (by kernel_rfl) (by kernel_rfl) ?_
    change wpStill _ _ (World.drew _) (fun a' => wpList _ _ _ _ a' (World.drew _)) _ _
    have bd := (Below.refl w3.heap.size w3).drew
    have y0 := ckeep bd D2.cells.1
    have y1 := ckeep bd D2.cells.2.1
    have x0 : w3.drew.cell? ⟨K.w0.heap.size, 0, none⟩ = some (.int .i64 x.1) := ckeep bd (D5.cell 0)
    have x1 : w3.drew.cell? ⟨K.w0.heap.size, 1, none⟩ = some (.int .i64 x.2) := ckeep bd (D5.cell 1)
    have E1 := Lib.hid (D1.out.kept bd)
    have E2 := Lib.hid (Blk.kept D2 bd)
    have E3 := Lib.hid (D3.out.next bd)
    have E4 := Lib.hid (orow_kept D4.out bd)
    have E5 := Lib.hid (Blk.kept D5 bd)
    clear D1 D2 D3 D4 D5 bd
    generalize w3.drew = wE at *
    simp only [List.take_succ_cons, List.take_zero, List.drop_succ_cons, List.drop_zero]
    repeat still_step
    refine wpStill_nil ?_
    clear y0 y1 x0 x1
    have CF : Calls Tryz.prog 136 #[.agg #[K.sp, .int .i64 K.st], .agg #[.int .i64 x.1, .int .i64 x.2]] wE (FollPost (nxp mdl K.G x) wE) :=
      foll_any HH.out.fl HH.out.ok K.st x HU.out.1 HU.out.2 ((HH.out.bel).trans (E3.out.below HH.out.hw.1 HH.out.hm.1 HH.out.bel.size))
    rw [HX.out] at CF
    have HCF := Lib.hid CF
    clear CF
    go_wp2_with fail
    refine HCF.out.mono ?_
    rintro e w4 ⟨v7, rfl, hv7, hb⟩
    have F1' := Lib.hid (E1.out.kept hb)
    have F2' := Lib.hid (Blk.kept E2.out hb)
    have F3' := Lib.hid (E3.out.next hb)
    have F4' := Lib.hid (orow_kept E4.out hb)
    have F5' := Blk.kept E5.out hb
    have hwE : K.w0.heap.size ≤ wE.heap.size := E3.out.size
    clear hb E1 E2 E3 E4 E5 HCF
    obtain ⟨a7, cap7, rfl, h7⟩ := row_forms hv7
    have hcap := row_cap hv7
    obtain ⟨g, rfl, hg, c0, c1⟩ := h7 0 y rfl
    clear h7 hv7
    have b0 : w4.cell? ⟨K.w0.heap.size, 0, none⟩ = some (.int .i64 x.1) := F5'.cell 0
    have b1 : w4.cell? ⟨K.w0.heap.size, 1, none⟩ = some (.int .i64 x.2) := F5'.cell 1
    have r0 := F5'.free 0
    have r1 := F5'.free 1
    simp at c0 c1 hcap
    have G5 := Lib.hid ((F5'.set 0 (.int .i64 (y.1 : Int))).set 1 (.int .i64 (y.2 : Int)))
    have G1 := Lib.hid ((F1'.out.setCell (a := ⟨K.w0.heap.size, 0, none⟩) (by have := HH.out.hm.2; simp; omega) (.int .i64 (y.1 : Int))).setCell (a := ⟨K.w0.heap.size, 1, none⟩) (by have := HH.out.hm.2; simp; omega) (.int .i64 (y.2 : Int)))
    have G2 : Hid (WkB ((w4.setCell ⟨K.w0.heap.size, 0, none⟩ (.int .i64 (y.1 : Int))).setCell ⟨K.w0.heap.size, 1, none⟩ (.int .i64 (y.2 : Int))) K.bw K.sp K.st F1 false bl1 K.bm) := (Blk.setOther F2'.out (p := ⟨K.w0.heap.size, 0, none⟩) (by have := HH.out.hw.2; simp; omega) _).setOther (p := ⟨K.w0.heap.size, 1, none⟩) (by have := HH.out.hw.2; simp; omega) _
    have G3 := Lib.hid ((F3'.out.setNew (q := ⟨K.w0.heap.size, 0, none⟩) (Nat.le_refl _) (.int .i64 (y.1 : Int))).setNew (q := ⟨K.w0.heap.size, 1, none⟩) (Nat.le_refl _) (.int .i64 (y.2 : Int)))
    have G4 := Lib.hid (orow_set (orow_set F4'.out (p := ⟨K.w0.heap.size, 0, none⟩) (Nat.lt_succ_self _) (.int .i64 (y.1 : Int))) (p := ⟨K.w0.heap.size, 1, none⟩) (Nat.lt_succ_self _) (.int .i64 (y.2 : Int)))
    have HS := Lib.hid (HG.out.step (y0 := y) HM.out (fun j => nx_end HH.out.top) (by unfold Edge; rw [HX.out]; simp) (.inl ⟨HX.out, rfl, rfl, rfl, rfl⟩))
    have HL := Lib.hid (unk_lt (m := m1) (m' := upd m1 x true) (fun z hz => upd_some hz) HU.out HM.out (by rw [upd_same]; simp))
    have HUy := Lib.hid (HH.out.un x y HU.out (by unfold Edge; rw [HX.out]; simp))
    clear F1' F2' F3' F4' F5'
    have hcapI : (1 : Int) ≤ cap7 := by omega
    have hcapN : 1 ≤ cap7 := by omega
    by_cases hcc : cap7 = 1
    · subst hcc
      simp only [List.length_cons, List.length_nil, Nat.zero_add]
      go_wp2_with fail
      refine wp_loop_rounds 1 ?_
      rw [rounds_succ]
      go_wp2_with fail
      go_step3
      exact (show _ ∧ _ ∧ _ from ⟨rfl, folJ_mk rfl ⟨G5.out, G4.out, G2.out, G1.out, G3.out, HS.out, HUy.out, by have := HL.out; have := HCN.out; rw [List.length_append, List.length_singleton]; show _ + unk _ (upd m1 x true) ≤ _; omega⟩ trivial, by rw [G1.out.inn, HMI.out]; exact HL.out⟩)
    · simp only [List.length_cons, List.length_nil, Nat.zero_add]
      go_wp2_with fail
      refine wp_loop_rounds 1 ?_
      rw [rounds_succ]
      go_wp2_with fail
      go_step3
      exact (show _ ∧ _ ∧ _ from ⟨rfl, folJ_mk rfl ⟨G5.out, G4.out, G2.out, G1.out, G3.out, HS.out, HUy.out, by have := HL.out; have := HCN.out; rw [List.length_append, List.length_singleton]; show _ + unk _ (upd m1 x true) ≤ _; omega⟩ trivial, by rw [G1.out.inn, HMI.out]; exact HL.out⟩)
  · skip
    go_wp2_with fail
    go_quiet (fail)
    go_wp2_with fail
    have hb0 := bdrewN (Below.refl w.heap.size w) nq
    have A1 := Lib.hid ((HJ.out.mp.kept hb0).setCell (a := ⟨K.bw, 3, none⟩) (by exact fun e => HH.out.ne e.symm) (.bool true))
    have A2 : WkB ((w.drewN nq).setCell ⟨K.bw, 3, none⟩ (.bool true)) K.bw K.sp K.st F1 true bl1 K.bm := by have := Blk.set (Blk.kept HJ.out.wk hb0) 3 (.bool true); exact this
    have A3 := Lib.hid ((HJ.out.kp.next hb0).setA 3 (.bool true))
    have A4 := Lib.hid (orow_kp2 (orow_kept HJ.out.row hb0) ((Kp2.refl K.bw K.bm _).setA 3 (.bool true)) (by have := HH.out.hw.2; omega) (by have := HH.out.hm.2; omega))
    have A5 := (Blk.kept HJ.out.box hb0).setOther (p := ⟨K.bw, 3, none⟩) (by have := HH.out.hw.2; simp; omega) (.bool true)
    clear hb0 q0 q1 q2 q3 q4 q5 f2 f3 f4 b0 b1 hl HJ
    generalize (w.drewN nq).setCell ⟨K.bw, 3, none⟩ (.bool true) = wA at *
    refine wp_region_still_tail 5 (by kernel_rfl) (by kernel_rfl) ?_
    change wpStill _ _ (World.drew _) (fun a' => wpList _ _ _ _ a' (World.drew _)) _ _
    have bd := (Below.refl wA.heap.size wA).drew
    have y5 := ckeep bd A2.cells.2.2.2.2.2
    have y0 : wA.drew.cell? ⟨K.w0.heap.size, 0, none⟩ = some (.int .i64 x.1) := ckeep bd (A5.cell 0)
    have y1 : wA.drew.cell? ⟨K.w0.heap.size, 1, none⟩ = some (.int .i64 x.2) := ckeep bd (A5.cell 1)
    obtain ⟨o, ho, hat⟩ := store_run A1.out x true
    have hs1 : (Instr.mapUpdate 107 (.map (some K.bm)) (.agg #[.int .i64 x.1, .int .i64 x.2]) (.bool true)).run Tryz.prog wA.drew = .ok () (setBlock wA.drew K.bm o) := ho _ (bd.block K.bm A1.out.lt)
    have B1 := Lib.hid (hat wA.drew (by have := A1.out.lt; have := bd.size; omega))
    have HST := stored o HH.out.ne (bx := K.w0.heap.size + 1) (by have := HH.out.hm.2; omega) (A3.out.next bd) (Blk.kept A2 bd) (orow_kept A4.out bd)
    have B2 := HST.2.1
    have B3 := Lib.hid HST.1
    have B4 := Lib.hid HST.2.2
    have B5 := (Blk.kept A5 bd).setB (k := K.bm) (by have := HH.out.hm.2; omega) o
    clear ho hat HST A1 A2 A3 A4 A5 bd
    have HW : Hid (wA.drew = wA.drew) := rfl
    generalize hwd : wA.drew = wd at *
    clear HW hwd
    simp only [List.take_succ_cons, List.take_zero, List.drop_succ_cons, List.drop_zero]
    repeat still_step
    refine wpStill_nil ?_
    clear y5 y0 y1
    generalize setBlock wd K.bm o = wB at *
    have hlen := Lib.hid HC.out
    have x0 : wB.cell? ⟨K.w0.heap.size, 0, none⟩ = some (.int .i64 x.1) := B5.cell 0
    have x1 : wB.cell? ⟨K.w0.heap.size, 1, none⟩ = some (.int .i64 x.2) := B5.cell 1
    have hbig : K.w0.heap.size + 1 ≤ wB.heap.size := by have := B5.lt; omega
    have bxx := (Below.refl wB.heap.size wB).alloc (Nat.le_refl _) (.cells #[.int .i64 x.1, .int .i64 x.2] 145)
    have C1 := Lib.hid (B1.out.kept bxx)
    have C2 := Lib.hid (Blk.kept B2 bxx)
    have C3 := Lib.hid (B3.out.next bxx)
    have C5 := Lib.hid (Blk.kept B5 bxx)
    have HB5 := Lib.hid B5
    have hblt : K.w0.heap.size < wB.heap.size := B5.lt
    clear B5 B1 B3 bxx
    go_wp2_with (at_builtin; refine wpList_append_lies _ (by rfl) _ _ _ (by rfl) (K.w0.heap.size + 1) 145 i0 _ 2 16 Tryz.underlying179 hi0 hz0 hz1 hz2 rfl (by omega) _ W.length (ptC W) (by rfl) (World.ownsRow.alloc B4.out _) ⟨wB.heap.size, 0, none⟩ 1 1 [.int .i64 (x.1 : Int), .int .i64 (x.2 : Int)] (by rfl) (by rfl) (World.news_of_block (cs := #[.int .i64 (x.1 : Int), .int .i64 (x.2 : Int)]) (t := 145) (fr := (0, 0)) (heap_alloc_new wB _)) (by simp [Value.oneCell']) (by omega) (by have := hlen.out; unfold maxLen; omega) (by have := hlen.out; omega) (by simp; omega) (wB.heap.size + 1) (by simp) ?_; intro g3 cap3 w3 hown hgrow hat hlt3)
    have hnr : ∀ k, (Value.slice a W.length cap).ownBlock = some k → K.w0.heap.size + 1 ≤ k := fun k hk => (World.ownsRow.lt B4.out k hk).1
    have D1 := Lib.hid (C1.out.grown hgrow (fun e => by have := hnr _ e; have := HH.out.hm.2; omega))
    have D2 : WkB w3 K.bw K.sp K.st F1 true bl1 K.bm := Blk.grown C2.out hgrow (fun e => by have := hnr _ e; have := HH.out.hw.2; omega)
    have D3 := Lib.hid (C3.out.grown hgrow (fun k hk => by have := hnr k hk; omega))
    have D4 : Hid (w3.ownsRow (K.w0.heap.size + 1) 145 2 (.slice (some ⟨g3, 0, none⟩) (W.length + 1) cap3) (W ++ [x]).length (ptC (W ++ [x]))) := by show World.ownsRow _ _ _ _ _ _ _; rw [List.length_append, ptC_app]; exact hown
    have D5 := Blk.grown C5.out hgrow (fun e => by have := hnr _ e; omega)
    clear hnr hown hgrow hat hlt3 C1 C2 C3 C5 HB5 B2 B4 x0 x1 hs1 hbig hblt hlen
    refine wp_region_still_tail 5 (by kernel_rfl) (by kernel_rfl) ?_
    change wpStill _ _ (World.drew _) (fun a' => wpList _ _ _ _ a' (World.drew _)) _ _
    have bd := (Below.refl w3.heap.size w3).drew
    have y0 := ckeep bd D2.cells.1
    have y1 := ckeep bd D2.cells.2.1
    have x0 : w3.drew.cell? ⟨K.w0.heap.size, 0, none⟩ = some (.int .i64 x.1) := ckeep bd (D5.cell 0)
    have x1 : w3.drew.cell? ⟨K.w0.heap.size, 1, none⟩ = some (.int .i64 x.2) := ckeep bd (D5.cell 1)
    have E1 := Lib.hid (D1.out.kept bd)
    have E2 := Lib.hid (Blk.kept D2 bd)
    have E3 := Lib.hid (D3.out.next bd)
    have E4 := Lib.hid (orow_kept D4.out bd)
    have E5 := Lib.hid (Blk.kept D5 bd)
    clear D1 D2 D3 D4 D5 bd
    generalize w3.drew = wE at *
    simp only [List.take_succ_cons, List.take_zero, List.drop_succ_cons, List.drop_zero]
    repeat still_step
    refine wpStill_nil ?_
    clear y0 y1 x0 x1
    have CF : Calls Tryz.prog 136 #[.agg #[K.sp, .int .i64 K.st], .agg #[.int .i64 x.1, .int .i64 x.2]] wE (FollPost (nxp mdl K.G x) wE) :=
      foll_any HH.out.fl HH.out.ok K.st x HU.out.1 HU.out.2 ((HH.out.bel).trans (E3.out.below HH.out.hw.1 HH.out.hm.1 HH.out.bel.size))
    rw [HX.out] at CF
    have HCF := Lib.hid CF
    clear CF
    go_wp2_with fail
    refine HCF.out.mono ?_
    rintro e w4 ⟨v7, rfl, hv7, hb⟩
    have F1' := Lib.hid (E1.out.kept hb)
    have F2' := Lib.hid (Blk.kept E2.out hb)
    have F3' := Lib.hid (E3.out.next hb)
    have F4' := Lib.hid (orow_kept E4.out hb)
    have F5' := Blk.kept E5.out hb
    have hwE : K.w0.heap.size ≤ wE.heap.size := E3.out.size
    clear hb E1 E2 E3 E4 E5 HCF
    obtain ⟨a7, cap7, rfl, h7⟩ := row_forms hv7
    have hcap := row_cap hv7
    obtain ⟨g, rfl, hg, c0, c1⟩ := h7 0 y rfl
    clear h7 hv7
    have b0 : w4.cell? ⟨K.w0.heap.size, 0, none⟩ = some (.int .i64 x.1) := F5'.cell 0
    have b1 : w4.cell? ⟨K.w0.heap.size, 1, none⟩ = some (.int .i64 x.2) := F5'.cell 1
    have r0 := F5'.free 0
    have r1 := F5'.free 1
    simp at c0 c1 hcap
    have G5 := Lib.hid ((F5'.set 0 (.int .i64 (y.1 : Int))).set 1 (.int .i64 (y.2 : Int)))
    have G1 := Lib.hid ((F1'.out.setCell (a := ⟨K.w0.heap.size, 0, none⟩) (by have := HH.out.hm.2; simp; omega) (.int .i64 (y.1 : Int))).setCell (a := ⟨K.w0.heap.size, 1, none⟩) (by have := HH.out.hm.2; simp; omega) (.int .i64 (y.2 : Int)))
    have G2 : Hid (WkB ((w4.setCell ⟨K.w0.heap.size, 0, none⟩ (.int .i64 (y.1 : Int))).setCell ⟨K.w0.heap.size, 1, none⟩ (.int .i64 (y.2 : Int))) K.bw K.sp K.st F1 true bl1 K.bm) := (Blk.setOther F2'.out (p := ⟨K.w0.heap.size, 0, none⟩) (by have := HH.out.hw.2; simp; omega) _).setOther (p := ⟨K.w0.heap.size, 1, none⟩) (by have := HH.out.hw.2; simp; omega) _
    have G3 := Lib.hid ((F3'.out.setNew (q := ⟨K.w0.heap.size, 0, none⟩) (Nat.le_refl _) (.int .i64 (y.1 : Int))).setNew (q := ⟨K.w0.heap.size, 1, none⟩) (Nat.le_refl _) (.int .i64 (y.2 : Int)))
    have G4 := Lib.hid (orow_set (orow_set F4'.out (p := ⟨K.w0.heap.size, 0, none⟩) (Nat.lt_succ_self _) (.int .i64 (y.1 : Int))) (p := ⟨K.w0.heap.size, 1, none⟩) (Nat.lt_succ_self _) (.int .i64 (y.2 : Int)))
    have HS := Lib.hid (HG.out.step (y0 := y) HM.out (fun j => nx_end HH.out.top) (by unfold Edge; rw [HX.out]; simp) (.inl ⟨HX.out, rfl, rfl, rfl, rfl⟩))
    have HL := Lib.hid (unk_lt (m := m1) (m' := upd m1 x true) (fun z hz => upd_some hz) HU.out HM.out (by rw [upd_same]; simp))
    have HUy := Lib.hid (HH.out.un x y HU.out (by unfold Edge; rw [HX.out]; simp))
    clear F1' F2' F3' F4' F5'
    have hcapI : (1 : Int) ≤ cap7 := by omega
    have hcapN : 1 ≤ cap7 := by omega
    by_cases hcc : cap7 = 1
    · subst hcc
      simp only [List.length_cons, List.length_nil, Nat.zero_add]
      go_wp2_with fail
      refine wp_loop_rounds 1 ?_
      rw [rounds_succ]
      go_wp2_with fail
      go_step3
      exact (show _ ∧ _ ∧ _ from ⟨rfl, folJ_mk rfl ⟨G5.out, G4.out, G2.out, G1.out, G3.out, HS.out, HUy.out, by have := HL.out; have := HCN.out; rw [List.length_append, List.length_singleton]; show _ + unk _ (upd m1 x true) ≤ _; omega⟩ trivial, by rw [G1.out.inn, HMI.out]; exact HL.out⟩)
    · simp only [List.length_cons, List.length_nil, Nat.zero_add]
      go_wp2_with fail
      refine wp_loop_rounds 1 ?_
      rw [rounds_succ]
      go_wp2_with fail
      go_step3
      exact (show _ ∧ _ ∧ _ from ⟨rfl, folJ_mk rfl ⟨G5.out, G4.out, G2.out, G1.out, G3.out, HS.out, HUy.out, by have := HL.out; have := HCN.out; rw [List.length_append, List.length_singleton]; show _ + unk _ (upd m1 x true) ≤ _; omega⟩ trivial, by rw [G1.out.inn, HMI.out]; exact HL.out⟩)
end Go.Proofs.YtkgdhlpmlpbbkaaGreat

namespace Go.Proofs.YtkgdhlpmlpbbkaaGreat
open Go.RowKit Tm Go.ChangeMaps

theorem kcell2 {a b : Nat} {w w' : World} (hk : Kp2 a b w w') {k o : Nat} {v : Value} (h : w.cell? ⟨k, o, none⟩ = some v) (h1 : k ≠ a) (h2 : k ≠ b) : w'.cell? ⟨k, o, none⟩ = some v :=
  (World.cell?_of_block (w := w) (hk.block k (World.block_lt_of_cell? w ⟨k, o, none⟩ h) h1 h2)).trans h

set_option maxRecDepth 1000000 in
set_option maxHeartbeats 4000000 in
theorem pass_two (K : WkK) (w1 : World) (B : Nat) (hH : WkH K w1 B) (rest : Code) (hr : FolRest rest) (IH : Hid (∀ K2 : WkK, K2.G = K.G → unk K2.G.length K2.m < unk K.G.length K.m → WkH K2 w1 B → (K2.x0.1 < K2.G.length ∧ K2.x0.2 < 27) → WkB K2.w0 K2.bw K2.sp K2.st K2.F K2.lo K2.bl K2.bm → MapAt K2.w0 K2.bm K2.m → Calls Tryz.prog 111 #[.pointer (some ⟨K2.bw, 0, none⟩), .agg #[.int .i64 K2.x0.1, .int .i64 K2.x0.2]] K2.w0 (FolPost K2))) (y z : Pt) (a : Act) (w : World) (hJ : FolJ K (fun x m1 => m1 x = none ∧ nxp mdl K.G x = [y, z]) a w) : rest.wp Tryz.prog (FolQ K w (bodyPost Tryz.prog Tryz.f111 (FolPost K))) a w := by
  obtain ⟨fn, r0, r1, h1, h2⟩ := hr
  have h3 := Tryz.func111
  rw [h1] at h3
  injection h3 with h3
  subst h3
  simp only [Tryz.f111, Option.some.injEq, Code.seq.injEq, Code.scope.injEq] at h2
  obtain ⟨rfl, rfl, _, rfl⟩ := h2
  clear h1
  unfold FolJ at hJ
  obtain ⟨v4, W, x, m1, F1, lo1, bl1, u, rfl, hj, hm⟩ := hJ
  obtain ⟨q0, q1, q2, q3, q4, q5⟩ := hj.wk.cells
  obtain ⟨f2, f3, f4⟩ := hj.wk.free'
  have b0 := hj.box.cell 0
  have b1 := hj.box.cell 1
  simp at b0 b1
  have hl := hj.lookN
  obtain ⟨a, cap, rfl, hrow⟩ := row_forms hj.row
  clear hrow
  have HJ := Lib.hid hj
  have HH := Lib.hid hH
  clear hH
  obtain ⟨hm, hnx⟩ := hm
  simp only [hm, Option.getD_none, Option.isSome_none] at hl
  have HG := Lib.hid hj.go
  have HM := Lib.hid hm
  have HX := Lib.hid hnx
  have HU := Lib.hid hj.un
  have HC := Lib.hid (show W.length ≤ 27000 from by have := hj.cnt; have := HH.out.sm; omega)
  have HCN := Lib.hid hj.cnt
  have HMI := Lib.hid hj.mp.inn
  obtain ⟨i0, hi0, hz0, hz1, hz2⟩ := info_parts infoPt
  clear hm hnx hj
  cases lo1
  · skip
    go_wp2_with fail
    go_quiet (fail)
    go_wp2_with fail
    have hb0 := bdrewN (Below.refl w.heap.size w) nq
    have A1 := Lib.hid ((HJ.out.mp.kept hb0).setCell (a := ⟨K.bw, 3, none⟩) (by exact fun e => HH.out.ne e.symm) (.bool false))
    have A2 : WkB ((w.drewN nq).setCell ⟨K.bw, 3, none⟩ (.bool false)) K.bw K.sp K.st F1 false bl1 K.bm := by have := Blk.set (Blk.kept HJ.out.wk hb0) 3 (.bool false); exact this
    have A3 := Lib.hid ((HJ.out.kp.next hb0).setA 3 (.bool false))
    have A4 := Lib.hid (orow_kp2 (orow_kept HJ.out.row hb0) ((Kp2.refl K.bw K.bm _).setA 3 (.bool false)) (by have := HH.out.hw.2; omega) (by have := HH.out.hm.2; omega))
    have A5 := (Blk.kept HJ.out.box hb0).setOther (p := ⟨K.bw, 3, none⟩) (by have := HH.out.hw.2; simp; omega) (.bool false)
    clear hb0 q0 q1 q2 q3 q4 q5 f2 f3 f4 b0 b1 hl HJ
    generalize (w.drewN nq).setCell ⟨K.bw, 3, none⟩ (.bool false) = wA at *
    refine wp_region_still_tail 5 (by kernel_rfl) (by kernel_rfl) ?_
    change wpStill _ _ (World.drew _) (fun a' => wpList _ _ _ _ a' (World.drew _)) _ _
    have bd := (Below.refl wA.heap.size wA).drew
    have y5 := ckeep bd A2.cells.2.2.2.2.2
    have y0 : wA.drew.cell? ⟨K.w0.heap.size, 0, none⟩ = some (.int .i64 x.1) := ckeep bd (A5.cell 0)
    have y1 : wA.drew.cell? ⟨K.w0.heap.size, 1, none⟩ = some (.int .i64 x.2) := ckeep bd (A5.cell 1)
    obtain ⟨o, ho, hat⟩ := store_run A1.out x true
    have hs1 : (Instr.mapUpdate 107 (.map (some K.bm)) (.agg #[.int .i64 x.1, .int .i64 x.2]) (.bool true)).run Tryz.prog wA.drew = .ok () (setBlock wA.drew K.bm o) := ho _ (bd.block K.bm A1.out.lt)
    have B1 := Lib.hid (hat wA.drew (by have := A1.out.lt; have := bd.size; omega))
    have HST := stored o HH.out.ne (bx := K.w0.heap.size + 1) (by have := HH.out.hm.2; omega) (A3.out.next bd) (Blk.kept A2 bd) (orow_kept A4.out bd)
    have B2 := HST.2.1
    have B3 := Lib.hid HST.1
    have B4 := Lib.hid HST.2.2
    have B5 := (Blk.kept A5 bd).setB (k := K.bm) (by have := HH.out.hm.2; omega) o
    clear ho hat HST A1 A2 A3 A4 A5 bd
    have HW : Hid (wA.drew = wA.drew) := rfl
    generalize hwd : wA.drew = wd at *
    clear HW hwd
    simp only [List.take_succ_cons, List.take_zero, List.drop_succ_cons, List.drop_zero]
    repeat still_step
    refine wpStill_nil ?_
    clear y5 y0 y1
    generalize setBlock wd K.bm o = wB at *
    have hlen := Lib.hid HC.out
    have x0 : wB.cell? ⟨K.w0.heap.size, 0, none⟩ = some (.int .i64 x.1) := B5.cell 0
    have x1 : wB.cell? ⟨K.w0.heap.size, 1, none⟩ = some (.int .i64 x.2) := B5.cell 1
    have hbig : K.w0.heap.size + 1 ≤ wB.heap.size := by have := B5.lt; omega
    have bxx := (Below.refl wB.heap.size wB).alloc (Nat.le_refl _) (.cells #[.int .i64 x.1, .int .i64 x.2] 145)
    have C1 := Lib.hid (B1.out.kept bxx)
    have C2 := Lib.hid (Blk.kept B2 bxx)
    have C3 := Lib.hid (B3.out.next bxx)
    have C5 := Lib.hid (Blk.kept B5 bxx)
    have HB5 := Lib.hid B5
    have hblt : K.w0.heap.size < wB.heap.size := B5.lt
    clear B5 B1 B3 bxx
    go_wp2_with (at_builtin; refine wpList_append_lies _ (by rfl) _ _ _ (by rfl) (K.w0.heap.size + 1) 145 i0 _ 2 16 Tryz.underlying179 hi0 hz0 hz1 hz2 rfl (by omega) _ W.length (ptC W) (by rfl) (World.ownsRow.alloc B4.out _) ⟨wB.heap.size, 0, none⟩ 1 1 [.int .i64 (x.1 : Int), .int .i64 (x.2 : Int)] (by rfl) (by rfl) (World.news_of_block (cs := #[.int .i64 (x.1 : Int), .int .i64 (x.2 : Int)]) (t := 145) (fr := (0, 0)) (heap_alloc_new wB _)) (by simp [Value.oneCell']) (by omega) (by have := hlen.out; unfold maxLen; omega) (by have := hlen.out; omega) (by simp; omega) (wB.heap.size + 1) (by simp) ?_; intro g3 cap3 w3 hown hgrow hat hlt3)
    have hnr : ∀ k, (Value.slice a W.length cap).ownBlock = some k → K.w0.heap.size + 1 ≤ k := fun k hk => (World.ownsRow.lt B4.out k hk).1
    have D1 := Lib.hid (C1.out.grown hgrow (fun e => by have := hnr _ e; have := HH.out.hm.2; omega))
    have D2 : WkB w3 K.bw K.sp K.st F1 false bl1 K.bm := Blk.grown C2.out hgrow (fun e => by have := hnr _ e; have := HH.out.hw.2; omega)
    have D3 := Lib.hid (C3.out.grown hgrow (fun k hk => by have := hnr k hk; omega))
    have D4 : Hid (w3.ownsRow (K.w0.heap.size + 1) 145 2 (.slice (some ⟨g3, 0, none⟩) (W.length + 1) cap3) (W ++ [x]).length (ptC (W ++ [x]))) := by show World.ownsRow _ _ _ _ _ _ _; rw [List.length_append, ptC_app]; exact hown
    have D5 := Blk.grown C5.out hgrow (fun e => by have := hnr _ e; omega)
    clear hnr hown hgrow hat hlt3 C1 C2 C3 C5 HB5 B2 B4 x0 x1 hs1 hbig hblt hlen
    refine wp_region_still_tail 5 (by kernel_rfl) (by kernel_rfl) ?_
    change wpStill _ _ (World.drew _) (fun a' => wpList _ _ _ _ a' (World.drew _)) _ _
    have bd := (Below.refl w3.heap.size w3).drew
    have y0 := ckeep bd D2.cells.1
    have y1 := ckeep bd D2.cells.2.1
    have x0 : w3.drew.cell? ⟨K.w0.heap.size, 0, none⟩ = some (.int .i64 x.1) := ckeep bd (D5.cell 0)
    have x1 : w3.drew.cell? ⟨K.w0.heap.size, 1, none⟩ = some (.int .i64 x.2) := ckeep bd (D5.cell 1)
    have E1 := Lib.hid (D1.out.kept bd)
    have E2 := Lib.hid (Blk.kept D2 bd)
    have E3 := Lib.hid (D3.out.next bd)
    have E4 := Lib.hid (orow_kept D4.out bd)
    have E5 := Lib.hid (Blk.kept D5 bd)
    clear D1 D2 D3 D4 D5 bd
    generalize w3.drew = wE at *
    simp only [List.take_succ_cons, List.take_zero, List.drop_succ_cons, List.drop_zero]
    repeat still_step
    refine wpStill_nil ?_
    clear y0 y1 x0 x1
    have CF : Calls Tryz.prog 136 #[.agg #[K.sp, .int .i64 K.st], .agg #[.int .i64 x.1, .int .i64 x.2]] wE (FollPost (nxp mdl K.G x) wE) :=
      foll_any HH.out.fl HH.out.ok K.st x HU.out.1 HU.out.2 ((HH.out.bel).trans (E3.out.below HH.out.hw.1 HH.out.hm.1 HH.out.bel.size))
    rw [HX.out] at CF
    have HCF := Lib.hid CF
    clear CF
    go_wp2_with fail
    refine HCF.out.mono ?_
    rintro e w4 ⟨v7, rfl, hv7, hb⟩
    have F1' := Lib.hid (E1.out.kept hb)
    have F2' := Lib.hid (Blk.kept E2.out hb)
    have F3' := Lib.hid (E3.out.next hb)
    have F4' := Lib.hid (orow_kept E4.out hb)
    have F5' := Blk.kept E5.out hb
    have hwE : K.w0.heap.size ≤ wE.heap.size := E3.out.size
    clear hb E1 E2 E3 E4 E5 HCF
    obtain ⟨a7, cap7, rfl, h7⟩ := row_forms hv7
    have hcap := row_cap hv7
    obtain ⟨g, rfl, hg, c0, c1⟩ := h7 0 y rfl
    obtain ⟨g', e, _, c2, c3⟩ := h7 1 z rfl
    injection e with e
    injection e with e
    subst e
    clear h7 hv7
    simp at c0 c1 c2 c3 hcap
    have hcapI : (1 : Int) ≤ cap7 := by omega
    have hcap1 : ¬ cap7 = 1 := by omega
    have hcapN : 1 ≤ cap7 := by omega
    have hne1 : g ≠ K.bw := by have := HH.out.hw.2; omega
    have hne2 : g ≠ K.bm := by have := HH.out.hm.2; omega
    have bx := (Below.refl w4.heap.size w4).alloc (Nat.le_refl _) (.cells #[.int .i64 z.1, .int .i64 z.2] 145)
    have hz0' : ((nxp mdl K.G x)) = [y, z] := HX.out
    have HEz := Lib.hid (show Edge mdl K.G x z from by unfold Edge; rw [HX.out]; simp)
    have HEy := Lib.hid (show Edge mdl K.G x y from by unfold Edge; rw [HX.out]; simp)
    have HL := Lib.hid (unk_lt (N := K.G.length) (m := m1) (m' := upd m1 x true) (fun z hz => upd_some hz) HU.out HM.out (by rw [upd_same]; simp))
    have HL0 := Lib.hid (unk_le (N := K.G.length) (m := K.m) (m' := m1) (fun q hq => by cases hc : K.m q with | none => exact absurd hc hq | some v => rw [HG.out.ext q v hc]; simp))
    have CR : Calls Tryz.prog 111 #[.pointer (some ⟨K.bw, 0, none⟩), .agg #[.int .i64 z.1, .int .i64 z.2]] (w4.alloc (.cells #[.int .i64 z.1, .int .i64 z.2] 145)) (FolPost { K with w0 := w4.alloc (.cells #[.int .i64 z.1, .int .i64 z.2] 145), x0 := z, m := upd m1 x true, F := F1, lo := false, bl := bl1 }) :=
      IH.out { K with w0 := w4.alloc (.cells #[.int .i64 z.1, .int .i64 z.2] 145), x0 := z, m := upd m1 x true, F := F1, lo := false, bl := bl1 } rfl (by have := HL.out; have := HL0.out; show unk K.G.length (upd m1 x true) < _; omega)
        ⟨HH.out.fl, HH.out.ok, HH.out.un, HH.out.top, (HH.out.bel).trans ((F3'.out.next bx).below HH.out.hw.1 HH.out.hm.1 HH.out.bel.size), ⟨HH.out.hw.1, Nat.lt_of_lt_of_le HH.out.hw.2 (F3'.out.next bx).size⟩, ⟨HH.out.hm.1, Nat.lt_of_lt_of_le HH.out.hm.2 (F3'.out.next bx).size⟩, HH.out.ne, HG.out.pre HH.out.pre HM.out HEz.out, HH.out.sm⟩
        (HH.out.un x z HU.out HEz.out) (Blk.kept F2'.out bx) (F1'.out.kept bx)
    have HCR := Lib.hid CR
    have BX := Lib.hid bx
    have HF5 := Lib.hid F5'
    clear CR bx hz0' F5'
    simp only [List.length_cons, List.length_nil, Nat.zero_add]
    go_wp2_with fail
    refine wp_loop_rounds 2 ?_
    rw [rounds_succ]
    go_wp2_with fail
    refine HCR.out.mono ?_
    rintro e w6 ⟨rfl, m3, F3, lo3, bl3, k1, k2, k3, k4⟩
    have d0 := kcell2 k3 (ckeep BX.out c0) hne1 hne2
    have d1 := kcell2 k3 (ckeep BX.out c1) hne1 hne2
    have P5 := (Blk.kept HF5.out BX.out).kp2 k3 (by have := HH.out.hw.2; show K.w0.heap.size ≠ K.bw; omega) (by have := HH.out.hm.2; show K.w0.heap.size ≠ K.bm; omega)
    have b0 : w6.cell? ⟨K.w0.heap.size, 0, none⟩ = some (.int .i64 x.1) := P5.cell 0
    have b1 : w6.cell? ⟨K.w0.heap.size, 1, none⟩ = some (.int .i64 x.2) := P5.cell 1
    have r0 := P5.free 0
    have r1 := P5.free 1
    have P3 := (F3'.out.next BX.out).trans k3
    have P4 := orow_kp2 (orow_kept F4'.out BX.out) k3 (by have := HH.out.hw.2; show K.bw < _; omega) (by have := HH.out.hm.2; show K.bm < _; omega)
    have G5 := Lib.hid ((P5.set 0 (.int .i64 (y.1 : Int))).set 1 (.int .i64 (y.2 : Int)))
    have G1 := Lib.hid ((k2.setCell (a := ⟨K.w0.heap.size, 0, none⟩) (by have := HH.out.hm.2; show K.bm ≠ K.w0.heap.size; omega) (.int .i64 (y.1 : Int))).setCell (a := ⟨K.w0.heap.size, 1, none⟩) (by have := HH.out.hm.2; show K.bm ≠ K.w0.heap.size; omega) (.int .i64 (y.2 : Int)))
    have G2 : Hid (WkB ((w6.setCell ⟨K.w0.heap.size, 0, none⟩ (.int .i64 (y.1 : Int))).setCell ⟨K.w0.heap.size, 1, none⟩ (.int .i64 (y.2 : Int))) K.bw K.sp K.st F3 lo3 bl3 K.bm) := (Blk.setOther k1 (p := ⟨K.w0.heap.size, 0, none⟩) (by have := HH.out.hw.2; show K.bw ≠ K.w0.heap.size; omega) _).setOther (p := ⟨K.w0.heap.size, 1, none⟩) (by have := HH.out.hw.2; show K.bw ≠ K.w0.heap.size; omega) _
    have G3 := Lib.hid ((P3.setNew (q := ⟨K.w0.heap.size, 0, none⟩) (Nat.le_refl _) (.int .i64 (y.1 : Int))).setNew (q := ⟨K.w0.heap.size, 1, none⟩) (Nat.le_refl _) (.int .i64 (y.2 : Int)))
    have G4 := Lib.hid (orow_set (orow_set P4 (p := ⟨K.w0.heap.size, 0, none⟩) (Nat.lt_succ_self _) (.int .i64 (y.1 : Int))) (p := ⟨K.w0.heap.size, 1, none⟩) (Nat.lt_succ_self _) (.int .i64 (y.2 : Int)))
    have HS := Lib.hid (HG.out.step (y0 := y) HM.out (fun j => nx_end HH.out.top) HEy.out (.inr ⟨z, HX.out, k4⟩))
    have HUy := Lib.hid (HH.out.un x y HU.out HEy.out)
    have HL2 := Lib.hid (unk_le (N := K.G.length) (m := upd m1 x true) (m' := m3) (fun q hq => by cases hc : upd m1 x true q with | none => exact absurd hc hq | some v => rw [k4.ext q v hc]; simp))
    clear F1' F2' F3' F4' HF5 BX HCR k1 k2 k3 k4 P3 P4 P5 c0 c1 c2 c3
    go_wp2_with fail
    rw [rounds_succ]
    go_wp2_with fail
    go_step3
    exact (show _ ∧ _ ∧ _ from ⟨rfl, folJ_mk rfl ⟨G5.out, G4.out, G2.out, G1.out, G3.out, HS.out, HUy.out, by have := HL.out; have := HL2.out; have := HCN.out; rw [List.length_append, List.length_singleton]; omega⟩ trivial, by rw [G1.out.inn, HMI.out]; have := HL.out; have := HL2.out; omega⟩)
  · skip
    go_wp2_with fail
    go_quiet (fail)
    go_wp2_with fail
    have hb0 := bdrewN (Below.refl w.heap.size w) nq
    have A1 := Lib.hid ((HJ.out.mp.kept hb0).setCell (a := ⟨K.bw, 3, none⟩) (by exact fun e => HH.out.ne e.symm) (.bool true))
    have A2 : WkB ((w.drewN nq).setCell ⟨K.bw, 3, none⟩ (.bool true)) K.bw K.sp K.st F1 true bl1 K.bm := by have := Blk.set (Blk.kept HJ.out.wk hb0) 3 (.bool true); exact this
    have A3 := Lib.hid ((HJ.out.kp.next hb0).setA 3 (.bool true))
    have A4 := Lib.hid (orow_kp2 (orow_kept HJ.out.row hb0) ((Kp2.refl K.bw K.bm _).setA 3 (.bool true)) (by have := HH.out.hw.2; omega) (by have := HH.out.hm.2; omega))
    have A5 := (Blk.kept HJ.out.box hb0).setOther (p := ⟨K.bw, 3, none⟩) (by have := HH.out.hw.2; simp; omega) (.bool true)
    clear hb0 q0 q1 q2 q3 q4 q5 f2 f3 f4 b0 b1 hl HJ
    generalize (w.drewN nq).setCell ⟨K.bw, 3, none⟩ (.bool true) = wA at *
    refine wp_region_still_tail 5 (by kernel_rfl) (by kernel_rfl) ?_
    change wpStill _ _ (World.drew _) (fun a' => wpList _ _ _ _ a' (World.drew _)) _ _
    have bd := (Below.refl wA.heap.size wA).drew
    have y5 := ckeep bd A2.cells.2.2.2.2.2
    have y0 : wA.drew.cell? ⟨K.w0.heap.size, 0, none⟩ = some (.int .i64 x.1) := ckeep bd (A5.cell 0)
    have y1 : wA.drew.cell? ⟨K.w0.heap.size, 1, none⟩ = some (.int .i64 x.2) := ckeep bd (A5.cell 1)
    obtain ⟨o, ho, hat⟩ := store_run A1.out x true
    have hs1 : (Instr.mapUpdate 107 (.map (some K.bm)) (.agg #[.int .i64 x.1, .int .i64 x.2]) (.bool true)).run Tryz.prog wA.drew = .ok () (setBlock wA.drew K.bm o) := ho _ (bd.block K.bm A1.out.lt)
    have B1 := Lib.hid (hat wA.drew (by have := A1.out.lt; have := bd.size; omega))
    have HST := stored o HH.out.ne (bx := K.w0.heap.size + 1) (by have := HH.out.hm.2; omega) (A3.out.next bd) (Blk.kept A2 bd) (orow_kept A4.out bd)
    have B2 := HST.2.1
    have B3 := Lib.hid HST.1
    have B4 := Lib.hid HST.2.2
    have B5 := (Blk.kept A5 bd).setB (k := K.bm) (by have := HH.out.hm.2; omega) o
    clear ho hat HST A1 A2 A3 A4 A5 bd
    have HW : Hid (wA.drew = wA.drew) := rfl
    generalize hwd : wA.drew = wd at *
    clear HW hwd
    simp only [List.take_succ_cons, List.take_zero, List.drop_succ_cons, List.drop_zero]
    repeat still_step
    refine wpStill_nil ?_
    clear y5 y0 y1
    generalize setBlock wd K.bm o = wB at *
    have hlen := Lib.hid HC.out
    have x0 : wB.cell? ⟨K.w0.heap.size, 0, none⟩ = some (.int .i64 x.1) := B5.cell 0
    have x1 : wB.cell? ⟨K.w0.heap.size, 1, none⟩ = some (.int .i64 x.2) := B5.cell 1
    have hbig : K.w0.heap.size + 1 ≤ wB.heap.size := by have := B5.lt; omega
    have bxx := (Below.refl wB.heap.size wB).alloc (Nat.le_refl _) (.cells #[.int .i64 x.1, .int .i64 x.2] 145)
    have C1 := Lib.hid (B1.out.kept bxx)
    have C2 := Lib.hid (Blk.kept B2 bxx)
    have C3 := Lib.hid (B3.out.next bxx)
    have C5 := Lib.hid (Blk.kept B5 bxx)
    have HB5 := Lib.hid B5
    have hblt : K.w0.heap.size < wB.heap.size := B5.lt
    clear B5 B1 B3 bxx
    go_wp2_with (at_builtin; refine wpList_append_lies _ (by rfl) _ _ _ (by rfl) (K.w0.heap.size + 1) 145 i0 _ 2 16 Tryz.underlying179 hi0 hz0 hz1 hz2 rfl (by omega) _ W.length (ptC W) (by rfl) (World.ownsRow.alloc B4.out _) ⟨wB.heap.size, 0, none⟩ 1 1 [.int .i64 (x.1 : Int), .int .i64 (x.2 : Int)] (by rfl) (by rfl) (World.news_of_block (cs := #[.int .i64 (x.1 : Int), .int .i64 (x.2 : Int)]) (t := 145) (fr := (0, 0)) (heap_alloc_new wB _)) (by simp [Value.oneCell']) (by omega) (by have := hlen.out; unfold maxLen; omega) (by have := hlen.out; omega) (by simp; omega) (wB.heap.size + 1) (by simp) ?_; intro g3 cap3 w3 hown hgrow hat hlt3)
    have hnr : ∀ k, (Value.slice a W.length cap).ownBlock = some k → K.w0.heap.size + 1 ≤ k := fun k hk => (World.ownsRow.lt B4.out k hk).1
    have D1 := Lib.hid (C1.out.grown hgrow (fun e => by have := hnr _ e; have := HH.out.hm.2; omega))
    have D2 : WkB w3 K.bw K.sp K.st F1 true bl1 K.bm := Blk.grown C2.out hgrow (fun e => by have := hnr _ e; have := HH.out.hw.2; omega)
    have D3 := Lib.hid (C3.out.grown hgrow (fun k hk => by have := hnr k hk; omega))
    have D4 : Hid (w3.ownsRow (K.w0.heap.size + 1) 145 2 (.slice (some ⟨g3, 0, none⟩) (W.length + 1) cap3) (W ++ [x]).length (ptC (W ++ [x]))) := by show World.ownsRow _ _ _ _ _ _ _; rw [List.length_append, ptC_app]; exact hown
    have D5 := Blk.grown C5.out hgrow (fun e => by have := hnr _ e; omega)
    clear hnr hown hgrow hat hlt3 C1 C2 C3 C5 HB5 B2 B4 x0 x1 hs1 hbig hblt hlen
    refine wp_region_still_tail 5 (by kernel_rfl) (by kernel_rfl) ?_
    change wpStill _ _ (World.drew _) (fun a' => wpList _ _ _ _ a' (World.drew _)) _ _
    have bd := (Below.refl w3.heap.size w3).drew
    have y0 := ckeep bd D2.cells.1
    have y1 := ckeep bd D2.cells.2.1
    have x0 : w3.drew.cell? ⟨K.w0.heap.size, 0, none⟩ = some (.int .i64 x.1) := ckeep bd (D5.cell 0)
    have x1 : w3.drew.cell? ⟨K.w0.heap.size, 1, none⟩ = some (.int .i64 x.2) := ckeep bd (D5.cell 1)
    have E1 := Lib.hid (D1.out.kept bd)
    have E2 := Lib.hid (Blk.kept D2 bd)
    have E3 := Lib.hid (D3.out.next bd)
    have E4 := Lib.hid (orow_kept D4.out bd)
    have E5 := Lib.hid (Blk.kept D5 bd)
    clear D1 D2 D3 D4 D5 bd
    generalize w3.drew = wE at *
    simp only [List.take_succ_cons, List.take_zero, List.drop_succ_cons, List.drop_zero]
    repeat still_step
    refine wpStill_nil ?_
    clear y0 y1 x0 x1
    have CF : Calls Tryz.prog 136 #[.agg #[K.sp, .int .i64 K.st], .agg #[.int .i64 x.1, .int .i64 x.2]] wE (FollPost (nxp mdl K.G x) wE) :=
      foll_any HH.out.fl HH.out.ok K.st x HU.out.1 HU.out.2 ((HH.out.bel).trans (E3.out.below HH.out.hw.1 HH.out.hm.1 HH.out.bel.size))
    rw [HX.out] at CF
    have HCF := Lib.hid CF
    clear CF
    go_wp2_with fail
    refine HCF.out.mono ?_
    rintro e w4 ⟨v7, rfl, hv7, hb⟩
    have F1' := Lib.hid (E1.out.kept hb)
    have F2' := Lib.hid (Blk.kept E2.out hb)
    have F3' := Lib.hid (E3.out.next hb)
    have F4' := Lib.hid (orow_kept E4.out hb)
    have F5' := Blk.kept E5.out hb
    have hwE : K.w0.heap.size ≤ wE.heap.size := E3.out.size
    clear hb E1 E2 E3 E4 E5 HCF
    obtain ⟨a7, cap7, rfl, h7⟩ := row_forms hv7
    have hcap := row_cap hv7
    obtain ⟨g, rfl, hg, c0, c1⟩ := h7 0 y rfl
    obtain ⟨g', e, _, c2, c3⟩ := h7 1 z rfl
    injection e with e
    injection e with e
    subst e
    clear h7 hv7
    simp at c0 c1 c2 c3 hcap
    have hcapI : (1 : Int) ≤ cap7 := by omega
    have hcap1 : ¬ cap7 = 1 := by omega
    have hcapN : 1 ≤ cap7 := by omega
    have hne1 : g ≠ K.bw := by have := HH.out.hw.2; omega
    have hne2 : g ≠ K.bm := by have := HH.out.hm.2; omega
    have bx := (Below.refl w4.heap.size w4).alloc (Nat.le_refl _) (.cells #[.int .i64 z.1, .int .i64 z.2] 145)
    have hz0' : ((nxp mdl K.G x)) = [y, z] := HX.out
    have HEz := Lib.hid (show Edge mdl K.G x z from by unfold Edge; rw [HX.out]; simp)
    have HEy := Lib.hid (show Edge mdl K.G x y from by unfold Edge; rw [HX.out]; simp)
    have HL := Lib.hid (unk_lt (N := K.G.length) (m := m1) (m' := upd m1 x true) (fun z hz => upd_some hz) HU.out HM.out (by rw [upd_same]; simp))
    have HL0 := Lib.hid (unk_le (N := K.G.length) (m := K.m) (m' := m1) (fun q hq => by cases hc : K.m q with | none => exact absurd hc hq | some v => rw [HG.out.ext q v hc]; simp))
    have CR : Calls Tryz.prog 111 #[.pointer (some ⟨K.bw, 0, none⟩), .agg #[.int .i64 z.1, .int .i64 z.2]] (w4.alloc (.cells #[.int .i64 z.1, .int .i64 z.2] 145)) (FolPost { K with w0 := w4.alloc (.cells #[.int .i64 z.1, .int .i64 z.2] 145), x0 := z, m := upd m1 x true, F := F1, lo := true, bl := bl1 }) :=
      IH.out { K with w0 := w4.alloc (.cells #[.int .i64 z.1, .int .i64 z.2] 145), x0 := z, m := upd m1 x true, F := F1, lo := true, bl := bl1 } rfl (by have := HL.out; have := HL0.out; show unk K.G.length (upd m1 x true) < _; omega)
        ⟨HH.out.fl, HH.out.ok, HH.out.un, HH.out.top, (HH.out.bel).trans ((F3'.out.next bx).below HH.out.hw.1 HH.out.hm.1 HH.out.bel.size), ⟨HH.out.hw.1, Nat.lt_of_lt_of_le HH.out.hw.2 (F3'.out.next bx).size⟩, ⟨HH.out.hm.1, Nat.lt_of_lt_of_le HH.out.hm.2 (F3'.out.next bx).size⟩, HH.out.ne, HG.out.pre HH.out.pre HM.out HEz.out, HH.out.sm⟩
        (HH.out.un x z HU.out HEz.out) (Blk.kept F2'.out bx) (F1'.out.kept bx)
    have HCR := Lib.hid CR
    have BX := Lib.hid bx
    have HF5 := Lib.hid F5'
    clear CR bx hz0' F5'
    simp only [List.length_cons, List.length_nil, Nat.zero_add]
    go_wp2_with fail
    refine wp_loop_rounds 2 ?_
    rw [rounds_succ]
    go_wp2_with fail
    refine HCR.out.mono ?_
    rintro e w6 ⟨rfl, m3, F3, lo3, bl3, k1, k2, k3, k4⟩
    have d0 := kcell2 k3 (ckeep BX.out c0) hne1 hne2
    have d1 := kcell2 k3 (ckeep BX.out c1) hne1 hne2
    have P5 := (Blk.kept HF5.out BX.out).kp2 k3 (by have := HH.out.hw.2; show K.w0.heap.size ≠ K.bw; omega) (by have := HH.out.hm.2; show K.w0.heap.size ≠ K.bm; omega)
    have b0 : w6.cell? ⟨K.w0.heap.size, 0, none⟩ = some (.int .i64 x.1) := P5.cell 0
    have b1 : w6.cell? ⟨K.w0.heap.size, 1, none⟩ = some (.int .i64 x.2) := P5.cell 1
    have r0 := P5.free 0
    have r1 := P5.free 1
    have P3 := (F3'.out.next BX.out).trans k3
    have P4 := orow_kp2 (orow_kept F4'.out BX.out) k3 (by have := HH.out.hw.2; show K.bw < _; omega) (by have := HH.out.hm.2; show K.bm < _; omega)
    have G5 := Lib.hid ((P5.set 0 (.int .i64 (y.1 : Int))).set 1 (.int .i64 (y.2 : Int)))
    have G1 := Lib.hid ((k2.setCell (a := ⟨K.w0.heap.size, 0, none⟩) (by have := HH.out.hm.2; show K.bm ≠ K.w0.heap.size; omega) (.int .i64 (y.1 : Int))).setCell (a := ⟨K.w0.heap.size, 1, none⟩) (by have := HH.out.hm.2; show K.bm ≠ K.w0.heap.size; omega) (.int .i64 (y.2 : Int)))
    have G2 : Hid (WkB ((w6.setCell ⟨K.w0.heap.size, 0, none⟩ (.int .i64 (y.1 : Int))).setCell ⟨K.w0.heap.size, 1, none⟩ (.int .i64 (y.2 : Int))) K.bw K.sp K.st F3 lo3 bl3 K.bm) := (Blk.setOther k1 (p := ⟨K.w0.heap.size, 0, none⟩) (by have := HH.out.hw.2; show K.bw ≠ K.w0.heap.size; omega) _).setOther (p := ⟨K.w0.heap.size, 1, none⟩) (by have := HH.out.hw.2; show K.bw ≠ K.w0.heap.size; omega) _
    have G3 := Lib.hid ((P3.setNew (q := ⟨K.w0.heap.size, 0, none⟩) (Nat.le_refl _) (.int .i64 (y.1 : Int))).setNew (q := ⟨K.w0.heap.size, 1, none⟩) (Nat.le_refl _) (.int .i64 (y.2 : Int)))
    have G4 := Lib.hid (orow_set (orow_set P4 (p := ⟨K.w0.heap.size, 0, none⟩) (Nat.lt_succ_self _) (.int .i64 (y.1 : Int))) (p := ⟨K.w0.heap.size, 1, none⟩) (Nat.lt_succ_self _) (.int .i64 (y.2 : Int)))
    have HS := Lib.hid (HG.out.step (y0 := y) HM.out (fun j => nx_end HH.out.top) HEy.out (.inr ⟨z, HX.out, k4⟩))
    have HUy := Lib.hid (HH.out.un x y HU.out HEy.out)
    have HL2 := Lib.hid (unk_le (N := K.G.length) (m := upd m1 x true) (m' := m3) (fun q hq => by cases hc : upd m1 x true q with | none => exact absurd hc hq | some v => rw [k4.ext q v hc]; simp))
    clear F1' F2' F3' F4' HF5 BX HCR k1 k2 k3 k4 P3 P4 P5 c0 c1 c2 c3
    go_wp2_with fail
    rw [rounds_succ]
    go_wp2_with fail
    go_step3
    exact (show _ ∧ _ ∧ _ from ⟨rfl, folJ_mk rfl ⟨G5.out, G4.out, G2.out, G1.out, G3.out, HS.out, HUy.out, by have := HL.out; have := HL2.out; have := HCN.out; rw [List.length_append, List.length_singleton]; omega⟩ trivial, by rw [G1.out.inn, HMI.out]; have := HL.out; have := HL2.out; omega⟩)
end Go.Proofs.YtkgdhlpmlpbbkaaGreat

namespace Go.Proofs.YtkgdhlpmlpbbkaaGreat
open Go.RowKit Tm Go.ChangeMaps

theorem nxp_cases {G : List Stp} (hG : ∀ (k : Nat) (s : Stp), G[k]? = some s → StpOk s) (x : Pt) : nxp mdl G x = [] ∨ (∃ y, nxp mdl G x = [y]) ∨ ∃ y z, nxp mdl G x = [y, z] := by
  have key : ∀ l : List Pt, l.length ≤ 2 → l = [] ∨ (∃ y, l = [y]) ∨ ∃ y z, l = [y, z] := by
    intro l hl
    match l, hl with
    | [], _ => exact .inl rfl
    | [y], _ => exact .inr (.inl ⟨y, rfl⟩)
    | [y, z], _ => exact .inr (.inr ⟨y, z, rfl⟩)
  apply key
  unfold nxp
  cases h : G[x.1]? with
  | none => simp
  | some s =>
    have ho := hG _ _ h
    obtain ⟨d, nx⟩ := s
    unfold StpOk at ho
    have gl : ∀ t, (gd mdl t nx x.2).length ≤ nx.length := fun t => by unfold gd; split <;> simp <;> omega
    cases d with
    | none => simp only at ho; subst ho; simp [after]
    | some p =>
      cases p <;> simp only [after, List.length_map] at ho ⊢ <;> first | omega | (exact Nat.le_trans (gl _) (by omega)) | exact ho.elim

theorem fol_any (w1 : World) (B : Nat) : ∀ (n : Nat) (K : WkK), unk K.G.length K.m ≤ n → WkH K w1 B → (K.x0.1 < K.G.length ∧ K.x0.2 < 27) → WkB K.w0 K.bw K.sp K.st K.F K.lo K.bl K.bm → MapAt K.w0 K.bm K.m →
    Calls Tryz.prog 111 #[.pointer (some ⟨K.bw, 0, none⟩), .agg #[.int .i64 K.x0.1, .int .i64 K.x0.2]] K.w0 (FolPost K) := by
  intro n
  induction n using Nat.strongRecOn with
  | ind n ih =>
  intro K hn hH hx0 hwk hmp
  have IH : Hid (∀ K2 : WkK, K2.G = K.G → unk K2.G.length K2.m < unk K.G.length K.m → WkH K2 w1 B → (K2.x0.1 < K2.G.length ∧ K2.x0.2 < 27) → WkB K2.w0 K2.bw K2.sp K2.st K2.F K2.lo K2.bl K2.bm → MapAt K2.w0 K2.bm K2.m → Calls Tryz.prog 111 #[.pointer (some ⟨K2.bw, 0, none⟩), .agg #[.int .i64 K2.x0.1, .int .i64 K2.x0.2]] K2.w0 (FolPost K2)) :=
    fun K2 _ hlt h1 h2 h3 h4 => ih _ (Nat.lt_of_lt_of_le hlt hn) K2 (Nat.le_refl _) h1 h2 h3 h4
  clear ih hn
  have HS := Lib.hid (WkJ.start hH hx0 hwk hmp)
  have HH := Lib.hid hH
  clear hH hx0 hwk hmp
  go_enter Tryz.func111, Tryz.ntmps111
  go_wp2_with fail
  refine wp_scope_lab 0 (FolJ K (fun _ _ => True)) (fun _ w => unk K.G.length (mapIn w K.bm)) rfl ?_ ?_
  · go_wp2_with fail
    exact folJ_mk rfl HS.out trivial
  · intro a w hJ
    have hr : FolRest _ := ⟨_, _, _, Tryz.func111, rfl⟩
    obtain ⟨v4, W, x, m1, F1, lo1, bl1, u, rfl, hj, _⟩ := hJ
    cases hm : m1 x with
    | some b => exact pass_known K w1 B HH.out _ hr b _ w ⟨v4, W, x, m1, F1, lo1, bl1, u, rfl, hj, hm⟩
    | none =>
      rcases nxp_cases HH.out.ok x with h | ⟨y, h⟩ | ⟨y, z, h⟩
      · exact pass_last K w1 B HH.out _ hr _ w ⟨v4, W, x, m1, F1, lo1, bl1, u, rfl, hj, hm, h⟩
      · exact pass_one K w1 B HH.out _ hr y _ w ⟨v4, W, x, m1, F1, lo1, bl1, u, rfl, hj, hm, h⟩
      · exact pass_two K w1 B HH.out _ hr IH y z _ w ⟨v4, W, x, m1, F1, lo1, bl1, u, rfl, hj, hm, h⟩
end Go.Proofs.YtkgdhlpmlpbbkaaGreat

namespace Go.Proofs.YtkgdhlpmlpbbkaaGreat
open Go.RowKit Tm Go.ChangeMaps

/-- A walk that has gone from the first k states of a set. -/
structure Wk (G : List Stp) (s : Nat) (S : Nat → Bool) (k : Nat) (m : Mp) (F : Nat → Bool) (lo bl : Bool) : Prop where
  kn : ∀ y, m y ≠ none ↔ ∃ i, i < k ∧ S i = true ∧ Star (Edge mdl G) (s, i) y
  bk : ∀ y b, m y = some b → b = false
  fin : ∀ j, j < 27 → (F j = true ↔ m (0, j) ≠ none)
  blk : bl = true ↔ ∃ y, m y ≠ none ∧ nxp mdl G y = [] ∧ y.1 ≠ 0
  lp : lo = true ↔ ∃ i, i < k ∧ S i = true ∧ Inf mdl G (s, i)
theorem Wk.zero (G : List Stp) (s : Nat) (S : Nat → Bool) : Wk G s S 0 (fun _ => none) (fun _ => false) false false where
  kn := fun y => ⟨fun h => absurd rfl h, fun ⟨i, h, _⟩ => absurd h (by omega)⟩
  bk := fun y b h => by cases h
  fin := fun j _ => ⟨fun h => by simp at h, fun h => absurd rfl h⟩
  blk := ⟨fun h => by simp at h, fun ⟨y, h, _⟩ => absurd rfl h⟩
  lp := ⟨fun h => by simp at h, fun ⟨i, h, _⟩ => absurd h (by omega)⟩
theorem Wk.skip {G : List Stp} {s : Nat} {S : Nat → Bool} {k : Nat} {m : Mp} {F : Nat → Bool} {lo bl : Bool} (h : Wk G s S k m F lo bl) (hk : S k = false) : Wk G s S (k + 1) m F lo bl := by
  have e : ∀ P : Nat → Prop, (∃ i, i < k + 1 ∧ S i = true ∧ P i) ↔ ∃ i, i < k ∧ S i = true ∧ P i := fun P => by
    constructor
    · rintro ⟨i, h1, h2, h3⟩
      have : i ≠ k := fun e => by subst e; rw [hk] at h2; cases h2
      exact ⟨i, by omega, h2, h3⟩
    · rintro ⟨i, h1, h2, h3⟩; exact ⟨i, by omega, h2, h3⟩
  exact ⟨fun y => (h.kn y).trans (e _).symm, h.bk, h.fin, h.blk, h.lp.trans (e _).symm⟩
theorem Wk.pre {G : List Stp} {s : Nat} {S : Nat → Bool} {k : Nat} {m : Mp} {F : Nat → Bool} {lo bl : Bool} (h : Wk G s S k m F lo bl) (x : Pt) : Pre mdl G x m lo where
  gr := fun g hg => by have := h.bk g true hg; simp at this
  bk := fun hl b hb hi => by
    obtain ⟨i, h1, h2, h3⟩ := (h.kn b).1 (by rw [hb]; simp)
    have := h.lp.2 ⟨i, h1, h2, hi.star h3⟩
    rw [hl] at this; cases this
theorem Wk.step {G : List Stp} {s : Nat} {S : Nat → Bool} {k : Nat} {m : Mp} {F : Nat → Bool} {lo bl : Bool} {m' : Mp} {F' : Nat → Bool} {lo' bl' : Bool} (h : Wk G s S k m F lo bl) (hk : S k = true) (hw : Went mdl G (s, k) m F lo bl m' F' lo' bl') : Wk G s S (k + 1) m' F' lo' bl' := by
  have hne : ∀ y, m y ≠ none → m' y ≠ none := fun y hy => by
    cases hc : m y with
    | none => exact absurd hc hy
    | some b => rw [hw.ext y b hc]; simp
  have hcl : ∀ y z, m' y ≠ none → Edge mdl G y z → m' z ≠ none := fun y z hy he => by
    by_cases h1 : m y = none
    · exact (hw.new y h1 hy).2.2 z he
    · obtain ⟨i, h2, h3, h4⟩ := (h.kn y).1 h1
      exact hne z ((h.kn z).2 ⟨i, h2, h3, h4.tail he⟩)
  have hcs : ∀ y z, Star (Edge mdl G) y z → m' y ≠ none → m' z ≠ none := fun y z hs => by
    induction hs with
    | refl => exact id
    | head h1 _ ih => exact fun hy => ih (hcl _ _ hy h1)
  constructor
  · intro y
    constructor
    · intro hy
      by_cases h1 : m y = none
      · exact ⟨k, by omega, hk, (hw.new y h1 hy).2.1⟩
      · obtain ⟨i, h2, h3, h4⟩ := (h.kn y).1 h1
        exact ⟨i, by omega, h3, h4⟩
    · rintro ⟨i, h2, h3, h4⟩
      by_cases e : i = k
      · subst e; exact hcs _ _ h4 hw.at_
      · exact hne y ((h.kn y).2 ⟨i, by omega, h3, h4⟩)
  · intro y b hb
    by_cases h1 : m y = none
    · have := (hw.new y h1 (by rw [hb]; simp)).1
      rw [hb] at this
      injection this
    · cases hc : m y with
      | none => exact absurd hc h1
      | some c =>
        have h2 := hw.ext y c hc
        rw [hb] at h2
        injection h2 with h2
        rw [h2]; exact h.bk y c hc
  · intro j hj
    rw [hw.fin j hj, h.fin j hj]
    constructor
    · rintro (h1 | h1)
      · exact hne _ h1
      · exact h1.2
    · intro h1
      by_cases h2 : m (0, j) = none
      · exact .inr ⟨h2, h1⟩
      · exact .inl h2
  · rw [hw.blk, h.blk]
    constructor
    · rintro (⟨y, h1, h2⟩ | ⟨y, _, h1, h2⟩)
      · exact ⟨y, hne y h1, h2⟩
      · exact ⟨y, h1, h2⟩
    · rintro ⟨y, h1, h2⟩
      by_cases h3 : m y = none
      · exact .inr ⟨y, h3, h1, h2⟩
      · exact .inl ⟨y, h3, h2⟩
  · constructor
    · intro hl
      rcases hw.lp1 hl with h1 | h1
      · obtain ⟨i, h2, h3, h4⟩ := h.lp.1 h1
        exact ⟨i, by omega, h3, h4⟩
      · exact ⟨k, by omega, hk, h1⟩
    · rintro ⟨i, h2, h3, h4⟩
      cases hl : lo' with
      | true => rfl
      | false =>
        obtain ⟨h5, h6, _⟩ := hw.lp2 hl
        by_cases e : i = k
        · subst e; exact absurd h4 h6
        · have := h.lp.2 ⟨i, by omega, h3, h4⟩
          rw [h5] at this; cases this

/-- A flow that may be walked. -/
structure FlowOk (w1 : World) (B : Nat) (sp : Value) (st : Nat) (G : List Stp) : Prop where
  fl : FlowR w1 B sp G
  ok : ∀ (k : Nat) (s : Stp), G[k]? = some s → StpOk s
  top : Top G
  sm : G.length ≤ 1000
  lt : st < G.length
  bd : ∀ (k : Nat) (s : Stp), G[k]? = some s → ∀ (n : Nat), n ∈ s.nx → n < G.length
theorem FlowOk.un {w1 : World} {B : Nat} {sp : Value} {st : Nat} {G : List Stp} (h : FlowOk w1 B sp st G) (x y : Pt) (hx : x.1 < G.length ∧ x.2 < 27) (he : Edge mdl G x y) : y.1 < G.length ∧ y.2 < 27 := by
  unfold Edge nxp at he
  rw [List.getElem?_eq_getElem hx.1] at he
  have hs := List.getElem?_eq_getElem hx.1
  have ho := h.ok _ _ hs
  have hb := h.bd _ _ hs
  generalize G[x.1] = s at *
  obtain ⟨d, nx⟩ := s
  have map_ok : ∀ (l : List Nat) (j : Nat), (∀ n, n ∈ l → n ∈ nx) → j < 27 → y ∈ l.map (fun n => ((n, j) : Pt)) → y.1 < G.length ∧ y.2 < 27 := by
    intro l j hl hj hy
    obtain ⟨n, hn, rfl⟩ := List.mem_map.1 hy
    exact ⟨hb n (hl n hn), hj⟩
  have gd_ok : ∀ t, y ∈ gd mdl t nx x.2 → y.1 < G.length ∧ y.2 < 27 := by
    intro t hy
    unfold gd at hy
    split at hy
    · exact map_ok _ _ (fun n hn => List.mem_of_mem_take hn) hx.2 hy
    · exact map_ok _ _ (fun n hn => List.mem_of_mem_drop hn) hx.2 hy
  unfold after at he
  unfold StpOk at ho
  cases d with
  | none => exact map_ok nx x.2 (fun n hn => hn) hx.2 he
  | some p =>
    cases p with
    | skip => exact map_ok nx x.2 (fun n hn => hn) hx.2 he
    | asg v e => exact map_ok nx (asg v e x.2) (fun n hn => hn) (asg_lt ho.2.2 hx.2) he
    | seq p q => exact ho.elim
    | ite t p q => exact gd_ok t he
    | whl t p => exact gd_ok t he
    | cho p q => exact map_ok nx x.2 (fun n hn => hn) hx.2 he
    | asm t => exact gd_ok t he

def WkPost (G : List Stp) (sp : Value) (st : Nat) (S : Nat → Bool) (w : World) (e : Ending) (w' : World) : Prop := ∃ bw bm m F lo bl, e = .returned (.pointer (some ⟨bw, 0, none⟩)) ∧ WkB w' bw sp st F lo bl bm ∧ MapAt w' bm m ∧ Wk G st S 27 m F lo bl ∧ Below w.heap.size w w'

set_option maxRecDepth 1000000 in
set_option maxHeartbeats 4000000 in
theorem walkFrom_any {w1 : World} {B : Nat} {sp : Value} {st : Nat} {G : List Stp} (hF : FlowOk w1 B sp st G) (S : Nat → Bool) (w : World) (hb : Below w1.heap.size w1 w) :
    Calls Tryz.prog 68 #[.agg #[sp, .int .i64 st], .int .u32 (nb 27 S)] w (WkPost G sp st S w) := by
  obtain ⟨rb, cap, hsp, _⟩ := hF.fl
  subst hsp
  have HF := Lib.hid hF
  have HB := Lib.hid hb
  have hmm := @run_makeMap Tryz.prog
  clear hF hb
  have f1 := Blk.new w #[.slice (some ⟨rb, 0, none⟩) G.length cap, .int .i64 st] 70
  have b1 := (Below.refl w.heap.size w).alloc (Nat.le_refl _) (.cells #[.slice (some ⟨rb, 0, none⟩) G.length cap, .int .i64 st] 70)
  have z1 : (w.alloc (.cells #[.slice (some ⟨rb, 0, none⟩) G.length cap, .int .i64 st] 70)).heap.size = w.heap.size + 1 := by simp
  generalize hw2 : w.alloc (.cells #[.slice (some ⟨rb, 0, none⟩) G.length cap, .int .i64 st] 70) = wa at f1 b1 z1
  have m2 : (wa.alloc (.map #[] 0)).heap[wa.heap.size]? = some (.map #[] 0) := by show (wa.heap.push _)[wa.heap.size]? = _; simp
  have f2 := f1.alloc (.map #[] 0)
  have b2 := b1.alloc (by omega) (.map #[] 0)
  have z2 : (wa.alloc (.map #[] 0)).heap.size = w.heap.size + 1 + 1 := by rw [← z1]; simp
  rw [z1] at m2
  have hmp : MapAt (wa.alloc (.map #[] 0)) (w.heap.size + 1) (fun _ => none) := ⟨#[], 0, [], m2, rfl, fun _ => rfl⟩
  generalize hwb : wa.alloc (.map #[] 0) = wb at m2 f2 b2 z2 hmp
  have kb := Blk.new wb (wkC (.slice (some ⟨rb, 0, none⟩) G.length cap) st (fun _ => false) false false (w.heap.size + 1)) 109
  have bb := (Below.refl wb.heap.size wb).alloc (Nat.le_refl _) (.cells (wkC (.slice (some ⟨rb, 0, none⟩) G.length cap) st (fun _ => false) false false (w.heap.size + 1)) 109)
  have T1 : Hid (WkB (wb.alloc (.cells (wkC (.slice (some ⟨rb, 0, none⟩) G.length cap) st (fun _ => false) false false (w.heap.size + 1)) 109)) (w.heap.size + 1 + 1) (.slice (some ⟨rb, 0, none⟩) G.length cap) st (fun _ => false) false false (w.heap.size + 1)) := by rw [z2] at kb; exact kb
  have T2 := Lib.hid (hmp.kept bb)
  have T3 := Lib.hid (f2.kept bb)
  have T4 := Lib.hid (bnext b2 bb)
  have e0 : (nb 27 (fun _ => false) : Nat) = 0 := nb_zero 27 (fun _ _ => rfl)
  have ew : wkC (.slice (some ⟨rb, 0, none⟩) G.length cap) st (fun _ => false) false false (w.heap.size + 1) = #[.slice (some ⟨rb, 0, none⟩) G.length cap, .int .i64 st, .int .u32 0, .bool false, .bool false, .map (some (w.heap.size + 1))] := by unfold wkC; rw [e0]; rfl
  rw [ew] at T1 T2 T3 T4
  clear f1 b1 z1 m2 f2 b2 z2 hmp kb bb e0 ew
  subst hwb hw2
  go_enter Tryz.func68, Tryz.ntmps68
  go_wp2_with fail
  generalize ((w.alloc (.cells #[.slice (some ⟨rb, 0, none⟩) G.length cap, .int .i64 st] 70)).alloc (.map #[] 0)).alloc (.cells #[.slice (some ⟨rb, 0, none⟩) G.length cap, .int .i64 st, .int .u32 0, .bool false, .bool false, .map (some (w.heap.size + 1))] 109) = w3 at *
  go_loopw [11] (fun i wr => ∃ k : Nat, k ≤ 27 ∧ i = .int .i64 k ∧ ∃ m F lo bl, Hid (WkB wr (w.heap.size + 1 + 1) (.slice (some ⟨rb, 0, none⟩) G.length cap) st F lo bl (w.heap.size + 1)) ∧ Hid (MapAt wr (w.heap.size + 1) m) ∧ Hid (Wk G st S k m F lo bl) ∧ Hid (Below w.heap.size w wr) ∧ Hid (Blk wr w.heap.size #[.slice (some ⟨rb, 0, none⟩) G.length cap, .int .i64 st] 70)) (fun i _ => 27 - (intOf i).toNat)
  case atStart => exact ⟨0, by omega, rfl, _, _, _, _, T1, T2, Wk.zero G st S, T4, T3⟩
  case round =>
    clear T1 T2 T3 T4
    obtain ⟨k, hk, rfl, m, F, lo, bl, R1, R2, R3, R4, R5⟩ := hrel
    by_cases hlt : k < 27
    · have D := fun w => Lib.hid (implHasB S k w hlt)
      have j1 := R5.out.cell 1
      simp at j1
      have hBw : Below w1.heap.size w1 wr := HB.out.trans (R4.out.mono HB.out.size)
      have hsz := HB.out.size
      have hs2 := R1.out.lt
      cases hS : S k
      · rw [hS] at D
        have HK := Lib.hid (R3.out.skip hS)
        clear hS hBw
        go_wp2_with fail
        refine (D _).out.mono ?_
        rintro e w' ⟨rfl, rfl⟩
        go_wp2_with fail
        exact ⟨⟨k + 1, by omega, by go_num, m, F, lo, bl, R1, R2, HK, R4, R5⟩, by simp [intOf]; omega⟩
      · rw [hS] at D
        have HS := Lib.hid hS
        have C : Calls Tryz.prog 111 #[.pointer (some ⟨w.heap.size + 1 + 1, 0, none⟩), .agg #[.int .i64 st, .int .i64 k]] wr (FolPost ⟨G, .slice (some ⟨rb, 0, none⟩) G.length cap, st, w.heap.size + 1 + 1, w.heap.size + 1, wr, (st, k), m, F, lo, bl⟩) :=
          fol_any w1 B _ ⟨G, .slice (some ⟨rb, 0, none⟩) G.length cap, st, w.heap.size + 1 + 1, w.heap.size + 1, wr, (st, k), m, F, lo, bl⟩ (Nat.le_refl _)
            ⟨HF.out.fl, HF.out.ok, HF.out.un, HF.out.top, hBw, ⟨by show _ ≤ w.heap.size + 1 + 1; omega, hs2⟩, ⟨by show _ ≤ w.heap.size + 1; omega, by show w.heap.size + 1 < wr.heap.size; omega⟩, by show w.heap.size + 1 + 1 ≠ w.heap.size + 1; omega, R3.out.pre _, HF.out.sm⟩
            ⟨HF.out.lt, hlt⟩ R1.out R2.out
        have HC := Lib.hid C
        clear hS hBw C
        go_wp2_with fail
        refine (D _).out.mono ?_
        rintro e w' ⟨rfl, rfl⟩
        go_wp2_with fail
        refine HC.out.mono ?_
        rintro e w' ⟨rfl, m', F', lo', bl', k1, k2, k3, k4⟩
        have HK := Lib.hid (R3.out.step HS.out k4)
        have Q5 := Lib.hid (R5.out.kp2 k3 (by show w.heap.size ≠ w.heap.size + 1 + 1; omega) (by show w.heap.size ≠ w.heap.size + 1; omega))
        have Q4 := Lib.hid (R4.out.trans (k3.below (B := w.heap.size) (by show w.heap.size ≤ w.heap.size + 1 + 1; omega) (by show w.heap.size ≤ w.heap.size + 1; omega) (by show w.heap.size ≤ wr.heap.size; omega)))
        have Q1 := Lib.hid k1
        have Q2 := Lib.hid k2
        clear k1 k2 k3 k4 HC R1 R2 R4 R5 j1
        go_wp2_with fail
        exact ⟨⟨k + 1, by omega, by go_num, m', F', lo', bl', Q1, Q2, HK, Q4, Q5⟩, by simp [intOf]; omega⟩
    · have hk2 : k = 27 := by omega
      subst hk2
      go_wp2_with fail
      go_ret
      exact ⟨_, _, m, F, lo, bl, rfl, R1.out, R2.out, R3.out, R4.out⟩
end Go.Proofs.YtkgdhlpmlpbbkaaGreat

namespace Go.Proofs.YtkgdhlpmlpbbkaaGreat
open Go.RowKit Tm Go.ChangeMaps

theorem implWith0 (i : Nat) (w : World) (hi : i < 27) : Calls Tryz.prog 66 #[.int .u32 0, .int .i64 i] w fun e w' => e = .returned (.int .u32 (nb 27 (fun j => j == i) : Nat)) ∧ w = w' := by
  have := implWithB (fun _ => false) i w hi
  have e0 : (nb 27 (fun _ => false) : Nat) = 0 := nb_zero 27 (fun _ _ => rfl)
  rw [e0] at this
  simpa using this

set_option maxRecDepth 1000000 in
set_option maxHeartbeats 4000000 in
theorem heads_any {bw bm st : Nat} {sp : Value} {F : Nat → Bool} {lo bl : Bool} {m : Mp} (w : World) (h1 : WkB w bw sp st F lo bl bm) (h2 : MapAt w bm m) :
    Calls Tryz.prog 69 #[.pointer (some ⟨bw, 0, none⟩)] w fun e w' => e = .returned (.int .u32 (nb 27 (fun i => (m (st, i)).isSome))) ∧ Below w.heap.size w w' := by
  have H1 := Lib.hid h1
  have H2 := Lib.hid h2
  clear h1 h2
  go_enter Tryz.func69, Tryz.ntmps69
  go_wp2_with fail
  go_loopw [3, 7] (fun v i wr => ∃ k : Nat, k ≤ 27 ∧ i = .int .i64 k ∧ v = .int .u32 (nb 27 (lowF (fun i => (m (st, i)).isSome) k)) ∧ Hid (Below w.heap.size w wr)) (fun _ i _ => 27 - (intOf i).toNat)
  case atStart => exact ⟨0, by omega, rfl, by rw [lowF_zero]; rfl, Below.refl _ _⟩
  case round =>
    obtain ⟨k, hk, rfl, rfl, HB⟩ := hrel
    by_cases hlt : k < 27
    · obtain ⟨q0, q1, _, _, _, q5⟩ := WkB.cells (show WkB wr bw sp st F lo bl bm from Blk.kept H1.out HB.out)
      have hl : ∀ n, (Instr.lookup 107 (.map (some bm)) (.agg #[.int .i64 st, .int .i64 k]) true).run Tryz.prog (wr.drewN n) = .ok (.tuple #[.bool ((m (st, k)).getD false), .bool (m (st, k)).isSome]) (wr.drewN n) :=
        fun n => look_run ((H2.out.kept HB.out).kept (bdrewN (Below.refl _ _) n)) (st, k)
      have E := fun w => Lib.hid (implWithB (lowF (fun i => (m (st, i)).isSome) k) k w hlt)
      cases hm : m (st, k) with
      | none =>
        simp only [hm, Option.getD_none, Option.isSome_none] at hl
        have L := Lib.hid (lowF_nil (F := fun i => (m (st, i)).isSome) (k := k) (by simp [hm]))
        clear hm
        go_wp2_with fail
        go_quiet (fail)
        go_wp2_with fail
        exact ⟨⟨k + 1, by omega, by go_num, by rw [L.out], bdrewN HB.out nq⟩, by simp [intOf]; omega⟩
      | some b =>
        simp only [hm, Option.getD_some, Option.isSome_some] at hl
        have L := Lib.hid (lowF_one (F := fun i => (m (st, i)).isSome) (k := k) (by simp [hm]))
        clear hm
        go_wp2_with fail
        go_quiet (fail)
        go_wp2_with fail
        refine (E _).out.mono ?_
        rintro e w' ⟨rfl, rfl⟩
        go_wp2_with fail
        exact ⟨⟨k + 1, by omega, by go_num, by rw [L.out], bdrewN HB.out nq⟩, by simp [intOf]; omega⟩
    · have hk2 : k = 27 := by omega
      have HK2 := Lib.hid hk2
      have hnl : ¬ (k : Int) < 27 := by omega
      clear hk2
      go_wp2_with fail
      go_ret
      exact ⟨by rw [HK2.out, lowF_all]; rfl, HB.out⟩

/-- What runs from a state come to. -/
def OutPost (G : List Stp) (st : Nat) (S : Nat → Bool) (w : World) (e : Ending) (w' : World) : Prop := ∃ m F lo bl, e = .returned (.agg #[.int .u32 (nb 27 F), .bool lo, .bool bl]) ∧ Wk G st S 27 m F lo bl ∧ Below w.heap.size w w'

set_option maxRecDepth 1000000 in
set_option maxHeartbeats 4000000 in
theorem outcome_any {w1 : World} {B : Nat} {sp : Value} {st : Nat} {G : List Stp} (hF : FlowOk w1 B sp st G) (i : Nat) (hi : i < 27) (w : World) (hb : Below w1.heap.size w1 w) :
    Calls Tryz.prog 52 #[.agg #[sp, .int .i64 st], .int .i64 i] w (OutPost G st (fun j => j == i) w) := by
  obtain ⟨rb, cap, hsp, _⟩ := hF.fl
  subst hsp
  have HF := Lib.hid hF
  have b1 := (Below.refl w.heap.size w).alloc (Nat.le_refl _) (.cells #[.slice (some ⟨rb, 0, none⟩) G.length cap, .int .i64 st] 70)
  have f1 := Blk.new w #[.slice (some ⟨rb, 0, none⟩) G.length cap, .int .i64 st] 70
  have z1 : (w.alloc (.cells #[.slice (some ⟨rb, 0, none⟩) G.length cap, .int .i64 st] 70)).heap.size = w.heap.size + 1 := by simp
  have o1 := Blk.new (w.alloc (.cells #[.slice (some ⟨rb, 0, none⟩) G.length cap, .int .i64 st] 70)) #[.int .u32 0, .bool false, .bool false] 59
  rw [z1] at o1
  have f2 := f1.alloc (.cells #[.int .u32 0, .bool false, .bool false] 59)
  have b2 := b1.alloc (by omega) (.cells #[.int .u32 0, .bool false, .bool false] 59)
  have E := fun w => Lib.hid (implWith0 i w hi)
  clear b1 f1 z1 hF
  go_enter Tryz.func52, Tryz.ntmps52
  go_wp2_with fail
  generalize (w.alloc (.cells #[.slice (some ⟨rb, 0, none⟩) G.length cap, .int .i64 st] 70)).alloc (.cells #[.int .u32 0, .bool false, .bool false] 59) = w2 at *
  have j0 := f2.cell 0
  have j1 := f2.cell 1
  simp at j0 j1
  have b3 := b2.drew
  have C := fun w' (h : Below w.heap.size w w') => Lib.hid (walkFrom_any HF.out (fun j => j == i) w' (hb.trans (h.mono hb.size)))
  have hb0 : Hid (Below w1.heap.size w1 w) := hb
  have O := Lib.hid o1
  clear hb f2 o1
  go_region_with (first
    | (go_at_call 66; (with_reducible refine (E _).out.mono ?_); rintro e w3 ⟨rfl, rfl⟩)
    | (go_at_call 68; (refine (C _ b3).out.mono ?_); rintro e w4 ⟨bw, bm, m, F, lo, bl, rfl, k1, k2, k3, k4⟩; have O2 := (Blk.kept (Blk.drew O.out) k4); have r0 := O2.free 0; have r1 := O2.free 1; have r2 := O2.free 2; have s0 := O2.cell 0; have s1 := O2.cell 1; have s2 := O2.cell 2; simp at s0 s1 s2; obtain ⟨q0, q1, q2, q3, q4, q5⟩ := k1.cells))
  all_goals
    have PB : Hid (Below w.heap.size w (((w4.setCell ⟨w.heap.size + 1, 0, none⟩ (.int .u32 (nb 27 F))).setCell ⟨w.heap.size + 1, 1, none⟩ (.bool lo)).setCell ⟨w.heap.size + 1, 2, none⟩ (.bool bl))) :=
      (((b3.trans (k4.mono b3.size)).setCell (p := ⟨w.heap.size + 1, 0, none⟩) (by show w.heap.size ≤ w.heap.size + 1; omega) _).setCell (p := ⟨w.heap.size + 1, 1, none⟩) (by show w.heap.size ≤ w.heap.size + 1; omega) _).setCell (p := ⟨w.heap.size + 1, 2, none⟩) (by show w.heap.size ≤ w.heap.size + 1; omega) _
    have P3 := ((O2.set 0 (.int .u32 (nb 27 F))).set 1 (.bool lo)).set 2 (.bool bl)
    have K3 := Lib.hid k3
    clear s0 s1 s2 r0 r1 r2 q0 q1 q2 q3 q4 q5 k1 k2 k3 k4 O2 j0 j1 C
    generalize ((w4.setCell ⟨w.heap.size + 1, 0, none⟩ (.int .u32 (nb 27 F))).setCell ⟨w.heap.size + 1, 1, none⟩ (.bool lo)).setCell ⟨w.heap.size + 1, 2, none⟩ (.bool bl) = w5 at *
    have a0 : w5.cell? ⟨w.heap.size + 1, 0, none⟩ = some (.int .u32 (nb 27 F)) := P3.cell 0
    have a1 : w5.cell? ⟨w.heap.size + 1, 1, none⟩ = some (.bool lo) := P3.cell 1
    have a2 : w5.cell? ⟨w.heap.size + 1, 2, none⟩ = some (.bool bl) := P3.cell 2
    go_wp2_with fail
    exact bodyPost_ret (v := .agg #[.int .u32 (nb 27 F), .bool lo, .bool bl]) (by simp [results, Tryz.results52, go_sem, a0, a1, a2]) rfl ⟨m, F, lo, bl, rfl, K3.out, PB.out⟩
end Go.Proofs.YtkgdhlpmlpbbkaaGreat
