import Derived.Test.YtgkoljphndgoeaaGreatDoorTopF1
import Derived.Test.YtgkoljphndgoeaaGreatDoorTopM1
import GoSem.Builtin.Delete
import Derived.Deep.AppendLies
import Derived.Deep.MidRow
namespace Go.Proofs.YtgkoljphndgoeaaGreatDoor
open Go.RowKit Go.ChangeMaps
def ndV (n : Nd) : Value := .agg #[.int .i64 n.1.1, .int .i64 n.1.2, .int .i64 n.2.1, .int .i64 n.2.2]
theorem ndV_inj {p q : Nd} (h : ndV p = ndV q) : p = q := by
 unfold ndV at h
 injection h with h
 injection h with h
 simp at h
 exact Prod.ext (Prod.ext (by omega) (by omega)) (Prod.ext (by omega) (by omega))
abbrev LV := List (Nd × Value)
def lookV : LV → Nd → Option Value
 | [], _ => none
 | x :: L, p => if x.1 = p then some x.2 else lookV L p
def putV : LV → Nd → Value → LV
 | [], p, v => [(p, v)]
 | x :: L, p, v => if x.1 = p then (p, v) :: L else x :: putV L p v
def delV : LV → Nd → LV
 | [], _ => []
 | x :: L, p => if x.1 = p then L else x :: delV L p
theorem look_putV (L : LV) (p q : Nd) (v : Value) : lookV (putV L p v) q = if p = q then some v else lookV L q := by
 induction L with
 | nil => simp [putV, lookV]
 | cons x L ih =>
  unfold putV
  by_cases h : x.1 = p
  ·rw [if_pos h]
   simp only [lookV]
   by_cases h2 : p = q
   ·simp [h2]
   ·rw [if_neg h2, if_neg h2, h, if_neg h2]
  ·rw [if_neg h]
   simp only [lookV, ih]
   by_cases h2 : x.1 = q
   ·rw [if_pos h2, if_neg (fun e => h (by rw [h2, e])), if_pos h2]
   ·rw [if_neg h2, if_neg h2]
theorem mem_putV {L : LV} {p : Nd} {v : Value} {q : Nd} (h : q ∈ (putV L p v).map (·.1)) : q = p ∨ q ∈ L.map (·.1) := by
 induction L with
 | nil => simp [putV] at h; exact .inl h
 | cons x L ih =>
  unfold putV at h
  split at h
  ·rename_i e
   simp only [List.map_cons, List.mem_cons] at h ⊢
   rcases h with h | h
   ·exact .inl h
   ·exact .inr (.inr h)
  ·simp only [List.map_cons, List.mem_cons] at h ⊢
   rcases h with h | h
   ·exact .inr (.inl h)
   ·rcases ih h with h | h
    ·exact .inl h
    ·exact .inr (.inr h)
theorem nodup_putV {L : LV} (p : Nd) (v : Value) (h : (L.map (·.1)).Nodup) : ((putV L p v).map (·.1)).Nodup := by
 induction L with
 | nil => simp [putV]
 | cons x L ih =>
  simp only [List.map_cons, List.nodup_cons] at h
  unfold putV
  split
  ·rename_i e
   simp only [List.map_cons, List.nodup_cons]
   exact ⟨e ▸ h.1, h.2⟩
  ·rename_i e
   simp only [List.map_cons, List.nodup_cons]
   refine ⟨fun hm => ?_, ih h.2⟩
   rcases mem_putV hm with k | k
   ·exact e k
   ·exact h.1 k
theorem look_none {L : LV} {p : Nd} (h : p ∉ L.map (·.1)) : lookV L p = none := by
 induction L with
 | nil => rfl
 | cons x L ih =>
  simp only [List.map_cons, List.mem_cons, not_or] at h
  unfold lookV
  rw [if_neg (fun e => h.1 e.symm)]
  exact ih h.2
theorem look_delV {L : LV} (p q : Nd) (h : (L.map (·.1)).Nodup) : lookV (delV L p) q = if p = q then none else lookV L q := by
 induction L with
 | nil => simp [delV, lookV]
 | cons x L ih =>
  simp only [List.map_cons, List.nodup_cons] at h
  unfold delV
  by_cases e : x.1 = p
  ·rw [if_pos e]
   by_cases h2 : p = q
   ·rw [if_pos h2, ← h2, ← e]; exact look_none h.1
   ·rw [if_neg h2]
    simp only [lookV]
    rw [if_neg (fun k => h2 (e ▸ k))]
  ·rw [if_neg e]
   simp only [lookV, ih h.2]
   by_cases h2 : x.1 = q
   ·rw [if_pos h2, if_neg (fun k => e (by rw [h2, k])), if_pos h2]
   ·rw [if_neg h2, if_neg h2]
theorem mem_delV {L : LV} {p q : Nd} (h : q ∈ (delV L p).map (·.1)) : q ∈ L.map (·.1) := by
 induction L with
 | nil => simp [delV] at h
 | cons x L ih =>
  unfold delV at h
  split at h
  ·simp only [List.map_cons, List.mem_cons]; exact .inr h
  ·simp only [List.map_cons, List.mem_cons] at h ⊢
   exact h.imp id ih
theorem nodup_delV {L : LV} (p : Nd) (h : (L.map (·.1)).Nodup) : ((delV L p).map (·.1)).Nodup := by
 induction L with
 | nil => simp [delV]
 | cons x L ih =>
  simp only [List.map_cons, List.nodup_cons] at h
  unfold delV
  split
  ·exact h.2
  ·simp only [List.map_cons, List.nodup_cons]
   exact ⟨fun k => h.1 (mem_delV k), ih h.2⟩
abbrev Mv := Nd → Option Value
def env2p (x : Nd × Value) : Value × Value := (ndV x.1, x.2)
def MapV (w : World) (b : Nat) (f : Mv) : Prop := ∃ es clock, ∃ L : LV, w.heap[b]? = some (.map es clock) ∧ es.toList.map enp = L.map env2p ∧ (L.map (·.1)).Nodup ∧ ∀ p, lookV L p = f p
theorem MapV.lt {w : World} {b : Nat} {f : Mv} (h : MapV w b f) : b < w.heap.size := by obtain ⟨es, c, L, h, _⟩ := h; exact (Array.getElem?_eq_some_iff.1 h).1
theorem MapV.of {w w' : World} {b : Nat} {f : Mv} (h : MapV w b f) (hb : w'.heap[b]? = w.heap[b]?) : MapV w' b f := by obtain ⟨es, c, L, h, h2⟩ := h; exact ⟨es, c, L, hb.trans h, h2⟩
theorem MapV.kept {w w' : World} {b : Nat} {f : Mv} (h : MapV w b f) (hb : Below w.heap.size w w') : MapV w' b f := h.of (hb.block b h.lt)
theorem MapV.obj {w : World} {b : Nat} {f : Mv} (h : MapV w b f) : ∃ es c, w.heap[b]? = some (.map es c) := by obtain ⟨es, c, L, h, _⟩ := h; exact ⟨es, c, h⟩
theorem MapV.uniq {w : World} {b : Nat} {f g : Mv} (h : MapV w b f) (h' : MapV w b g) : f = g := by
 obtain ⟨es, c, L, h1, h2, hn, h3⟩ := h
 obtain ⟨es', c', L', h1', h2', hn', h3'⟩ := h'
 rw [h1] at h1'
 injection h1' with h1'
 injection h1' with h1' _
 subst h1'
 have : L = L' := by
  have e := h2.symm.trans h2'
  clear h2 h2' h1 h3 h3' hn hn'
  induction L generalizing L' with
  | nil => cases L' with
   | nil => rfl
   | cons y L' => simp at e
  | cons x L ih => cases L' with
   | nil => simp at e
   | cons y L' =>
    simp only [List.map_cons, List.cons.injEq, env2p, Prod.mk.injEq] at e
    obtain ⟨⟨e1, e2⟩, e3⟩ := e
    rw [ih _ e3, Prod.ext (ndV_inj e1) e2]
 subst this
 funext p
 exact (h3 p).symm.trans (h3' p)
theorem structPP : Tryz.prog.underlying 223 = some (.struct (Tryz.prog.fieldsOf 223)) := by kernel_rfl
theorem stoodPP : Tryz.prog.stoodInHeld 223 = false := by kernel_rfl
theorem fieldsPP : ∃ a b, (Tryz.prog.fieldsOf 223).toList = [a, b] ∧ (a.name = "_") = False ∧ a.type = 221 ∧ a.offset = 0 ∧ (b.name = "_") = False ∧ b.type = 221 ∧ b.offset = 2 :=
 ⟨(Tryz.prog.fieldsOf 223).toList[0]!, (Tryz.prog.fieldsOf 223).toList[1]!, by kernel_rfl, by simp; decide +kernel, by kernel_rfl, by kernel_rfl, by simp; decide +kernel, by kernel_rfl, by kernel_rfl⟩
theorem part_0 (a b c d : Value) (w : World) : (Go.part 221 #[a, b, c, d] 0).run Tryz.prog w = .ok (.agg #[a, b]) w := by kernel_rfl
theorem part_2 (a b c d : Value) (w : World) : (Go.part 221 #[a, b, c, d] 2).run Tryz.prog w = .ok (.agg #[c, d]) w := by kernel_rfl
theorem equal_ptD (d : Nat) (p q : Pt) (w : World) : (Op.equalIn (d + 2) 221 (ptV p) (ptV q)).run Tryz.prog w = .ok (decide (p = q)) w := by
 obtain ⟨a, b, h0, h1, h2, h3, h4, h5, h6⟩ := fieldsPt
 unfold ptV
 rw [run_equalIn_struct w _ _ _ _ structPt stoodPt, h0]
 have e : (p = q) ↔ p.1 = q.1 ∧ p.2 = q.2 := Prod.ext_iff
 have i0 := Tryz.prog.underlying 3
 by_cases c1 : p.1 = q.1 <;> by_cases c2 : p.2 = q.2 <;> simp [Op.eqFields, go_sem, h1, h2, h3, h4, h5, h6, c1, c2, e] <;> omega
theorem eqFields2 {P : Program} {d : Nat} {xs ys : Array Value} {a b : Field} {w : World} {x0 x1 y0 y1 : Value} {r0 r1 : Bool} (a1 : (a.name = "_") = False) (b1 : (b.name = "_") = False)
  (pa : (Go.part a.type xs a.offset).run P w = .ok x0 w) (qa : (Go.part a.type ys a.offset).run P w = .ok y0 w) (ea : (Op.equalIn d a.type x0 y0).run P w = .ok r0 w)
  (pb : (Go.part b.type xs b.offset).run P w = .ok x1 w) (qb : (Go.part b.type ys b.offset).run P w = .ok y1 w) (eb : (Op.equalIn d b.type x1 y1).run P w = .ok r1 w) :
  (Op.eqFields d xs ys [a, b]).run P w = .ok (r0 && r1) w := by
 cases r0 <;> cases r1 <;> simp [Op.eqFields, a1, b1, pa, qa, ea, pb, qb, eb]
theorem equal_ndD (d : Nat) (p q : Nd) (w : World) : (Op.equalIn (d + 2 + 1) 223 (ndV p) (ndV q)).run Tryz.prog w = .ok (decide (p = q)) w := by
 obtain ⟨a, b, h0, h1, h2, h3, h4, h5, h6⟩ := fieldsPP
 unfold ndV
 rw [run_equalIn_struct w _ _ _ _ structPP stoodPP, h0]
 have e : decide (p = q) = (decide (p.1 = q.1) && decide (p.2 = q.2)) := by
  rw [Bool.eq_iff_iff]; simp [Prod.ext_iff]
 rw [e]
 exact eqFields2 h1 h4 (by rw [h2, h3]; exact part_0 _ _ _ _ w) (by rw [h2, h3]; exact part_0 _ _ _ _ w) (by rw [h2]; exact equal_ptD d p.1 q.1 w) (by rw [h5, h6]; exact part_2 _ _ _ _ w) (by rw [h5, h6]; exact part_2 _ _ _ _ w) (by rw [h5]; exact equal_ptD d p.2 q.2 w)
theorem equal_nd (p q : Nd) (w : World) : (Op.equal 223 (ndV p) (ndV q)).run Tryz.prog w = .ok (decide (p = q)) w := equal_ndD 9997 p q w
theorem check_nd (e : Bool) (p : Nd) (w : World) : (Instr.checkKey e 10000 223 (ndV p)).run Tryz.prog w = .ok () w := by kernel_rfl
theorem find_nd (p : Nd) : ∀ (L : LV) (es : List MapEntry) (i : Nat), es.map enp = L.map env2p →
  (lookV L p = none ∧ (∀ w, (Instr.findAsking 223 (ndV p) es i).run Tryz.prog w = .ok none w) ∧ (∀ v, putV L p v = L ++ [(p, v)]) ∧ delV L p = L) ∨
  (∃ j e, es[j]? = some e ∧ e.key = ndV p ∧ lookV L p = some e.val ∧ (∀ w, (Instr.findAsking 223 (ndV p) es i).run Tryz.prog w = .ok (some (i + j, e.val)) w) ∧ (∀ v, (es.modify j (fun e => { e with key := ndV p, val := v })).map enp = (putV L p v).map env2p) ∧ (es.eraseIdx j).map enp = (delV L p).map env2p) := by
 intro L
 induction L with
 | nil =>
  intro es i h
  cases es with
  | nil => exact .inl ⟨rfl, fun w => by simp [Instr.findAsking], fun v => rfl, rfl⟩
  | cons e es => simp at h
 | cons x L ih =>
  intro es i h
  cases es with
  | nil => simp at h
  | cons e es =>
   simp only [List.map_cons, List.cons.injEq] at h
   obtain ⟨h1, h2⟩ := h
   unfold enp env2p at h1
   injection h1 with k1 k2
   by_cases hx : x.1 = p
   ·refine .inr ⟨0, e, rfl, by rw [k1, hx], by simp [lookV, hx, k2], ?_, ?_, ?_⟩
    ·intro w; simp [Instr.findAsking, k1, equal_nd, hx, Result.andThen]
    ·intro v
     simp only [List.modify_zero_cons, List.map_cons, h2, putV, if_pos hx]
     rfl
    ·simp only [List.eraseIdx_cons_zero, h2, delV, if_pos hx]
   ·have hx' : ¬ p = x.1 := fun e => hx e.symm
    rcases ih es (i + 1) h2 with ⟨a1, a2, a3, a4⟩ | ⟨j, e', b1, b2, b3, b4, b5, b6⟩
    ·refine .inl ⟨by simp [lookV, hx, a1], fun w => ?_, fun v => by simp [putV, hx, a3], by simp [delV, hx, a4]⟩
     simp [Instr.findAsking, k1, equal_nd, hx', Result.andThen, a2]
    ·refine .inr ⟨j + 1, e', by simpa using b1, b2, by simp [lookV, hx, b3], ?_, ?_, ?_⟩
     ·intro w
      simp [Instr.findAsking, k1, equal_nd, hx', Result.andThen, b4]
      omega
     ·intro v
      simp only [List.modify_succ_cons, List.map_cons, b5, putV, if_neg hx]
      unfold enp env2p
      rw [k1, k2]
     ·simp only [List.eraseIdx_cons_succ, List.map_cons, b6, delV, if_neg hx]
      unfold enp env2p
      rw [k1, k2]
theorem mapTP : Tryz.prog.underlying 169 = some (.map 223 225) := by kernel_rfl
theorem findKey_nd (p : Nd) (w : World) (L : LV) (es : List MapEntry) (h : es.map enp = L.map env2p) : (Instr.findKey 223 (ndV p) es).run Tryz.prog w = (Instr.findAsking 223 (ndV p) es 0).run Tryz.prog w := by
 cases es with
 | nil => simp [Instr.findKey, run_underlying structPP, Instr.findNow, Instr.findAsking]
 | cons e es => simp [Instr.findKey, run_underlying structPP, Instr.findNow, Instr.sameNow]
def valOf (o : Option Value) : Value := o.getD (.slice none 0 0)
theorem lookV_run {w : World} {b : Nat} {f : Mv} (h : MapV w b f) (p : Nd) : (Instr.lookup 169 (.map (some b)) (ndV p) true).run Tryz.prog w = .ok (.tuple #[valOf (f p), .bool (f p).isSome]) w := by
 obtain ⟨es, c, L, hb, he, _, hm⟩ := h
 rw [← hm p]
 unfold valOf
 rcases find_nd p L es.toList 0 he with ⟨a1, a2, _⟩ | ⟨j, e', b1, b2, b3, b4, _⟩
 ·simp [Instr.lookup, run_underlying mapTP, MapKept.run_getObj_map hb, check_nd, findKey_nd p w L es.toList he, a1, a2, Result.andThen]
 ·simp [Instr.lookup, run_underlying mapTP, MapKept.run_getObj_map hb, check_nd, findKey_nd p w L es.toList he, b3, b4, Result.andThen]
theorem lookV_run1 {w : World} {b : Nat} {f : Mv} (h : MapV w b f) (p : Nd) : (Instr.lookup 169 (.map (some b)) (ndV p) false).run Tryz.prog w = .ok (valOf (f p)) w := by
 obtain ⟨es, c, L, hb, he, _, hm⟩ := h
 rw [← hm p]
 unfold valOf
 rcases find_nd p L es.toList 0 he with ⟨a1, a2, _⟩ | ⟨j, e', b1, b2, b3, b4, _⟩
 ·simp [Instr.lookup, run_underlying mapTP, MapKept.run_getObj_map hb, check_nd, findKey_nd p w L es.toList he, a1, a2, Result.andThen]
 ·simp [Instr.lookup, run_underlying mapTP, MapKept.run_getObj_map hb, check_nd, findKey_nd p w L es.toList he, b3, b4, Result.andThen]
theorem stays_nd (p : Nd) (w : World) : (Instr.keyThatStays (ndV p) (ndV p)).run Tryz.prog w = .ok (ndV p) w := by
 have : Instr.sameBits 10000 (ndV p) (ndV p) = true := by
  show Instr.sameBits (9998 + 2) (ndV p) (ndV p) = true
  unfold ndV
  simp [Instr.sameBits]
 simp [Instr.keyThatStays, this]
theorem storeV_run {w : World} {b : Nat} {f : Mv} (h : MapV w b f) (p : Nd) (v : Value) :
  ∃ o, (∀ w' : World, w'.heap[b]? = w.heap[b]? → (Instr.mapUpdate 169 (.map (some b)) (ndV p) v).run Tryz.prog w' = .ok () (setBlock w' b o)) ∧
   ∀ w' : World, b < w'.heap.size → MapV (setBlock w' b o) b (fun q => if p = q then some v else f q) := by
 obtain ⟨es, c, L, hb, he, hn, hm⟩ := h
 rcases find_nd p L es.toList 0 he with ⟨a1, a2, a3, _⟩ | ⟨j, e', b1, b2, b3, b4, b5, _⟩
 ·refine ⟨.map (es.push { key := ndV p, val := v, born := c }) (c + 1), fun w' hw => ?_, fun w' hlt => ?_⟩
  ·have hb' : w'.heap[b]? = some (.map es c) := hw.trans hb
   simp [Instr.mapUpdate, run_underlying mapTP, MapKept.run_getObj_map hb', check_nd, findKey_nd p w' L es.toList he, a2, MapKept.run_setObj_map _ hb', Result.andThen, setBlock]
  ·refine ⟨es.push { key := ndV p, val := v, born := c }, c + 1, putV L p v, by simp [setBlock, hlt], ?_, nodup_putV p v hn, fun q => by rw [look_putV, hm]⟩
   rw [a3]
   simp only [Array.toList_push, List.map_append]
   rw [he]
   rfl
 ·refine ⟨.map (es.modify j (fun e => { e with key := ndV p, val := v })) c, fun w' hw => ?_, fun w' hlt => ?_⟩
  ·have hb' : w'.heap[b]? = some (.map es c) := hw.trans hb
   have hj : es[j]? = some e' := by simpa using b1
   simp [Instr.mapUpdate, run_underlying mapTP, MapKept.run_getObj_map hb', check_nd, findKey_nd p w' L es.toList he, b4, hj, b2, stays_nd, MapKept.run_setObj_map _ hb', Result.andThen, setBlock]
  ·refine ⟨es.modify j (fun e => { e with key := ndV p, val := v }), c, putV L p v, by simp [setBlock, hlt], ?_, nodup_putV p v hn, fun q => by rw [look_putV, hm]⟩
   rw [Array.toList_modify]
   exact b5 v
theorem deleteV_run {w : World} {b : Nat} {f : Mv} (h : MapV w b f) (p : Nd) :
  ∃ o, (∀ (k ty : TypeId) (w' : World), w'.heap[b]? = w.heap[b]? → (Builtin.delete_ #[169, k] ty #[.map (some b), ndV p]).run Tryz.prog w' = .ok (.tuple #[]) (setBlock w' b o)) ∧
   ∀ w' : World, b < w'.heap.size → MapV (setBlock w' b o) b (fun q => if p = q then none else f q) := by
 obtain ⟨es, c, L, hb, he, hn, hm⟩ := h
 rcases find_nd p L es.toList 0 he with ⟨a1, a2, _, a4⟩ | ⟨j, e', b1, b2, b3, b4, _, b6⟩
 ·refine ⟨.map es c, fun k ty w' hw => ?_, fun w' hlt => ?_⟩
  ·have hb' : w'.heap[b]? = some (.map es c) := hw.trans hb
   simp [Builtin.delete_, run_underlying mapTP, MapKept.run_getObj_map hb', check_nd, findKey_nd p w' L es.toList he, a2, MapKept.run_setObj_map _ hb', Result.andThen, setBlock]
  ·exact ⟨es, c, L, by simp [setBlock, hlt], he, hn, fun q => by
    show lookV L q = if p = q then none else f q
    by_cases e : p = q
    ·rw [if_pos e, ← e]; exact a1
    ·rw [if_neg e]; exact hm q⟩
 ·refine ⟨.map (es.eraseIdxIfInBounds j) c, fun k ty w' hw => ?_, fun w' hlt => ?_⟩
  ·have hb' : w'.heap[b]? = some (.map es c) := hw.trans hb
   simp [Builtin.delete_, run_underlying mapTP, MapKept.run_getObj_map hb', check_nd, findKey_nd p w' L es.toList he, b4, MapKept.run_setObj_map _ hb', Result.andThen, setBlock]
  ·refine ⟨es.eraseIdxIfInBounds j, c, delV L p, by simp [setBlock, hlt], ?_, nodup_delV p hn, fun q => by rw [look_delV p q hn, hm]⟩
   rw [Array.toList_eraseIdxIfInBounds]
   exact b6
def ndC (l : List Nd) : List Value := l.flatMap fun n => [.int .i64 n.1.1, .int .i64 n.1.2, .int .i64 n.2.1, .int .i64 n.2.2]
theorem ndC_len (l : List Nd) : (ndC l).length = l.length * 4 := by
 induction l with
 | nil => rfl
 | cons x l ih => unfold ndC at *; simp [ih]; omega
theorem ndC_app (l l' : List Nd) : ndC (l ++ l') = ndC l ++ ndC l' := by simp [ndC]
theorem ndC_one (n : Nd) : ndC [n] = [.int .i64 n.1.1, .int .i64 n.1.2, .int .i64 n.2.1, .int .i64 n.2.2] := rfl
theorem ndC_get : ∀ {l : List Nd} {k : Nat} {p : Nd}, l[k]? = some p → (ndC l)[k * 4]? = some (.int .i64 p.1.1) ∧ (ndC l)[k * 4 + 1]? = some (.int .i64 p.1.2) ∧ (ndC l)[k * 4 + 2]? = some (.int .i64 p.2.1) ∧ (ndC l)[k * 4 + 3]? = some (.int .i64 p.2.2) := by
 intro l
 induction l with
 | nil => intro k p h; simp at h
 | cons x l ih =>
  intro k p h
  cases k with
  | zero => simp at h; subst h; exact ⟨rfl, rfl, rfl, rfl⟩
  | succ k =>
   have h' := ih (by simpa using h)
   have hs : ∀ j, (ndC (x :: l))[(k + 1) * 4 + j]? = (ndC l)[k * 4 + j]? := fun j => by
    rw [show ndC (x :: l) = [.int .i64 x.1.1, .int .i64 x.1.2, .int .i64 x.2.1, .int .i64 x.2.2] ++ ndC l from rfl, List.getElem?_append_right (by show 4 ≤ _; omega)]
    congr 1
    show (k + 1) * 4 + j - 4 = _
    omega
   exact ⟨(hs 0).trans h'.1, (hs 1).trans h'.2.1, (hs 2).trans h'.2.2.1, (hs 3).trans h'.2.2.2⟩
def NRow (w : World) (B : Nat) (v : Value) (l : List Nd) : Prop := w.ownsRow B 223 4 v l.length (ndC l)
theorem infoPP : (Tryz.prog.info? 223).map (fun i => (i.zero, i.size, i.bytes)) = some (some (.agg #[.int .i64 0, .int .i64 0, .int .i64 0, .int .i64 0]), 4, 32) := by kernel_rfl
theorem NRow.nil (w : World) (B : Nat) : NRow w B (.slice none 0 0) [] := ⟨rfl, .inl ⟨rfl, rfl⟩⟩
theorem NRow.len {w : World} {B : Nat} {v : Value} {l : List Nd} (h : NRow w B v l) : lenOf v = l.length := by
 obtain ⟨a, cap, rfl, _, _⟩ := own_forms h
 rfl
def NStk (w : World) (B : Nat) (v : Value) (s : List Nd) : Prop := NRow w B v s.reverse
theorem NStk.top {w : World} {B : Nat} {v : Value} {x : Nd} {s : List Nd} (h : NStk w B v (x :: s)) : ∃ g cap, v = .slice (some ⟨g, 0, none⟩) (s.length + 1) cap ∧ s.length + 1 ≤ cap ∧ B ≤ g ∧ g < w.heap.size ∧
  w.cell? ⟨g, s.length * 4, none⟩ = some (.int .i64 x.1.1) ∧ w.cell? ⟨g, s.length * 4 + 1, none⟩ = some (.int .i64 x.1.2) ∧ w.cell? ⟨g, s.length * 4 + 2, none⟩ = some (.int .i64 x.2.1) ∧ w.cell? ⟨g, s.length * 4 + 3, none⟩ = some (.int .i64 x.2.2) ∧ NStk w B (.slice (some ⟨g, 0, none⟩) s.length cap) s := by
 have h' : w.ownsRow B 223 4 v (s.length + 1) (ndC s.reverse ++ [.int .i64 x.1.1, .int .i64 x.1.2, .int .i64 x.2.1, .int .i64 x.2.2]) := by
  have := h
  unfold NStk NRow at this
  rw [List.reverse_cons, ndC_app, ndC_one, List.length_append, List.length_reverse] at this
  exact this
 have hl : (ndC s.reverse).length = s.length * 4 := by rw [ndC_len, List.length_reverse]
 obtain ⟨a, cap, rfl, hc, hf⟩ := own_forms h'
 obtain ⟨g, rfl, hg, hcell⟩ := hf (by omega)
 refine ⟨g, cap, rfl, hc, hg, (World.ownsRow.lt h' g rfl).2, hcell _ _ ?_, hcell _ _ ?_, hcell _ _ ?_, hcell _ _ ?_, ?_⟩
 ·rw [List.getElem?_append_right (by omega), hl]; simp
 ·rw [List.getElem?_append_right (by omega), hl]; simp
 ·rw [List.getElem?_append_right (by omega), hl]; simp
 ·rw [List.getElem?_append_right (by omega), hl]; simp
 ·unfold NStk NRow
  rw [List.length_reverse]
  exact ownsRow_pop hl h'
theorem NStk.push {w : World} {B : Nat} {v : Value} {x : Nd} {s : List Nd} (h : w.ownsRow B 223 4 v (s.length + 1) (ndC s.reverse ++ [.int .i64 x.1.1, .int .i64 x.1.2, .int .i64 x.2.1, .int .i64 x.2.2])) : NStk w B v (x :: s) := by
 unfold NStk NRow
 rw [List.reverse_cons, ndC_app, ndC_one, List.length_append, List.length_reverse]
 exact h
theorem NStk.len {w : World} {B : Nat} {v : Value} {s : List Nd} (h : NStk w B v s) : lenOf v = s.length := by
 have := NRow.len h
 rwa [List.length_reverse] at this
theorem NStk.own {w : World} {B : Nat} {v : Value} {s : List Nd} (h : NStk w B v s) : w.ownsRow B 223 4 v s.length (ndC s.reverse) := by
 have := h
 unfold NStk NRow at this
 rwa [List.length_reverse] at this
structure BefW (w : World) (BB bm : Nat) (m : Mq) (f : Mv) : Prop where
 mp : MapV w bm f
 rw : ∀ n l, m n = some l → ∃ v, f n = some v ∧ NRow w BB v l
 no : ∀ n, m n = none → f n = none
 dj : ∀ n n' v v', n ≠ n' → f n = some v → f n' = some v' → v.ownBlock = none ∨ v.ownBlock ≠ v'.ownBlock
 lm : BB ≤ bm
def Apart (f : Mv) (b : Option Nat) : Prop := ∀ n u, f n = some u → u.ownBlock = none ∨ u.ownBlock ≠ b
section
variable {w w' : World} {BB bm : Nat} {m : Mq} {f : Mv}
theorem Apart.none_ (f : Mv) : Apart f none := fun _ u _ => by
 cases u.ownBlock with
 | none => exact .inl rfl
 | some b => exact .inr (by simp)
theorem BefW.some_ (h : BefW w BB bm m f) {n : Nd} {v : Value} (hv : f n = some v) : ∃ l, m n = some l ∧ NRow w BB v l := by
 cases hm : m n with
 | none => rw [h.no n hm] at hv; cases hv
 | some l =>
  obtain ⟨u, h1, h2⟩ := h.rw n l hm
  rw [hv] at h1
  injection h1 with h1
  subst h1
  exact ⟨l, rfl, h2⟩
theorem BefW.isSome (h : BefW w BB bm m f) (n : Nd) : (f n).isSome = (m n).isSome := by
 cases hm : m n with
 | none => rw [h.no n hm]; rfl
 | some l => obtain ⟨v, h1, _⟩ := h.rw n l hm; rw [h1]; rfl
theorem BefW.row (h : BefW w BB bm m f) (n : Nd) : NRow w BB (valOf (f n)) ((m n).getD []) := by
 cases hm : m n with
 | none => rw [h.no n hm]; exact NRow.nil _ _
 | some l => obtain ⟨v, h1, h2⟩ := h.rw n l hm; rw [h1]; exact h2
theorem BefW.lt (h : BefW w BB bm m f) {n : Nd} {u : Value} (hu : f n = some u) {k : Nat} (hk : u.ownBlock = some k) : BB ≤ k ∧ k < w.heap.size := by
 obtain ⟨l, _, h2⟩ := h.some_ hu
 exact World.ownsRow.lt h2 k hk
theorem BefW.apart_new (h : BefW w BB bm m f) {b : Nat} (hb : w.heap.size ≤ b) : Apart f (some b) := fun n u hu => by
 cases hk : u.ownBlock with
 | none => exact .inl rfl
 | some k => exact .inr (fun e => by injection e with e; have := (h.lt hu hk).2; omega)
theorem BefW.of (h : BefW w BB bm m f) (hm : w'.heap[bm]? = w.heap[bm]?) (hr : ∀ n u k, f n = some u → u.ownBlock = some k → w'.heap[k]? = w.heap[k]?) : BefW w' BB bm m f :=
 ⟨h.mp.of hm, fun n l hn => by obtain ⟨v, h1, h2⟩ := h.rw n l hn; exact ⟨v, h1, own_of h2 fun k hk => hr n v k h1 hk⟩, h.no, h.dj, h.lm⟩
theorem BefW.kept (h : BefW w BB bm m f) (hb : Below w.heap.size w w') : BefW w' BB bm m f :=
 h.of (hb.block bm h.mp.lt) fun _ _ k hu hk => hb.block k (h.lt hu hk).2
theorem BefW.grown (h : BefW w BB bm m f) {row : Option Nat} (hg : w.grownBy w' row) (hr : Apart f row) (hm : row ≠ some bm) : BefW w' BB bm m f :=
 h.of (hg.block bm h.mp.lt (fun e => hm e.symm)) fun n u k hu hk => hg.block k (h.lt hu hk).2 fun e => by
  rcases hr n u hu with e2 | e2
  ·rw [hk] at e2; cases e2
  ·rw [hk] at e2; exact e2 e
theorem BefW.own_ne (h : BefW w BB bm m f) {e : TypeId} {B' size n : Nat} {v : Value} {xs : List Value} (hv : w.ownsRow B' e size v n xs) : v.ownBlock ≠ some bm := by
 obtain ⟨es, c, hm⟩ := h.mp.obj
 exact Proofs.YtgkoljphndgoeaaGreatDoor.own_ne hv hm (fun cur k => by cases k)
theorem BefW.setMap (h : BefW w BB bm m f) {o : Obj} {m' : Mq} {f' : Mv} (hm : MapV (setBlock w bm o) bm f') (h1 : ∀ n l, m' n = some l → ∃ v, f' n = some v ∧ NRow w BB v l) (h2 : ∀ n, m' n = none → f' n = none) (h3 : ∀ n n' v v', n ≠ n' → f' n = some v → f' n' = some v' → v.ownBlock = none ∨ v.ownBlock ≠ v'.ownBlock) : BefW (setBlock w bm o) BB bm m' f' :=
 ⟨hm, fun n l hn => by obtain ⟨v, k1, k2⟩ := h1 n l hn; exact ⟨v, k1, own_setB k2 (h.own_ne k2) o⟩, h2, h3, h.lm⟩
theorem BefW.fresh (h : BefW w BB bm m f) (n : Nd) {o : Obj} (hm : MapV (setBlock w bm o) bm (fun q => if n = q then some (.slice none 0 0) else f q)) : BefW (setBlock w bm o) BB bm (updq m n []) (fun q => if n = q then some (.slice none 0 0) else f q) := by
 refine h.setMap hm (fun q l hq => ?_) (fun q hq => ?_) (fun a b v v' hne ha hb => ?_)
 ·unfold updq at hq
  split at hq
  ·rename_i e
   injection hq with hq
   subst hq
   exact ⟨_, if_pos e, NRow.nil _ _⟩
  ·rename_i e
   obtain ⟨v, k1, k2⟩ := h.rw q l hq
   exact ⟨v, by rw [if_neg e]; exact k1, k2⟩
 ·unfold updq at hq
  split at hq
  ·cases hq
  ·rename_i e; simp only [if_neg e]; exact h.no q hq
 ·try simp only at ha hb
  split at ha
  ·injection ha with ha; subst ha; exact .inl rfl
  ·split at hb
   ·injection hb with hb; subst hb
    cases hv : v.ownBlock with
    | none => exact .inl rfl
    | some k => exact .inr (by intro e; cases e)
   ·exact h.dj a b v v' hne ha hb
theorem BefW.del (h : BefW w BB bm m f) (n : Nd) {o : Obj} (hm : MapV (setBlock w bm o) bm (fun q => if n = q then none else f q)) : BefW (setBlock w bm o) BB bm (delq m n) (fun q => if n = q then none else f q) := by
 refine h.setMap hm (fun q l hq => ?_) (fun q hq => ?_) (fun a b v v' hne ha hb => ?_)
 ·unfold delq at hq
  split at hq
  ·cases hq
  ·rename_i e
   obtain ⟨v, k1, k2⟩ := h.rw q l hq
   exact ⟨v, by rw [if_neg e]; exact k1, k2⟩
 ·unfold delq at hq
  split at hq
  ·rename_i e; simp only [if_pos e]
  ·rename_i e; simp only [if_neg e]; exact h.no q hq
 ·try simp only at ha hb
  split at ha
  ·cases ha
  ·split at hb
   ·cases hb
   ·exact h.dj a b v v' hne ha hb
theorem BefW.appended (h : BefW w BB bm m f) (n : Nd) {g k cap : Nat} (hat : (valOf (f n)).ownBlock = some g ∨ w.heap.size ≤ g) : ∀ q u, q ≠ n → f q = some u → u.ownBlock = none ∨ u.ownBlock ≠ (Value.slice (some ⟨g, 0, none⟩) k cap).ownBlock := fun q u hne hu => by
 show u.ownBlock = none ∨ u.ownBlock ≠ some g
 rcases hat with e | e
 ·cases hn : f n with
  | none => rw [hn] at e; cases e
  | some v =>
   rw [hn] at e
   rcases h.dj q n u v hne hu hn with k | k
   ·exact .inl k
   ·exact .inr (fun e2 => k (e2.trans e.symm))
 ·exact h.apart_new e q u hu
theorem BefW.grownAt (h : BefW w BB bm m f) (n : Nd) (hg : w.grownBy w' (valOf (f n)).ownBlock) : MapV w' bm f ∧ ∀ q l, q ≠ n → m q = some l → ∃ v, f q = some v ∧ NRow w' BB v l := by
 have hrow := h.row n
 refine ⟨h.mp.of (hg.block bm h.mp.lt (fun e => h.own_ne hrow e.symm)), fun q l hne hq => ?_⟩
 obtain ⟨v, k1, k2⟩ := h.rw q l hq
 refine ⟨v, k1, own_of k2 fun k hk => hg.block k (World.ownsRow.lt k2 k hk).2 fun e => ?_⟩
 cases hn : f n with
 | none => rw [hn] at e; cases e
 | some u =>
  rw [hn] at e
  rcases h.dj q n v u hne k1 hn with k | k
  ·rw [hk] at k; cases k
  ·exact k (hk.trans e)
theorem BefW.noteGrown (h : BefW w BB bm m f) (n : Nd) {g k cap : Nat} {l : List Nd} (hg : w.grownBy w' (valOf (f n)).ownBlock) (hv : NRow w' BB (.slice (some ⟨g, 0, none⟩) k cap) l) (hat : (valOf (f n)).ownBlock = some g ∨ w.heap.size ≤ g) {o : Obj}
  (hm : MapV (setBlock w' bm o) bm (fun q => if n = q then some (.slice (some ⟨g, 0, none⟩) k cap) else f q)) : BefW (setBlock w' bm o) BB bm (updq m n l) (fun q => if n = q then some (.slice (some ⟨g, 0, none⟩) k cap) else f q) := by
 obtain ⟨k1, k2⟩ := h.grownAt n hg
 have hap := h.appended n (k := k) (cap := cap) hat
 obtain ⟨es, c, hobj⟩ := k1.obj
 have hset : ∀ {v : Value} {l : List Nd}, NRow w' BB v l → NRow (setBlock w' bm o) BB v l := fun {v l} hr => own_setB hr (Proofs.YtgkoljphndgoeaaGreatDoor.own_ne hr hobj (fun cur k => by cases k)) o
 refine ⟨hm, fun q l' hq => ?_, fun q hq => ?_, fun a b u u' hne ha hb => ?_, h.lm⟩
 ·unfold updq at hq
  split at hq
  ·rename_i e
   injection hq with hq
   subst hq
   exact ⟨_, if_pos e, hset hv⟩
  ·rename_i e
   obtain ⟨v, j1, j2⟩ := k2 q l' (fun k => e k.symm) hq
   exact ⟨v, by rw [if_neg e]; exact j1, hset j2⟩
 ·unfold updq at hq
  split at hq
  ·cases hq
  ·rename_i e; simp only [if_neg e]; exact h.no q hq
 ·try simp only at ha hb
  split at ha
  ·rename_i e
   injection ha with ha; subst ha
   split at hb
   ·rename_i e2; exact absurd (e.symm.trans e2) hne
   ·rename_i e2
    rcases hap b u' (fun k => e2 k.symm) hb with k | k
    ·right; rw [k]; intro e3; cases e3
    ·exact .inr fun k2 => k k2.symm
  ·rename_i e
   split at hb
   ·injection hb with hb; subst hb
    exact hap a u (fun k => e k.symm) ha
   ·exact h.dj a b u u' hne ha hb
theorem Apart.note {b : Option Nat} (h : Apart f b) (n : Nd) {g k cap : Nat} (hb : ∀ c, b = some c → c < w.heap.size) (hat : (valOf (f n)).ownBlock = some g ∨ w.heap.size ≤ g) : Apart (fun q => if n = q then some (.slice (some ⟨g, 0, none⟩) k cap) else f q) b := fun q u hu => by
 try simp only at hu
 split at hu
 ·injection hu with hu
  subst hu
  right
  show some g ≠ b
  intro e
  rcases hat with k1 | k1
  ·cases hn : f n with
   | none => rw [hn] at k1; cases k1
   | some v =>
    rw [hn] at k1
    rcases h n v hn with k2 | k2
    ·exact absurd (k1.symm.trans k2) (by simp)
    ·exact k2 (k1.trans e)
  ·have := hb g e.symm
   omega
 ·exact h q u hu
theorem Apart.sub {b : Option Nat} {f' : Mv} (h : Apart f b) (hs : ∀ q u, f' q = some u → u.ownBlock = none ∨ f q = some u) : Apart f' b := fun q u hu => by
 rcases hs q u hu with k | k
 ·exact .inl k
 ·exact h q u k
end
end Go.Proofs.YtgkoljphndgoeaaGreatDoor
namespace Go.Proofs.YtgkoljphndgoeaaGreatDoor
open Go.RowKit Tm Go.ChangeMaps
def pwC (spL : Value) (sl : Nat) (spR : Value) (sr bm : Nat) : Array Value := #[spL, .int .i64 sl, spR, .int .i64 sr, .map (some bm)]
def NFol (l : List Nd) (w : World) (e : Ending) (w' : World) : Prop := ∃ v, e = .returned v ∧ NRow w' w.heap.size v l ∧ Below w.heap.size w w'
theorem two_new (w : World) (A B : Array Value) (t u : TypeId) : Blk ((w.alloc (.cells A t)).alloc (.cells B u)) w.heap.size A t ∧ Blk ((w.alloc (.cells A t)).alloc (.cells B u)) (w.heap.size + 1) B u ∧ Below w.heap.size w ((w.alloc (.cells A t)).alloc (.cells B u)) := by
 have k1 := Blk.new (w.alloc (.cells A t)) B u
 rw [show (w.alloc (.cells A t)).heap.size = w.heap.size + 1 by simp] at k1
 exact ⟨(Blk.new w A t).alloc (.cells B u), k1, ((Below.refl w.heap.size w).alloc (Nat.le_refl _) _).alloc (by simp) _⟩
theorem typ_ne6 : 221 ≠ 223 := by decide
section
variable {w1 : World} {spL spR : Value} {sl sr : Nat} {G H : List Stp}
set_option maxRecDepth 1000000 in
set_option maxHeartbeats 4000000 in
theorem pfol_left (hF : Flown mdl 27 w1 spL sl G) (hsr : ∃ rb cap, spR = .slice (some ⟨rb, 0, none⟩) H.length cap) (bm : Nat) (x y : Pt) (h0 : x.1 ≠ 0) (hx : x.1 < G.length ∧ x.2 < 27) (w : World) (hb : Below w1.heap.size w1 w) :
  Calls Tryz.prog 250 #[.agg (pwC spL sl spR sr bm), ndV (x, y)] w (NFol ((nxp mdl G x).map (·, y)) w) := by
 obtain ⟨rb, capf, rfl⟩ := hF.sl
 obtain ⟨rb2, capf2, rfl⟩ := hsr
 obtain ⟨i0, hi0, hz0, hz1, hz2⟩ := info_parts infoPP
 obtain ⟨k0, k1, kb⟩ := two_new w (pwC (.slice (some ⟨rb, 0, none⟩) G.length capf) sl (.slice (some ⟨rb2, 0, none⟩) H.length capf2) sr bm) #[.int .i64 x.1, .int .i64 x.2, .int .i64 y.1, .int .i64 y.2] 171 223
 have C := fun w' (h : Below w.heap.size w w') => Lib.hid (hF.fol sl x w' hx.1 hx.2 (hb.trans (h.mono hb.size)))
 have HN2 := Lib.hid (hF.two x)
 generalize nxp mdl G x = N at *
 unfold pwC at k0 k1 kb ⊢
 unfold ndV
 unfold ptV at C
 have c0 := k0.cell 0
 have c1 := k0.cell 1
 have p0 := k1.cell 0
 have p1 := k1.cell 1
 simp at c0 c1 p0 p1
 have hne : ¬ ((x.1 : Int) = 0) := by omega
 clear hF hb hx
 go_enter Tryz.func250, Tryz.ntmps250
 go_wp2_with fail
 generalize (w.alloc (.cells _ 171)).alloc (.cells _ 223) = w0 at *
 go_wp2_with fail
 refine (C _ kb).out.mono ?_
 rintro e w2 ⟨vN, rfl, hpr, hb2⟩
 obtain ⟨aN, capN, rfl, hcapN, _⟩ := own_forms hpr
 have SP : Hid (w2.ownsRow w0.heap.size 221 2 (.slice aN N.length capN) N.length (ptC N)) := hpr
 have SB := Lib.hid (bnext kb hb2)
 have S1 := Lib.hid (k1.kept hb2)
 have HS := Lib.hid (show w.heap.size + 2 ≤ w2.heap.size from Nat.le_trans (show w.heap.size + 1 + 1 ≤ w0.heap.size from k1.lt) hb2.size)
 clear hpr hb2 kb k0 k1 c0 c1 p0 p1 C
 go_wp2_with fail
 go_loopw [5, 20] (fun v j wr => ∃ k : Nat, k ≤ N.length ∧ j = .int .i64 k ∧ Hid (NRow wr (w.heap.size + 2) v ((N.take k).map (fun z => ((z, y) : Nd)))) ∧ Hid (Below w.heap.size w wr) ∧ Hid (wr.ownsRow w0.heap.size 221 2 (.slice aN N.length capN) N.length (ptC N)) ∧ Hid (Blk wr (w.heap.size + 1) #[.int .i64 x.1, .int .i64 x.2, .int .i64 y.1, .int .i64 y.2] 223)) (fun _ j _ => N.length - (intOf j).toNat)
 case atStart => exact ⟨0, by omega, rfl, NRow.nil _ _, SB, SP, S1⟩
 case round =>
  clear SB SP S1
  obtain ⟨k, hk, rfl, AR, AB, AP, AY⟩ := hrel
  by_cases hlt : k < N.length
  ·have HLT := Lib.hid hlt
   have hlt2 : (k : Int) < N.length := by omega
   have hk63 : (k : Int) + 1 ≤ 9223372036854775807 := by have := HN2.out; omega
   obtain ⟨a', cap', e1, _, hcl⟩ := own_forms AP.out
   injection e1 with e1 _ e2
   subst e1 e2
   obtain ⟨gN, rfl, hgN, hcells⟩ := hcl (by omega)
   have hp := List.getElem?_eq_getElem hlt
   have HTK := Lib.hid (List.take_succ_eq_append_getElem hlt)
   generalize N[k] = p at hp HTK
   have p0 := hcells _ _ (ptC_get hp).1
   have p1 := hcells _ _ (ptC_get hp).2
   have q2 := AY.out.cell 2
   have q3 := AY.out.cell 3
   simp only [List.getElem?_toArray, List.getElem?_cons_zero, List.getElem?_cons_succ] at q2 q3
   have HL : Hid (((N.take k).map (fun z => ((z, y) : Nd))).length = k) := by show _ = _; simp; omega
   have AR' : Hid (wr.ownsRow (w.heap.size + 2) 223 4 u5 k (ndC ((N.take k).map (fun z => ((z, y) : Nd))))) := by
    have := AR.out
    unfold NRow at this
    rw [HL.out] at this
    exact this
   have BP := Lib.hid ((Below.refl wr.heap.size wr).alloc (Nat.le_refl _) (.cells #[.int .i64 p.1, .int .i64 p.2] 221))
   have BQ := Lib.hid (BP.out.alloc (by simp) (.cells #[.int .i64 (p.1 : Int), .int .i64 (p.2 : Int), .int .i64 (y.1 : Int), .int .i64 (y.2 : Int)] 223))
   have HN7 := Lib.hid (heap_alloc_new (wr.alloc (.cells #[.int .i64 p.1, .int .i64 p.2] 221)) (.cells #[.int .i64 (p.1 : Int), .int .i64 (p.2 : Int), .int .i64 (y.1 : Int), .int .i64 (y.2 : Int)] 223))
   rw [show (wr.alloc (.cells #[.int .i64 p.1, .int .i64 p.2] 221)).heap.size = wr.heap.size + 1 by simp] at HN7
   have hnb6 := AY.out.lt
   have HZ : Hid (w.heap.size + 2 ≤ wr.heap.size) := by show _ ≤ _; omega
   clear hcl hcells hp AR
   go_wp2_with (at_builtin; refine wpList_append_lies _ (by rfl) _ _ _ (by rfl) (w.heap.size + 2) 223 i0 _ 4 32 Tryz.underlying225 hi0 hz0 hz1 hz2 rfl (by omega) _ _ _ (by rfl) (own_below AR'.out BQ.out) ⟨wr.heap.size + 1, 0, none⟩ 1 1 [.int .i64 (p.1 : Int), .int .i64 (p.2 : Int), .int .i64 (y.1 : Int), .int .i64 (y.2 : Int)] (by rfl) (by rfl) (World.news_of_block (cs := #[.int .i64 (p.1 : Int), .int .i64 (p.2 : Int), .int .i64 (y.1 : Int), .int .i64 (y.2 : Int)]) (t := 223) (fr := (0, 0)) HN7.out) (by simp [Value.oneCell']) (by omega) (by have := HN2.out; unfold maxLen; omega) (by have := HN2.out; omega) (Nat.le_trans HZ.out BQ.out.size) (wr.heap.size + 1 + 1) (by simp) ?_; intro g4 cap4 w7 hown hgrow hat hlt7)
   have A1k := own_below AR'.out BQ.out
   have NP := Lib.hid (own_of (own_below AP.out BQ.out) (fun k hk => hgrow.block k (World.ownsRow.lt (own_below AP.out BQ.out) k hk).2 (fun e => by
    rcases own_own (own_below AP.out BQ.out) A1k typ_ne6 with e2 | e2
    ·rw [hk] at e2; cases e2
    ·rw [hk] at e2; exact e2 e)))
   have NY := Lib.hid (Blk.grown (AY.out.kept BQ.out) hgrow (fun e => by have := (World.ownsRow.lt A1k _ e).1; omega))
   have NB := Lib.hid ((AB.out.trans (BQ.out.mono AB.out.size)).grown hgrow (Nat.le_trans AB.out.size BQ.out.size) (fun k hk => by have := (World.ownsRow.lt A1k k hk).1; omega))
   have N1 : Hid (NRow w7 (w.heap.size + 2) (.slice (some ⟨g4, 0, none⟩) (k + 1) cap4) ((N.take (k + 1)).map (fun z => ((z, y) : Nd)))) := by
    show w7.ownsRow _ _ _ _ _ _
    rw [HTK.out, List.map_append, ndC_app]
    simp only [List.length_append, HL.out]
    exact hown
   clear hown hgrow hat A1k AR' AB AP AY BP BQ HN7
   go_wp2_with fail
   exact ⟨⟨k + 1, by have := HLT.out; omega, by go_num, N1, NB, NP, NY⟩, by have := HLT.out; simp [intOf]; omega⟩
  ·have hk2 : k = N.length := by omega
   subst hk2
   have HR2 := Lib.hid (show NRow wr (w.heap.size + 2) u5 (N.map (fun z => ((z, y) : Nd))) from by have := AR.out; rwa [List.take_length] at this)
   clear AR AP AY
   go_wp2_with fail
   go_ret
   exact ⟨_, rfl, World.ownsRow.mono HR2.out (by omega), AB.out⟩
set_option maxRecDepth 1000000 in
set_option maxHeartbeats 4000000 in
theorem pfol_right (hF : Flown mdl 27 w1 spR sr H) (hsl : ∃ rb cap, spL = .slice (some ⟨rb, 0, none⟩) G.length cap) (bm : Nat) (x y : Pt) (h0 : x.1 = 0) (hy : y.1 < H.length ∧ y.2 < 27) (w : World) (hb : Below w1.heap.size w1 w) :
  Calls Tryz.prog 250 #[.agg (pwC spL sl spR sr bm), ndV (x, y)] w (NFol ((nxp mdl H y).map (x, ·)) w) := by
 obtain ⟨rb2, capf2, rfl⟩ := hF.sl
 obtain ⟨rb, capf, rfl⟩ := hsl
 obtain ⟨i0, hi0, hz0, hz1, hz2⟩ := info_parts infoPP
 obtain ⟨k0, k1, kb⟩ := two_new w (pwC (.slice (some ⟨rb, 0, none⟩) G.length capf) sl (.slice (some ⟨rb2, 0, none⟩) H.length capf2) sr bm) #[.int .i64 x.1, .int .i64 x.2, .int .i64 y.1, .int .i64 y.2] 171 223
 have C := fun w' (h : Below w.heap.size w w') => Lib.hid (hF.fol sr y w' hy.1 hy.2 (hb.trans (h.mono hb.size)))
 have HN2 := Lib.hid (hF.two y)
 generalize nxp mdl H y = N at *
 unfold pwC at k0 k1 kb ⊢
 unfold ndV
 unfold ptV at C
 have c2 := k0.cell 2
 have c3 := k0.cell 3
 have p0 := k1.cell 0
 have p2 := k1.cell 2
 have p3 := k1.cell 3
 simp at c2 c3 p0 p2 p3
 have hne : ((x.1 : Int) == 0) = true := by rw [h0]; rfl
 clear h0
 clear hF hb hy
 go_enter Tryz.func250, Tryz.ntmps250
 go_wp2_with fail
 generalize (w.alloc (.cells _ 171)).alloc (.cells _ 223) = w0 at *
 go_wp2_with fail
 refine (C _ kb).out.mono ?_
 rintro e w2 ⟨vN, rfl, hpr, hb2⟩
 obtain ⟨aN, capN, rfl, hcapN, _⟩ := own_forms hpr
 have SP : Hid (w2.ownsRow w0.heap.size 221 2 (.slice aN N.length capN) N.length (ptC N)) := hpr
 have SB := Lib.hid (bnext kb hb2)
 have S1 := Lib.hid (k1.kept hb2)
 have HS := Lib.hid (show w.heap.size + 2 ≤ w2.heap.size from Nat.le_trans (show w.heap.size + 1 + 1 ≤ w0.heap.size from k1.lt) hb2.size)
 clear hpr hb2 kb k0 k1 c2 c3 p0 p2 p3 C
 go_wp2_with fail
 go_loopw [5, 39] (fun v j wr => ∃ k : Nat, k ≤ N.length ∧ j = .int .i64 k ∧ Hid (NRow wr (w.heap.size + 2) v ((N.take k).map (fun z => ((x, z) : Nd)))) ∧ Hid (Below w.heap.size w wr) ∧ Hid (wr.ownsRow w0.heap.size 221 2 (.slice aN N.length capN) N.length (ptC N)) ∧ Hid (Blk wr (w.heap.size + 1) #[.int .i64 x.1, .int .i64 x.2, .int .i64 y.1, .int .i64 y.2] 223)) (fun _ j _ => N.length - (intOf j).toNat)
 case atStart => exact ⟨0, by omega, rfl, NRow.nil _ _, SB, SP, S1⟩
 case round =>
  clear SB SP S1
  obtain ⟨k, hk, rfl, AR, AB, AP, AY⟩ := hrel
  by_cases hlt : k < N.length
  ·have HLT := Lib.hid hlt
   have hlt2 : (k : Int) < N.length := by omega
   have hk63 : (k : Int) + 1 ≤ 9223372036854775807 := by have := HN2.out; omega
   obtain ⟨a', cap', e1, _, hcl⟩ := own_forms AP.out
   injection e1 with e1 _ e2
   subst e1 e2
   obtain ⟨gN, rfl, hgN, hcells⟩ := hcl (by omega)
   have hp := List.getElem?_eq_getElem hlt
   have HTK := Lib.hid (List.take_succ_eq_append_getElem hlt)
   generalize N[k] = p at hp HTK
   have p0 := hcells _ _ (ptC_get hp).1
   have p1 := hcells _ _ (ptC_get hp).2
   have q2 := AY.out.cell 0
   have q3 := AY.out.cell 1
   simp only [List.getElem?_toArray, List.getElem?_cons_zero, List.getElem?_cons_succ] at q2 q3
   have HL : Hid (((N.take k).map (fun z => ((x, z) : Nd))).length = k) := by show _ = _; simp; omega
   have AR' : Hid (wr.ownsRow (w.heap.size + 2) 223 4 u5 k (ndC ((N.take k).map (fun z => ((x, z) : Nd))))) := by
    have := AR.out
    unfold NRow at this
    rw [HL.out] at this
    exact this
   have BP := Lib.hid ((Below.refl wr.heap.size wr).alloc (Nat.le_refl _) (.cells #[.int .i64 p.1, .int .i64 p.2] 221))
   have BQ := Lib.hid (BP.out.alloc (by simp) (.cells #[.int .i64 (x.1 : Int), .int .i64 (x.2 : Int), .int .i64 (p.1 : Int), .int .i64 (p.2 : Int)] 223))
   have HN7 := Lib.hid (heap_alloc_new (wr.alloc (.cells #[.int .i64 p.1, .int .i64 p.2] 221)) (.cells #[.int .i64 (x.1 : Int), .int .i64 (x.2 : Int), .int .i64 (p.1 : Int), .int .i64 (p.2 : Int)] 223))
   rw [show (wr.alloc (.cells #[.int .i64 p.1, .int .i64 p.2] 221)).heap.size = wr.heap.size + 1 by simp] at HN7
   have hnb6 := AY.out.lt
   have HZ : Hid (w.heap.size + 2 ≤ wr.heap.size) := by show _ ≤ _; omega
   clear hcl hcells hp AR
   go_wp2_with (at_builtin; refine wpList_append_lies _ (by rfl) _ _ _ (by rfl) (w.heap.size + 2) 223 i0 _ 4 32 Tryz.underlying225 hi0 hz0 hz1 hz2 rfl (by omega) _ _ _ (by rfl) (own_below AR'.out BQ.out) ⟨wr.heap.size + 1, 0, none⟩ 1 1 [.int .i64 (x.1 : Int), .int .i64 (x.2 : Int), .int .i64 (p.1 : Int), .int .i64 (p.2 : Int)] (by rfl) (by rfl) (World.news_of_block (cs := #[.int .i64 (x.1 : Int), .int .i64 (x.2 : Int), .int .i64 (p.1 : Int), .int .i64 (p.2 : Int)]) (t := 223) (fr := (0, 0)) HN7.out) (by simp [Value.oneCell']) (by omega) (by have := HN2.out; unfold maxLen; omega) (by have := HN2.out; omega) (Nat.le_trans HZ.out BQ.out.size) (wr.heap.size + 1 + 1) (by simp) ?_; intro g4 cap4 w7 hown hgrow hat hlt7)
   have A1k := own_below AR'.out BQ.out
   have NP := Lib.hid (own_of (own_below AP.out BQ.out) (fun k hk => hgrow.block k (World.ownsRow.lt (own_below AP.out BQ.out) k hk).2 (fun e => by
    rcases own_own (own_below AP.out BQ.out) A1k typ_ne6 with e2 | e2
    ·rw [hk] at e2; cases e2
    ·rw [hk] at e2; exact e2 e)))
   have NY := Lib.hid (Blk.grown (AY.out.kept BQ.out) hgrow (fun e => by have := (World.ownsRow.lt A1k _ e).1; omega))
   have NB := Lib.hid ((AB.out.trans (BQ.out.mono AB.out.size)).grown hgrow (Nat.le_trans AB.out.size BQ.out.size) (fun k hk => by have := (World.ownsRow.lt A1k k hk).1; omega))
   have N1 : Hid (NRow w7 (w.heap.size + 2) (.slice (some ⟨g4, 0, none⟩) (k + 1) cap4) ((N.take (k + 1)).map (fun z => ((x, z) : Nd)))) := by
    show w7.ownsRow _ _ _ _ _ _
    rw [HTK.out, List.map_append, ndC_app]
    simp only [List.length_append, HL.out]
    exact hown
   clear hown hgrow hat A1k AR' AB AP AY BP BQ HN7
   go_wp2_with fail
   exact ⟨⟨k + 1, by have := HLT.out; omega, by go_num, N1, NB, NP, NY⟩, by have := HLT.out; simp [intOf]; omega⟩
  ·have hk2 : k = N.length := by omega
   subst hk2
   have HR2 := Lib.hid (show NRow wr (w.heap.size + 2) u5 (N.map (fun z => ((x, z) : Nd))) from by have := AR.out; rwa [List.take_length] at this)
   clear AR AP AY
   go_wp2_with fail
   go_ret
   exact ⟨_, rfl, World.ownsRow.mono HR2.out (by omega), AB.out⟩
theorem pfol_any (hF : Flown mdl 27 w1 spL sl G) (hH : Flown mdl 27 w1 spR sr H) (bm : Nat) (n : Nd) (hn : (n.1.1 < G.length ∧ n.1.2 < 27) ∧ n.2.1 < H.length ∧ n.2.2 < 27) (w : World) (hb : Below w1.heap.size w1 w) :
  Calls Tryz.prog 250 #[.agg (pwC spL sl spR sr bm), ndV n] w (NFol (pnx mdl G H n) w) := by
 obtain ⟨x, y⟩ := n
 unfold pnx
 by_cases h0 : x.1 = 0
 ·rw [if_neg (by simpa using h0)]
  exact pfol_right hH hF.sl bm x y h0 hn.2 w hb
 ·rw [if_pos (by simpa using h0)]
  exact pfol_left hF hH.sl bm x y h0 hn.1 w hb
end
def NdIs (n : Nd) (w : World) (e : Ending) (w' : World) : Prop := e = .returned (ndV n) ∧ Below w.heap.size w w'
set_option maxRecDepth 100000 in
set_option maxHeartbeats 4000000 in
theorem points_any (a b i j : Nat) (hi : i < 27) (hj : j < 27) (w : World) : Calls Tryz.prog 251 #[.int .i64 a, .int .i64 b, .int .i64 (i + 27 * j : Nat)] w (NdIs ((a, i), (b, j)) w) := by
 obtain ⟨n, hn⟩ : ∃ n : Nat, n = i + 27 * j := ⟨_, rfl⟩
 have hr : ((n : Int)).tmod 27 = (i : Int) := by rw [Int.tmod_eq_emod_of_nonneg (by omega)]; omega
 have hq : ((n : Int)).tdiv 27 = (j : Int) := by rw [Int.tdiv_eq_ediv_of_nonneg (by omega)]; omega
 have hr' : ((n : Int)) % 27 = (i : Int) := by omega
 have hq' : ((n : Int)) / 27 = (j : Int) := by omega
 have hn0 : (0 : Int) ≤ (n : Int) := by omega
 rw [← hn]
 have hw : wrap64 (j : Int) = (j : Int) := IntWalk.wrap64_in _ (by omega)
 have Z0 := Lib.hid (Blk.new w #[.int .i64 a, .int .i64 i, .int .i64 b, .int .i64 j] 223)
 have KB := Lib.hid ((Below.refl w.heap.size w).alloc (Nat.le_refl _) (.cells #[.int .i64 a, .int .i64 i, .int .i64 b, .int .i64 j] 223))
 clear hn hi hj
 go_enter Tryz.func251, Tryz.ntmps251
 go_wp2_with fail
 exact bodyPost_ret (v := .agg #[.int .i64 a, .int .i64 i, .int .i64 b, .int .i64 j]) (results_cell_row rfl _ _ w.heap.size 223 _ (0, 0) _ (by rfl) Z0.out structPP rfl (by kernel_rfl)) rfl ⟨rfl, KB.out⟩
set_option maxRecDepth 100000 in
set_option maxHeartbeats 4000000 in
theorem endOf_any (i j : Nat) (hi : i < 27) (hj : j < 27) (w : World) : Calls Tryz.prog 203 #[.int .i64 (i + 27 * j : Nat)] w (NdIs ((0, i), (0, j)) w) := by
 have C := fun w => Lib.hid (points_any 0 0 i j hi hj w)
 generalize i + 27 * j = n at *
 go_enter Tryz.func203, Tryz.ntmps203
 go_wp2_with fail
 refine (C _).out.mono ?_
 rintro e w2 ⟨rfl, hb⟩
 unfold ndV
 have Z := (Blk.new w #[.int .i64 0, .int .i64 0, .int .i64 0, .int .i64 0] 223).kept hb
 have KB := Lib.hid (bnext ((Below.refl w.heap.size w).alloc (Nat.le_refl _) (.cells #[.int .i64 0, .int .i64 0, .int .i64 0, .int .i64 0] 223)) hb)
 have i0 := Z.cell 0; have i1 := Z.cell 1; have i2 := Z.cell 2; have i3 := Z.cell 3
 have f0 := Z.free 0; have f1 := Z.free 1; have f2 := Z.free 2; have f3 := Z.free 3
 have Z0 := Lib.hid Z
 clear Z hb C
 go_wp2_with fail
 exact bodyPost_ret (v := .agg #[.int .i64 (0 : Nat), .int .i64 i, .int .i64 (0 : Nat), .int .i64 j]) (results_cell_row rfl _ _ w.heap.size 223 _ (0, 0) _ (by rfl) ((((Z0.out.set 0 (.int .i64 (0 : Nat))).set 1 (.int .i64 i)).set 2 (.int .i64 (0 : Nat))).set 3 (.int .i64 j)) structPP rfl (by kernel_rfl)) rfl
  ⟨rfl, (((KB.out.setCell (p := ⟨w.heap.size, 0, none⟩) (Nat.le_refl _) _).setCell (p := ⟨w.heap.size, 1, none⟩) (Nat.le_refl _) _).setCell (p := ⟨w.heap.size, 2, none⟩) (Nat.le_refl _) _).setCell (p := ⟨w.heap.size, 3, none⟩) (Nat.le_refl _) _⟩
set_option maxRecDepth 100000 in
set_option maxHeartbeats 4000000 in
theorem startOf_any (spL spR : Value) (sl sr bm : Nat) (hL : ∃ rb n cap, spL = .slice (some ⟨rb, 0, none⟩) n cap) (hR : ∃ rb n cap, spR = .slice (some ⟨rb, 0, none⟩) n cap) (i j : Nat) (hi : i < 27) (hj : j < 27) (w : World) : Calls Tryz.prog 202 #[.agg (pwC spL sl spR sr bm), .int .i64 (i + 27 * j : Nat)] w (NdIs ((sl, i), (sr, j)) w) := by
 obtain ⟨rb, n1, cap, rfl⟩ := hL
 obtain ⟨rb2, n2, cap2, rfl⟩ := hR
 have C := fun w => Lib.hid (points_any sl sr i j hi hj w)
 generalize i + 27 * j = n at *
 obtain ⟨k0, k1, kb⟩ := two_new w (pwC (.slice (some ⟨rb, 0, none⟩) n1 cap) sl (.slice (some ⟨rb2, 0, none⟩) n2 cap2) sr bm) #[.int .i64 0, .int .i64 0, .int .i64 0, .int .i64 0] 171 223
 unfold pwC at k0 k1 kb ⊢
 have c1 := k0.cell 1
 have c3 := k0.cell 3
 simp at c1 c3
 have K1 := Lib.hid k1
 have KB := Lib.hid kb
 clear k0 k1 kb
 go_enter Tryz.func202, Tryz.ntmps202
 go_wp2_with fail
 generalize (w.alloc (.cells _ 171)).alloc (.cells _ 223) = w0 at *
 go_wp2_with fail
 refine (C _).out.mono ?_
 rintro e w2 ⟨rfl, hb⟩
 unfold ndV
 have Z := K1.out.kept hb
 replace KB := Lib.hid (bnext KB.out hb)
 have i0 := Z.cell 0; have i1 := Z.cell 1; have i2 := Z.cell 2; have i3 := Z.cell 3
 have f0 := Z.free 0; have f1 := Z.free 1; have f2 := Z.free 2; have f3 := Z.free 3
 have Z0 := Lib.hid Z
 clear Z hb C c1 c3 K1
 go_wp2_with fail
 exact bodyPost_ret (v := .agg #[.int .i64 sl, .int .i64 i, .int .i64 sr, .int .i64 j]) (results_cell_row rfl _ _ (w.heap.size + 1) 223 _ (0, 0) _ (by rfl) ((((Z0.out.set 0 (.int .i64 sl)).set 1 (.int .i64 i)).set 2 (.int .i64 sr)).set 3 (.int .i64 j)) structPP rfl (by kernel_rfl)) rfl
  ⟨rfl, (((KB.out.setCell (p := ⟨w.heap.size + 1, 0, none⟩) (by show w.heap.size ≤ w.heap.size + 1; omega) _).setCell (p := ⟨w.heap.size + 1, 1, none⟩) (by show w.heap.size ≤ w.heap.size + 1; omega) _).setCell (p := ⟨w.heap.size + 1, 2, none⟩) (by show w.heap.size ≤ w.heap.size + 1; omega) _).setCell (p := ⟨w.heap.size + 1, 3, none⟩) (by show w.heap.size ≤ w.heap.size + 1; omega) _⟩
set_option maxRecDepth 100000 in
set_option maxHeartbeats 4000000 in
theorem keeps_pt (spL spR : Value) (sl sr bm : Nat) {f : Mv} (n : Nd) (w : World) (h : MapV w bm f) : Calls Tryz.prog 249 #[.agg (pwC spL sl spR sr bm), ndV n] w fun e w' => e = .returned (.bool (f n).isSome) ∧ Below w.heap.size w w' := by
 obtain ⟨k0, k1, kb⟩ := two_new w (pwC spL sl spR sr bm) #[.int .i64 n.1.1, .int .i64 n.1.2, .int .i64 n.2.1, .int .i64 n.2.2] 171 223
 have hl := lookV_run (h.kept kb) n
 unfold pwC at k0 k1 kb hl ⊢
 unfold ndV at hl ⊢
 have c4 := k0.cell 4
 have p0 := k1.cell 0
 have p1 := k1.cell 1
 have p2 := k1.cell 2
 have p3 := k1.cell 3
 simp at c4 p0 p1 p2 p3
 have KB := Lib.hid kb
 clear k0 k1 kb h
 generalize valOf (f n) = v at *
 generalize (f n).isSome = b at *
 go_enter Tryz.func249, Tryz.ntmps249
 go_wp2_with fail
 generalize (w.alloc (.cells _ 171)).alloc (.cells _ 223) = w0 at *
 go_wp2_with fail
 go_ret
 exact ⟨rfl, KB.out⟩
noncomputable def mvIn (w : World) (b : Nat) : Mv := by
 classical exact if h : ∃ f, MapV w b f then Classical.choose h else fun _ => none
theorem MapV.inn {w : World} {b : Nat} {f : Mv} (h : MapV w b f) : mvIn w b = f := by
 unfold mvIn
 rw [dif_pos ⟨f, h⟩]
 exact (Classical.choose_spec (⟨f, h⟩ : ∃ f, MapV w b f)).uniq h
def unkV (U : List Nd) (f : Mv) : Nat := U.countP fun x => (f x).isNone
theorem BefW.unk {w : World} {BB bm : Nat} {m : Mq} {f : Mv} (h : BefW w BB bm m f) (U : List Nd) : unkV U (mvIn w bm) = unkq U m := by
 rw [h.mp.inn]
 unfold unkV unkq
 apply List.countP_congr
 intro x _
 have := h.isSome x
 cases hf : f x <;> cases hm : m x <;> simp_all
theorem Apart.keep {f : Mv} {b : Option Nat} (h : Apart f b) (z : Nd) : ∀ k, b = some k → some k ≠ (valOf (f z)).ownBlock := fun k hk e => by
 cases hz : f z with
 | none => rw [hz] at e; cases e
 | some v =>
  rw [hz] at e
  have e' : some k = v.ownBlock := e
  rcases h z v hz with k1 | k1
  ·rw [k1] at e'; cases e'
  ·exact k1 (e'.symm.trans hk.symm)
theorem typ_ne7 : 171 ≠ 223 := by decide
structure Mem2 (w0 : World) (BB bm nb pb : Nat) (y : Nd) (N : List Nd) (nv : Value) (cs : Array Value) (w : World) (ov : Value) (O : List Nd) (m : Mq) (f : Mv) : Prop where
 st : NStk w BB ov O
 bf : BefW w BB bm m f
 bl : Below BB w0 w
 pr : NRow w (nb + 1) nv N
 ya : Blk w nb #[.int .i64 y.1.1, .int .i64 y.1.2, .int .i64 y.2.1, .int .i64 y.2.2] 223
 pw : Blk w pb cs 171
 a1 : Apart f ov.ownBlock
 a2 : Apart f (some nb)
 a3 : Apart f nv.ownBlock
 n1 : ov.ownBlock ≠ some nb
 n2 : nv.ownBlock = none ∨ nv.ownBlock ≠ ov.ownBlock
 hb : BB ≤ w0.heap.size
 pk : ∀ b cs, Blk w0 b cs 171 → Blk w b cs 171
section
variable {w0 w w' : World} {BB bm nb pb : Nat} {y : Nd} {N : List Nd} {nv : Value} {cs : Array Value} {ov : Value} {O : List Nd} {m : Mq} {f : Mv}
theorem Mem2.kept (h : Mem2 w0 BB bm nb pb y N nv cs w ov O m f) (hk : Below w.heap.size w w') : Mem2 w0 BB bm nb pb y N nv cs w' ov O m f :=
 ⟨own_below h.st hk, h.bf.kept hk, h.bl.trans (hk.mono (Nat.le_trans h.hb h.bl.size)), own_below h.pr hk, h.ya.kept hk, h.pw.kept hk, h.a1, h.a2, h.a3, h.n1, h.n2, h.hb, fun b cs k => (h.pk b cs k).kept hk⟩
theorem Mem2.noted (h : Mem2 w0 BB bm nb pb y N nv cs w ov O m f) (z : Nd) {g k cap : Nat} {l : List Nd} (hv : NRow w' BB (.slice (some ⟨g, 0, none⟩) k cap) l) (hg : w.grownBy w' (valOf (f z)).ownBlock) (hat : (valOf (f z)).ownBlock = some g ∨ w.heap.size ≤ g) {o : Obj}
  (hm : MapV (setBlock w' bm o) bm (fun q => if z = q then some (.slice (some ⟨g, 0, none⟩) k cap) else f q)) : Mem2 w0 BB bm nb pb y N nv cs (setBlock w' bm o) ov O (updq m z l) (fun q => if z = q then some (.slice (some ⟨g, 0, none⟩) k cap) else f q) := by
 have hrow := h.bf.row z
 obtain ⟨es, c, hobj⟩ := (h.bf.grownAt z hg).1.obj
 have hst : NStk w' BB ov O := own_of h.st fun j hj => hg.block j (World.ownsRow.lt h.st j hj).2 (h.a1.keep z j hj)
 have hpr : NRow w' (nb + 1) nv N := own_of h.pr fun j hj => hg.block j (World.ownsRow.lt h.pr j hj).2 (h.a3.keep z j hj)
 have hya := Blk.grown h.ya hg (fun e => h.a2.keep z nb rfl e.symm)
 have hpw := Blk.grown h.pw hg (own_blk hrow h.pw typ_ne7)
 have nblk : ∀ {b : Nat} {cs : Array Value} {t : TypeId}, Blk w' b cs t → b ≠ bm := fun {b cs t} hb e => by
  subst e
  unfold Blk at hb
  rw [hobj] at hb
  cases hb
 exact ⟨own_setB hst (own_ne hst hobj (fun cur k => by cases k)) o, h.bf.noteGrown z hg hv hat hm,
  below_setB (h.bl.grown hg (Nat.le_trans h.hb h.bl.size) (fun j hj => (World.ownsRow.lt hrow j hj).1)) h.bf.lm o,
  own_setB hpr (own_ne hpr hobj (fun cur k => by cases k)) o, Blk.setB' hya (nblk hya) o, Blk.setB' hpw (nblk hpw) o,
  h.a1.note z (fun j hj => (World.ownsRow.lt h.st j hj).2) hat, h.a2.note z (fun j hj => by injection hj with hj; subst hj; exact h.ya.lt) hat, h.a3.note z (fun j hj => (World.ownsRow.lt h.pr j hj).2) hat, h.n1, h.n2, h.hb,
  fun b cs k => by have := Blk.grown (h.pk b cs k) hg (own_blk hrow (h.pk b cs k) typ_ne7); exact Blk.setB' this (nblk this) o⟩
theorem Mem2.pushed (h : Mem2 w0 BB bm nb pb y N nv cs w ov O m f) {z : Nd} {g cap : Nat} (hv : NStk w' BB (.slice (some ⟨g, 0, none⟩) (O.length + 1) cap) (z :: O)) (hg : w.grownBy w' ov.ownBlock) (hat : ov.ownBlock = some g ∨ w.heap.size ≤ g) : Mem2 w0 BB bm nb pb y N nv cs w' (.slice (some ⟨g, 0, none⟩) (O.length + 1) cap) (z :: O) m f := by
 refine ⟨hv, h.bf.grown hg h.a1 (h.bf.own_ne h.st), h.bl.grown hg (Nat.le_trans h.hb h.bl.size) (fun j hj => (World.ownsRow.lt h.st j hj).1),
  own_of h.pr fun j hj => hg.block j (World.ownsRow.lt h.pr j hj).2 fun e => ?_, Blk.grown h.ya hg h.n1, Blk.grown h.pw hg (own_blk h.st h.pw typ_ne7), ?_, h.a2, h.a3, ?_, ?_, h.hb, fun b cs k => Blk.grown (h.pk b cs k) hg (own_blk h.st (h.pk b cs k) typ_ne7)⟩
 ·rcases h.n2 with k | k
  ·rw [hj] at k; cases k
  ·exact k (hj.trans e)
 ·show Apart f (some g)
  rcases hat with e | e
  ·rw [← e]; exact h.a1
  ·exact h.bf.apart_new e
 ·show some g ≠ some nb
  rcases hat with e | e
  ·rw [← e]; exact h.n1
  ·intro e2; injection e2 with e2; have := h.ya.lt; omega
 ·show nv.ownBlock = none ∨ nv.ownBlock ≠ some g
  rcases hat with e | e
  ·rw [← e]; exact h.n2
  ·cases hn : nv.ownBlock with
   | none => exact .inl rfl
   | some j => exact .inr (fun e2 => by injection e2 with e2; have := (World.ownsRow.lt h.pr j hn).2; omega)
theorem Mem2.start (hb : BB ≤ w0.heap.size) {g cap : Nat} {s : List Nd} (hst : NStk w BB (.slice (some ⟨g, 0, none⟩) s.length cap) s) (hgl : g < w.heap.size) (hbf : BefW w BB bm m f) (hbl : Below BB w0 w) (hap : Apart f (some g)) (hpw : Blk w pb cs 171) {w5 : World}
  (hk : Below (w.heap.size + 1) (w.alloc (.cells #[.int .i64 y.1.1, .int .i64 y.1.2, .int .i64 y.2.1, .int .i64 y.2.2] 223)) w5) (hpr : NRow w5 (w.heap.size + 1) nv N) (hpk : ∀ b cs, Blk w0 b cs 171 → Blk w b cs 171) :
  Mem2 w0 BB bm w.heap.size pb y N nv cs w5 (.slice (some ⟨g, 0, none⟩) s.length cap) s m f := by
 have hz : (w.alloc (.cells #[.int .i64 y.1.1, .int .i64 y.1.2, .int .i64 y.2.1, .int .i64 y.2.2] 223)).heap.size = w.heap.size + 1 := by simp
 have ha := (Below.refl w.heap.size w).alloc (Nat.le_refl _) (.cells #[.int .i64 y.1.1, .int .i64 y.1.2, .int .i64 y.2.1, .int .i64 y.2.2] 223)
 have hk2 := ha.trans (hk.mono (by omega))
 have hap2 : ∀ j, nv.ownBlock = some j → w.heap.size + 1 ≤ j := fun j hj => (World.ownsRow.lt hpr j hj).1
 refine ⟨own_below hst hk2, hbf.kept hk2, hbl.trans (hk2.mono (Nat.le_trans hb hbl.size)), hpr, (Blk.new w _ _).kept (by rw [hz]; exact hk), hpw.kept hk2, hap, hbf.apart_new (Nat.le_refl _), ?_, ?_, ?_, hb, fun b cs k => (hpk b cs k).kept hk2⟩
 ·cases hn : nv.ownBlock with
  | none => exact Apart.none_ f
  | some j => exact hbf.apart_new (by have := hap2 j hn; omega)
 ·show some g ≠ some _
  intro e; injection e with e; omega
 ·cases hn : nv.ownBlock with
  | none => exact .inl rfl
  | some j => exact .inr (fun e => by have e : some j = some g := e; injection e with e; have := hap2 j hn; omega)
end
theorem pnx_two {w1 : World} {spL spR : Value} {sl sr : Nat} {G H : List Stp} (hF : Flown mdl 27 w1 spL sl G) (hH : Flown mdl 27 w1 spR sr H) (n : Nd) : (pnx mdl G H n).length ≤ 2 := by
 unfold pnx
 split
 ·rw [List.length_map]; exact hF.two _
 ·rw [List.length_map]; exact hH.two _
end Go.Proofs.YtgkoljphndgoeaaGreatDoor
