/-
  Relations of the program and of the model in memory: made, loaded, stored, indexed, compared, returned.
-/
import Derived.Test.YtinillnccfgooaaDoorRel
import Derived.Test.YtinillnccfgooaaDoorRm
import Derived.Test.YtinillnccfgooaaDoorRelP
import Derived.StillTailTactics
import Derived.Deep.RegionHeld3
import Derived.Deep.MidRow
namespace Go.Proofs.YtinillnccfgooaaDoor
open Go.RowKit Go.Great

/-! ### Results that lie in memory -/
theorem results_cs {P : Program} {fn : Func} {p s : Tmp} {ty : TypeId} (h : fn.results = #[.cell p ty, .tmp s]) (tmps : Array Value) (w : World) (g : Nat) (t : TypeId) (cs : Array Value) (fr : Nat × Nat) (d : TypeDesc)
    (hp : tmps.getD p undef = .pointer (some ⟨g, 0, none⟩)) (v : Value) (hv : tmps.getD s undef = v) (hg : w.heap[g]? = some (.cells cs t fr))
    (hu : P.underlying ty = some d) (hd : (match d with | .struct _ | .array _ _ => true | _ => false) = true) (hi : (P.info? ty).map (·.size) = some cs.size) :
    (results fn tmps).run P w = .ok (.tuple #[.agg cs, v]) w := by
  have hp' : tmps[p]?.getD undef = .pointer (some ⟨g, 0, none⟩) := by simpa using hp
  have hv' : tmps[s]?.getD undef = v := by simpa using hv
  simp [results, h, hp', hv', asAddr, run_loadVar_row w g t ty cs fr d hg hu hd hi]
theorem results_css {P : Program} {fn : Func} {p s s2 : Tmp} {ty : TypeId} (h : fn.results = #[.cell p ty, .tmp s, .tmp s2]) (tmps : Array Value) (w : World) (g : Nat) (t : TypeId) (cs : Array Value) (fr : Nat × Nat) (d : TypeDesc)
    (hp : tmps.getD p undef = .pointer (some ⟨g, 0, none⟩)) (v v2 : Value) (hv : tmps.getD s undef = v) (hv2 : tmps.getD s2 undef = v2) (hg : w.heap[g]? = some (.cells cs t fr))
    (hu : P.underlying ty = some d) (hd : (match d with | .struct _ | .array _ _ => true | _ => false) = true) (hi : (P.info? ty).map (·.size) = some cs.size) :
    (results fn tmps).run P w = .ok (.tuple #[.agg cs, v, v2]) w := by
  have hp' : tmps[p]?.getD undef = .pointer (some ⟨g, 0, none⟩) := by simpa using hp
  have hv' : tmps[s]?.getD undef = v := by simpa using hv
  have hv2' : tmps[s2]?.getD undef = v2 := by simpa using hv2
  simp [results, h, hp', hv', hv2', asAddr, run_loadVar_row w g t ty cs fr d hg hu hd hi]
theorem results_ccs {P : Program} {fn : Func} {p q s : Tmp} {ty : TypeId} (h : fn.results = #[.cell p ty, .cell q ty, .tmp s]) (tmps : Array Value) (w : World) (g g2 : Nat) (t t2 : TypeId) (cs cs2 : Array Value) (fr fr2 : Nat × Nat) (d : TypeDesc)
    (hp : tmps.getD p undef = .pointer (some ⟨g, 0, none⟩)) (hq : tmps.getD q undef = .pointer (some ⟨g2, 0, none⟩)) (v : Value) (hv : tmps.getD s undef = v) (hg : w.heap[g]? = some (.cells cs t fr)) (hg2 : w.heap[g2]? = some (.cells cs2 t2 fr2))
    (hu : P.underlying ty = some d) (hd : (match d with | .struct _ | .array _ _ => true | _ => false) = true) (hi : (P.info? ty).map (·.size) = some cs.size) (hi2 : (P.info? ty).map (·.size) = some cs2.size) :
    (results fn tmps).run P w = .ok (.tuple #[.agg cs, .agg cs2, v]) w := by
  have hp' : tmps[p]?.getD undef = .pointer (some ⟨g, 0, none⟩) := by simpa using hp
  have hq' : tmps[q]?.getD undef = .pointer (some ⟨g2, 0, none⟩) := by simpa using hq
  have hv' : tmps[s]?.getD undef = v := by simpa using hv
  simp [results, h, hp', hq', hv', asAddr, run_loadVar_row w g t ty cs fr d hg hu hd hi, run_loadVar_row w g2 t2 ty cs2 fr2 d hg2 hu hd hi2]

/-- A load of a whole row, and a store of one, as a step of a region that draws its order. -/
theorem step_load_row {P : Program} {ops : Array Oper} {o : Oper} {a : Act} {w : World} {K : Act → World → Prop} {Q : Exit → Act → World → Prop} {E : Prop} (hgd : o.guard = none) (ty : TypeId) (x : Operand) (ho : o.op = .load ty x)
    (g : Nat) (hx : a.eval x = .pointer (some ⟨g, 0, none⟩)) (t : TypeId) (cs : Array Value) (fr : Nat × Nat) (d : TypeDesc) (hg : w.heap[g]? = some (.cells cs t fr))
    (hu : P.underlying ty = some d) (hd : (match d with | .struct _ | .array _ _ => true | _ => false) = true) (hi : (P.info? ty).map (·.size) = some cs.size)
    (h : K (a.put o.dst (.agg cs)) w) : if Region.wanted o (yielded ops a.tmps) = true then Oper.wp P o a w K Q else E := by
  rw [if_pos (by simp [Region.wanted, hgd])]
  exact wp_load_row ty x ho g hx t cs fr d hg hu hd hi h
theorem step_store_row {P : Program} {ops : Array Oper} {o : Oper} {a : Act} {w : World} {K : Act → World → Prop} {Q : Exit → Act → World → Prop} {E : Prop} (hgd : o.guard = none) (ty : TypeId) (x y : Operand) (ho : o.op = .store ty x y)
    (g : Nat) (cells : Array Value) (hx : a.eval x = .pointer (some ⟨g, 0, none⟩)) (hy : a.eval y = .agg cells)
    (t : TypeId) (old : Array Value) (hg : w.heap[g]? = some (.cells old t (0, 0))) (hi : (P.info? ty).map (·.size) = some cells.size)
    (hold : old.size = cells.size) (h1 : cells.all (·.oneCell') = true)
    (h : K (a.put o.dst undef) (w.setRow g cells)) : if Region.wanted o (yielded ops a.tmps) = true then Oper.wp P o a w K Q else E := by
  rw [if_pos (by simp [Region.wanted, hgd])]
  exact wp_store_row ty x y ho g cells hx hy t old hg hi hold h1 h
theorem step_call {P : Program} {ops : Array Oper} {o : Oper} {a : Act} {w : World} {K : Act → World → Prop} {Q : Exit → Act → World → Prop} {E : Prop} (hgd : o.guard = none) (h : Oper.wp P o a w K Q) : if Region.wanted o (yielded ops a.tmps) = true then Oper.wp P o a w K Q else E := by
  rw [if_pos (by simp [Region.wanted, hgd])]
  exact h

/-! ### The program's relations -/
theorem infoR (T : Nat → Nat → Bool) : (Tryd.prog.info? 75).map (·.size) = some (relC .u32 T).size := by
  rw [relC_size]
  kernel_rfl
theorem undR : Tryd.prog.underlying 75 = some (.array 27 73) := by kernel_rfl
theorem undE : Tryd.prog.underlying 73 = some (.int .u32) := by kernel_rfl
theorem sizE (w : World) : (sizeOf 73).run Tryd.prog w = .ok 1 w := by kernel_rfl
theorem r_alloc {ops : Array Oper} {rest : List Oper} {o : Oper} {a : Act} {w : World} {Q : Exit → Act → World → Prop} (hg : o.guard = none) (ho : o.op = .alloc 75) (dst : Option Tmp) (hdst : o.dst = dst) (N : Nat) (hN : w.heap.size = N)
    (h : wpList Tryd.prog ops Q rest (a.put dst (.pointer (some ⟨N, 0, none⟩))) (w.alloc (.cells (relC .u32 noR) 75))) : wpList Tryd.prog ops Q (o :: rest) a w := by
  subst hN
  refine wpList_runTo hg dst hdst _ _ ?_ h
  simp [execOp, ho, Instr.alloc, Result.andThen, go_sem]
  kernel_rfl
theorem r_index (T : Nat → Nat → Bool) (k : Nat) (hk : k < 27) (w : World) : (Instr.index 75 (.agg (relC .u32 T)) (.int .i64 k)).run Tryd.prog w = .ok (.int .u32 (nb 27 (T k))) w := by
  simp [Instr.index, asIntOf, run_underlying undR, Go.part, isAgg, run_underlying undE, hk, relC_get _ T hk]
theorem r_eq (A B : Nat → Nat → Bool) (w : World) : (Op.equalIn 10000 75 (.agg (relC .u32 A)) (.agg (relC .u32 B))).run Tryd.prog w = .ok (relEq A B) w := run_equal_rel w _ _ _ A B undR undE sizE
theorem r_guard : Tryd.prog.eqGuardType Tryd.prog.depth 75 = false := by kernel_rfl
theorem r_load {w : World} {g : Nat} {T : Nat → Nat → Bool} (h : Blk w g (relC .u32 T) 75) : (loadVar 75 ⟨g, 0, none⟩).run Tryd.prog w = .ok (.agg (relC .u32 T)) w := run_loadVar_row w g _ _ _ _ _ h undR rfl (infoR T)

/-! ### The model's relations -/
theorem infoM (T : Nat → Nat → Bool) : (Tryd.prog.info? 70).map (·.size) = some (relC .i64 T).size := by
  rw [relC_size]
  kernel_rfl
theorem undM : Tryd.prog.underlying 70 = some (.array 27 3) := by kernel_rfl
theorem undI : Tryd.prog.underlying 3 = some (.int .i64) := by kernel_rfl
theorem sizI (w : World) : (sizeOf 3).run Tryd.prog w = .ok 1 w := by kernel_rfl
theorem m_alloc {ops : Array Oper} {rest : List Oper} {o : Oper} {a : Act} {w : World} {Q : Exit → Act → World → Prop} (hg : o.guard = none) (ho : o.op = .alloc 70) (dst : Option Tmp) (hdst : o.dst = dst) (N : Nat) (hN : w.heap.size = N)
    (h : wpList Tryd.prog ops Q rest (a.put dst (.pointer (some ⟨N, 0, none⟩))) (w.alloc (.cells (relC .i64 noR) 70))) : wpList Tryd.prog ops Q (o :: rest) a w := by
  subst hN
  refine wpList_runTo hg dst hdst _ _ ?_ h
  simp [execOp, ho, Instr.alloc, Result.andThen, go_sem]
  kernel_rfl
theorem m_index (T : Nat → Nat → Bool) (k : Nat) (hk : k < 27) (w : World) : (Instr.index 70 (.agg (relC .i64 T)) (.int .i64 k)).run Tryd.prog w = .ok (.int .i64 (nb 27 (T k))) w := by
  simp [Instr.index, asIntOf, run_underlying undM, Go.part, isAgg, run_underlying undI, hk, relC_get _ T hk]
theorem m_eq (A B : Nat → Nat → Bool) (w : World) : (Op.equalIn 10000 70 (.agg (relC .i64 A)) (.agg (relC .i64 B))).run Tryd.prog w = .ok (relEq A B) w := run_equal_rel w _ _ _ A B undM undI sizI
theorem m_guard : Tryd.prog.eqGuardType Tryd.prog.depth 70 = false := by kernel_rfl
theorem m_load {w : World} {g : Nat} {T : Nat → Nat → Bool} (h : Blk w g (relC .i64 T) 70) : (loadVar 70 ⟨g, 0, none⟩).run Tryd.prog w = .ok (.agg (relC .i64 T)) w := run_loadVar_row w g _ _ _ _ _ h undM rfl (infoM T)

/-! ### Texts of relations -/
def Rel729 (s : ByteArray) : Prop := Bits 729 s.data.toList
theorem Rel729.size {s : ByteArray} (h : Rel729 s) : s.size = 729 := by have := h.1; simpa using this
/-- A row of a text. -/
theorem row_of {s : ByteArray} (h : Rel729 s) {k : Nat} (hk : k < 27) : Set27 (s.extract (27 * k) (27 * k + 27)) ∧ ∀ j, j < 27 → hs (s.extract (27 * k) (27 * k + 27)).data.toList j = relS s.data.toList k j := by
  have hl := h.1
  have e : (s.extract (27 * k) (27 * k + 27)).data.toList = (s.data.toList.drop (27 * k)).take 27 := by
    rw [ByteArray.data_extract, Array.toList_extract, List.extract_eq_take_drop]
    congr 1
    omega
  have g : ∀ j, j < 27 → ((s.data.toList.drop (27 * k)).take 27)[j]? = s.data.toList[27 * k + j]? := by
    intro j hj
    rw [List.getElem?_take, if_pos hj, List.getElem?_drop]
  refine ⟨⟨?_, ?_⟩, ?_⟩
  · rw [e, List.length_take, List.length_drop]; omega
  · intro j hj
    have hj2 : j < ((s.data.toList.drop (27 * k)).take 27).length := by rw [← e]; exact hj
    have hj27 : j < 27 := by rw [List.length_take] at hj2; omega
    have h1 := g j hj27
    rw [List.getElem?_eq_getElem hj2, List.getElem?_eq_getElem (show 27 * k + j < s.data.toList.length by omega)] at h1
    injection h1 with h1
    have h2 := h.2 (27 * k + j) (by omega)
    rw [← h1] at h2
    have e2 : (s.extract (27 * k) (27 * k + 27)).data.toList[j] = ((s.data.toList.drop (27 * k)).take 27)[j] := by simp only [e]
    rw [e2]; exact h2
  · intro j hj
    unfold hs relS hs
    rw [e, g j hj]
end Go.Proofs.YtinillnccfgooaaDoor
