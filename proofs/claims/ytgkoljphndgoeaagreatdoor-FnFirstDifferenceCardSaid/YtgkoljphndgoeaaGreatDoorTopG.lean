import Derived.Test.YtgkoljphndgoeaaGreatDoorTopM
import Derived.Test.YtgkoljphndgoeaaGreatDoorTopB
import Derived.Laws.Rows
import Derived.Laws.Tables
import Derived.Great.Walk
import Derived.Great.BuildSlice
import Derived.Laws.StructEq
import Derived.StillTailTactics
import Derived.Deep.RegionHeld3
import Derived.Deep.MidRow
namespace Go.Proofs.YtgkoljphndgoeaaGreatDoor
open Go.RowKit Go.Great
def relC (k : IntKind) (T : Nat → Nat → Bool) : Array Value := ((List.range 27).map (fun i => Value.int k (nb 27 (T i)))).toArray
theorem relC_size (k : IntKind) (T : Nat → Nat → Bool) : (relC k T).size = 27 := by simp [relC]
theorem relC_get (k : IntKind) (T : Nat → Nat → Bool) {i : Nat} (h : i < 27) : (relC k T)[i]? = some (.int k (nb 27 (T i))) := by
 unfold relC
 simp [h]
theorem relC_congr {k : IntKind} {T T' : Nat → Nat → Bool} (h : ∀ i, i < 27 → ∀ j, j < 27 → T i j = T' i j) : relC k T = relC k T' := by
 unfold relC
 congr 1
 apply List.map_congr_left
 intro i hi
 rw [nb_congr (h i (by simpa using hi))]
theorem relC_one (k : IntKind) (T : Nat → Nat → Bool) : (relC k T).all (·.oneCell') = true := by
 rw [Array.all_eq_true_iff_forall_mem]
 intro v hv
 simp [relC] at hv
 rcases hv with ⟨i, _, rfl⟩
 rfl
def setR (T : Nat → Nat → Bool) (k : Nat) (F : Nat → Bool) : Nat → Nat → Bool := fun i => if i = k then F else T i
theorem relC_set {K : IntKind} {T : Nat → Nat → Bool} {k : Nat} {F : Nat → Bool} (hk : k < 27) : (relC K T).setIfInBounds k (.int K (nb 27 F)) = relC K (setR T k F) := by
 apply Array.ext_getElem?
 intro i
 rw [Array.getElem?_setIfInBounds]
 by_cases e : k = i
 ·subst e
  rw [if_pos rfl, relC_get _ _ hk, if_pos (by rw [relC_size]; omega)]
  simp [setR]
 ·rw [if_neg e]
  by_cases h : i < 27
  ·rw [relC_get _ _ h, relC_get _ _ h]
   have : ¬ i = k := fun h => e h.symm
   simp [setR, this]
  ·rw [Array.getElem?_eq_none (by rw [relC_size]; omega), Array.getElem?_eq_none (by rw [relC_size]; omega)]
def noR : Nat → Nat → Bool := fun _ _ => false
def mixR (k : Nat) (A B : Nat → Nat → Bool) : Nat → Nat → Bool := fun i j => if i < k then A i j else B i j
theorem mixR_zero {K : IntKind} {A B : Nat → Nat → Bool} : relC K (mixR 0 A B) = relC K B := relC_congr fun i _ j _ => by simp [mixR]
theorem mixR_all {K : IntKind} {A B : Nat → Nat → Bool} : relC K (mixR 27 A B) = relC K A := relC_congr fun i hi j _ => by simp [mixR, hi]
theorem mixR_step {K : IntKind} {A B : Nat → Nat → Bool} {k : Nat} (hk : k < 27) : (relC K (mixR k A B)).setIfInBounds k (.int K (nb 27 (A k))) = relC K (mixR (k + 1) A B) := by
 rw [relC_set hk]
 refine relC_congr fun i _ j _ => ?_
 unfold setR mixR
 by_cases e : i = k
 ·subst e; simp
 ·rw [if_neg e]
  by_cases h : i < k
  ·have h2 : i < k + 1 := by omega
   simp [h, h2]
  ·have h2 : ¬ i < k + 1 := by omega
   simp [h, h2]
theorem mixR_at {K : IntKind} {A B : Nat → Nat → Bool} {k : Nat} (hk : k < 27) : (relC K (mixR k A B))[k]? = some (.int K (nb 27 (B k))) := by
 rw [relC_get _ _ hk, nb_congr (F := mixR k A B k) (G := B k) fun j _ => by simp [mixR]]
def relEq (A B : Nat → Nat → Bool) : Bool := (List.range 27).all fun i => nb 27 (A i) == nb 27 (B i)
theorem relEq_iff {A B : Nat → Nat → Bool} : relEq A B = true ↔ ∀ i, i < 27 → ∀ j, j < 27 → A i j = B i j := by
 unfold relEq
 rw [List.all_eq_true]
 constructor
 ·intro h i hi j hj
  have := h i (by simpa using hi)
  exact nb_inj (eq_of_beq this) j hj
 ·intro h i hi
  have := nb_congr (h i (by simpa using hi))
  simpa using this
theorem run_equal_rel {P : Program} (w : World) (t e : TypeId) (k : IntKind) (A B : Nat → Nat → Bool) (ht : P.underlying t = some (.array 27 e)) (he : P.underlying e = some (.int k)) (hsz : ∀ w, (sizeOf e).run P w = .ok 1 w) :
  (Op.equalIn 10000 t (.agg (relC k A)) (.agg (relC k B))).run P w = .ok (relEq A B) w := by
 show (Op.equalIn (9998 + 2) t _ _).run P w = _
 rw [relEq, List.range_eq_range', Op.equalIn]
 simp only [Sem.run_bind, run_underlying ht, Result.andThen_ok, hsz, Std.Legacy.Range.forIn_eq_forIn_range', Std.Legacy.Range.size, Nat.sub_zero, Nat.add_sub_cancel, Nat.div_one]
 have hl : ∀ i ∈ List.range' 0 27 1, i < 27 := fun i hi => by simpa using (List.mem_range'_1.1 hi).2
 generalize List.range' 0 27 1 = l at hl ⊢
 induction l with
 | nil => simp
 | cons i l ih =>
  have hi : i < 27 := hl i (by simp)
  have px : (Go.part e (relC k A) (i * 1)).run P w = .ok (.int k (nb 27 (A i))) w := by
   simp [Go.part, isAgg, run_underlying he, relC_get k A hi]
  have py : (Go.part e (relC k B) (i * 1)).run P w = .ok (.int k (nb 27 (B i))) w := by
   simp [Go.part, isAgg, run_underlying he, relC_get k B hi]
  have pe : (Op.equalIn (9998 + 1) e (.int k (nb 27 (A i))) (.int k (nb 27 (B i)))).run P w = .ok (nb 27 (A i) == nb 27 (B i)) w := by
   rw [run_equalIn_int w 9998 e k k _ _ he]
   congr 1
   rw [Bool.eq_iff_iff, beq_iff_eq, beq_iff_eq]
   omega
  simp only [List.forIn_cons, Sem.run_bind, px, py, pe, Result.andThen_ok, List.all_cons]
  cases hb : (nb 27 (A i) == nb 27 (B i))
  ·simp
  ·simp only [Bool.not_true, Bool.false_eq_true, if_false, Sem.run_pure, Result.andThen_ok, Bool.true_and]
   exact ih fun j hj => hl j (by simp [hj])
def relS (l : List UInt8) : Nat → Nat → Bool := fun i j => hs l (27 * i + j)
def rowsT (T : Nat → Nat → Bool) : Nat → List UInt8
 | 0 => []
 | k + 1 => rowsT T k ++ tb (T k)
theorem rowsT_len (T : Nat → Nat → Bool) (k : Nat) : (rowsT T k).length = 27 * k := by
 induction k with
 | zero => rfl
 | succ k ih => simp only [rowsT, List.length_append, ih, tb, tbn_length]; omega
theorem rowsT_eq (T : Nat → Nat → Bool) (k : Nat) : rowsT T k = tbn (27 * k) fun m => T (m / 27) (m % 27) := by
 induction k with
 | zero => rfl
 | succ k ih =>
  apply List.ext_getElem?
  intro m
  unfold rowsT
  by_cases h : m < 27 * k
  ·rw [List.getElem?_append_left (by rw [rowsT_len]; exact h), ih, tbn_get _ _ _ h, tbn_get _ _ _ (by omega)]
  ·rw [List.getElem?_append_right (by rw [rowsT_len]; omega), rowsT_len]
   by_cases h2 : m < 27 * (k + 1)
   ·rw [tb, tbn_get _ _ _ (by omega), tbn_get _ _ _ h2]
    have e1 : m / 27 = k := by omega
    have e2 : m % 27 = m - 27 * k := by omega
    rw [e1, e2]
   ·rw [tb, List.getElem?_eq_none (by rw [tbn_length]; omega), List.getElem?_eq_none (by rw [tbn_length]; omega)]
def relT (T : Nat → Nat → Bool) : List UInt8 := rowsT T 27
theorem relT_eq (T : Nat → Nat → Bool) : relT T = tbn 729 fun m => T (m / 27) (m % 27) := rowsT_eq T 27
theorem relT_congr {T T' : Nat → Nat → Bool} (h : ∀ i, i < 27 → ∀ j, j < 27 → T i j = T' i j) : relT T = relT T' := by
 rw [relT_eq, relT_eq]
 refine tbn_congr fun m hm => ?_
 exact h _ (by omega) _ (by omega)
end Go.Proofs.YtgkoljphndgoeaaGreatDoor
namespace Go.Proofs.YtgkoljphndgoeaaGreatDoor
def compR (A B : Nat → Nat → Bool) : Nat → Nat → Bool := fun i j => upto 27 fun q => A i q && B q j
theorem compR_iff {A B : Nat → Nat → Bool} {i j : Nat} : compR A B i j = true ↔ ∃ q, q < 27 ∧ A i q = true ∧ B q j = true := by
 unfold compR
 rw [upto_iff]
 simp
def idR : Nat → Nat → Bool := fun i j => i == j
end Go.Proofs.YtgkoljphndgoeaaGreatDoor
namespace Go.Proofs.YtgkoljphndgoeaaGreatDoor
open Go.RowKit Go.Great
theorem results_cs {P : Program} {fn : Func} {p s : Tmp} {ty : TypeId} (h : fn.results = #[.cell p ty, .tmp s]) (tmps : Array Value) (w : World) (g : Nat) (t : TypeId) (cs : Array Value) (fr : Nat × Nat) (d : TypeDesc)
  (hp : tmps.getD p undef = .pointer (some ⟨g, 0, none⟩)) (v : Value) (hv : tmps.getD s undef = v) (hg : w.heap[g]? = some (.cells cs t fr))
  (hu : P.underlying ty = some d) (hd : (match d with | .struct _ | .array _ _ => true | _ => false) = true) (hi : (P.info? ty).map (·.size) = some cs.size) :
  (results fn tmps).run P w = .ok (.tuple #[.agg cs, v]) w := by
 have hp' : tmps[p]?.getD undef = .pointer (some ⟨g, 0, none⟩) := by simpa using hp
 have hv' : tmps[s]?.getD undef = v := by simpa using hv
 simp [results, h, hp', hv', asAddr, run_loadVar_row w g t ty cs fr d hg hu hd hi]
theorem results_ccs {P : Program} {fn : Func} {p q s : Tmp} {ty : TypeId} (h : fn.results = #[.cell p ty, .cell q ty, .tmp s]) (tmps : Array Value) (w : World) (g g2 : Nat) (t t2 : TypeId) (cs cs2 : Array Value) (fr fr2 : Nat × Nat) (d : TypeDesc)
  (hp : tmps.getD p undef = .pointer (some ⟨g, 0, none⟩)) (hq : tmps.getD q undef = .pointer (some ⟨g2, 0, none⟩)) (v : Value) (hv : tmps.getD s undef = v) (hg : w.heap[g]? = some (.cells cs t fr)) (hg2 : w.heap[g2]? = some (.cells cs2 t2 fr2))
  (hu : P.underlying ty = some d) (hd : (match d with | .struct _ | .array _ _ => true | _ => false) = true) (hi : (P.info? ty).map (·.size) = some cs.size) (hi2 : (P.info? ty).map (·.size) = some cs2.size) :
  (results fn tmps).run P w = .ok (.tuple #[.agg cs, .agg cs2, v]) w := by
 have hp' : tmps[p]?.getD undef = .pointer (some ⟨g, 0, none⟩) := by simpa using hp
 have hq' : tmps[q]?.getD undef = .pointer (some ⟨g2, 0, none⟩) := by simpa using hq
 have hv' : tmps[s]?.getD undef = v := by simpa using hv
 simp [results, h, hp', hq', hv', asAddr, run_loadVar_row w g t ty cs fr d hg hu hd hi, run_loadVar_row w g2 t2 ty cs2 fr2 d hg2 hu hd hi2]
theorem step_load_row {P : Program} {ops : Array Oper} {o : Oper} {a : Act} {w : World} {K : Act → World → Prop} {Q : Exit → Act → World → Prop} {E : Prop} (hgd : o.guard = none) (ty : TypeId) (x : Operand) (ho : o.op = .load ty x)
  (g : Nat) (hx : a.eval x = .pointer (some ⟨g, 0, none⟩)) (t : TypeId) (cs : Array Value) (fr : Nat × Nat) (d : TypeDesc) (hg : w.heap[g]? = some (.cells cs t fr))
  (hu : P.underlying ty = some d) (hd : (match d with | .struct _ | .array _ _ => true | _ => false) = true) (hi : (P.info? ty).map (·.size) = some cs.size)
  (h : K (a.put o.dst (.agg cs)) w) : if Region.wanted o (yielded ops a.tmps) = true then Oper.wp P o a w K Q else E := by
 rw [if_pos (by simp [Region.wanted, hgd])]
 exact wp_load_row ty x ho g hx t cs fr d hg hu hd hi h
theorem step_store_row {P : Program} {ops : Array Oper} {o : Oper} {a : Act} {w : World} {K : Act → World → Prop} {Q : Exit → Act → World → Prop} {E : Prop} (hgd : o.guard = none) (ty : TypeId) (x y : Operand) (ho : o.op = .store ty x y)
  (g : Nat) (cells : Array Value) (hx : a.eval x = .pointer (some ⟨g, 0, none⟩)) (hy : a.eval y = .agg cells)
  (t : TypeId) (old : Array Value) (hg : w.heap[g]? = some (.cells old t (0, 0))) (hi : (P.info? ty).map (·.size) = some cells.size)
  (hold : old.size = cells.size) (h1 : cells.all (·.oneCell') = true)
  (h : K (a.put o.dst undef) (w.setRow g cells)) : if Region.wanted o (yielded ops a.tmps) = true then Oper.wp P o a w K Q else E := by
 rw [if_pos (by simp [Region.wanted, hgd])]
 exact wp_store_row ty x y ho g cells hx hy t old hg hi hold h1 h
theorem infoR (T : Nat → Nat → Bool) : (Tryz.prog.info? 68).map (·.size) = some (relC .u32 T).size := by
 rw [relC_size]
 kernel_rfl
theorem undR : Tryz.prog.underlying 68 = some (.array 27 66) := by kernel_rfl
theorem undE : Tryz.prog.underlying 66 = some (.int .u32) := by kernel_rfl
theorem sizE (w : World) : (sizeOf 66).run Tryz.prog w = .ok 1 w := by kernel_rfl
theorem r_alloc {ops : Array Oper} {rest : List Oper} {o : Oper} {a : Act} {w : World} {Q : Exit → Act → World → Prop} (hg : o.guard = none) (ho : o.op = .alloc 68) (dst : Option Tmp) (hdst : o.dst = dst) (N : Nat) (hN : w.heap.size = N)
  (h : wpList Tryz.prog ops Q rest (a.put dst (.pointer (some ⟨N, 0, none⟩))) (w.alloc (.cells (relC .u32 noR) 68))) : wpList Tryz.prog ops Q (o :: rest) a w := by
 subst hN
 refine wpList_runTo hg dst hdst _ _ ?_ h
 simp [execOp, ho, Instr.alloc, Result.andThen, go_sem]
 kernel_rfl
theorem r_index (T : Nat → Nat → Bool) (k : Nat) (hk : k < 27) (w : World) : (Instr.index 68 (.agg (relC .u32 T)) (.int .i64 k)).run Tryz.prog w = .ok (.int .u32 (nb 27 (T k))) w := by
 simp [Instr.index, asIntOf, run_underlying undR, Go.part, isAgg, run_underlying undE, hk, relC_get _ T hk]
theorem r_eq (A B : Nat → Nat → Bool) (w : World) : (Op.equalIn 10000 68 (.agg (relC .u32 A)) (.agg (relC .u32 B))).run Tryz.prog w = .ok (relEq A B) w := run_equal_rel w _ _ _ A B undR undE sizE
theorem r_guard : Tryz.prog.eqGuardType Tryz.prog.depth 68 = false := by kernel_rfl
theorem r_load {w : World} {g : Nat} {T : Nat → Nat → Bool} (h : Blk w g (relC .u32 T) 68) : (loadVar 68 ⟨g, 0, none⟩).run Tryz.prog w = .ok (.agg (relC .u32 T)) w := run_loadVar_row w g _ _ _ _ _ h undR rfl (infoR T)
theorem infoM (T : Nat → Nat → Bool) : (Tryz.prog.info? 83).map (·.size) = some (relC .i64 T).size := by
 rw [relC_size]
 kernel_rfl
theorem undM : Tryz.prog.underlying 83 = some (.array 27 3) := by kernel_rfl
theorem m_alloc {ops : Array Oper} {rest : List Oper} {o : Oper} {a : Act} {w : World} {Q : Exit → Act → World → Prop} (hg : o.guard = none) (ho : o.op = .alloc 83) (dst : Option Tmp) (hdst : o.dst = dst) (N : Nat) (hN : w.heap.size = N)
  (h : wpList Tryz.prog ops Q rest (a.put dst (.pointer (some ⟨N, 0, none⟩))) (w.alloc (.cells (relC .i64 noR) 83))) : wpList Tryz.prog ops Q (o :: rest) a w := by
 subst hN
 refine wpList_runTo hg dst hdst _ _ ?_ h
 simp [execOp, ho, Instr.alloc, Result.andThen, go_sem]
 kernel_rfl
def Rel729 (s : ByteArray) : Prop := Bits 729 s.data.toList
theorem Rel729.size {s : ByteArray} (h : Rel729 s) : s.size = 729 := by have := h.1; simpa using this
theorem row_of {s : ByteArray} (h : Rel729 s) {k : Nat} (hk : k < 27) : Set27 (s.extract (27 * k) (27 * k + 27)) ∧ ∀ j, j < 27 → hs (s.extract (27 * k) (27 * k + 27)).data.toList j = relS s.data.toList k j := by
 have hl := h.1
 have e : (s.extract (27 * k) (27 * k + 27)).data.toList = (s.data.toList.drop (27 * k)).take 27 := by
  rw [ByteArray.data_extract, Array.toList_extract, List.extract_eq_take_drop]
  congr 1
  omega
 have g : ∀ j, j < 27 → ((s.data.toList.drop (27 * k)).take 27)[j]? = s.data.toList[27 * k + j]? := by
  intro j hj
  rw [List.getElem?_take, if_pos hj, List.getElem?_drop]
 refine ⟨⟨?_, ?_⟩, ?_⟩
 ·rw [e, List.length_take, List.length_drop]; omega
 ·intro j hj
  have hj2 : j < ((s.data.toList.drop (27 * k)).take 27).length := by rw [← e]; exact hj
  have hj27 : j < 27 := by rw [List.length_take] at hj2; omega
  have h1 := g j hj27
  rw [List.getElem?_eq_getElem hj2, List.getElem?_eq_getElem (show 27 * k + j < s.data.toList.length by omega)] at h1
  injection h1 with h1
  have h2 := h.2 (27 * k + j) (by omega)
  rw [← h1] at h2
  have e2 : (s.extract (27 * k) (27 * k + 27)).data.toList[j] = ((s.data.toList.drop (27 * k)).take 27)[j] := by simp only [e]
  rw [e2]; exact h2
 ·intro j hj
  unfold hs relS hs
  rw [e, g j hj]
theorem one_blk (w : World) (A : Array Value) (t : TypeId) : Blk (w.alloc (.cells A t)) w.heap.size A t ∧ Below w.heap.size w (w.alloc (.cells A t)) ∧ (w.alloc (.cells A t)).heap.size = w.heap.size + 1 :=
 ⟨Blk.new w A t, (Below.refl _ _).alloc (Nat.le_refl _) _, by simp⟩
theorem two_blk (w : World) (A B : Array Value) (t u : TypeId) : Blk ((w.alloc (.cells A t)).alloc (.cells B u)) w.heap.size A t ∧ Blk ((w.alloc (.cells A t)).alloc (.cells B u)) (w.heap.size + 1) B u ∧ Below w.heap.size w ((w.alloc (.cells A t)).alloc (.cells B u)) ∧ ((w.alloc (.cells A t)).alloc (.cells B u)).heap.size = w.heap.size + 2 := by
 have h1 := Blk.new (w.alloc (.cells A t)) B u
 rw [show (w.alloc (.cells A t)).heap.size = w.heap.size + 1 by simp] at h1
 exact ⟨(Blk.new w A t).alloc _, h1, ((Below.refl _ _).alloc (Nat.le_refl _) _).alloc (by simp) _, by simp⟩
theorem three_blk (w : World) (A B C : Array Value) (t u v : TypeId) : Blk (((w.alloc (.cells A t)).alloc (.cells B u)).alloc (.cells C v)) w.heap.size A t ∧ Blk (((w.alloc (.cells A t)).alloc (.cells B u)).alloc (.cells C v)) (w.heap.size + 1) B u ∧ Blk (((w.alloc (.cells A t)).alloc (.cells B u)).alloc (.cells C v)) (w.heap.size + 2) C v ∧ Below w.heap.size w (((w.alloc (.cells A t)).alloc (.cells B u)).alloc (.cells C v)) ∧ (((w.alloc (.cells A t)).alloc (.cells B u)).alloc (.cells C v)).heap.size = w.heap.size + 3 := by
 obtain ⟨h1, h2, h3, h4⟩ := two_blk w A B t u
 have h5 := Blk.new ((w.alloc (.cells A t)).alloc (.cells B u)) C v
 rw [h4] at h5
 exact ⟨h1.alloc _, h2.alloc _, h5, h3.alloc (by omega) _, by simp⟩
def RelPost (T : Nat → Nat → Bool) (w : World) (e : Ending) (w' : World) : Prop := e = .returned (.agg (relC .u32 T)) ∧ Below w.heap.size w w'
def ReadPost (T : Nat → Nat → Bool) (ok : Bool) (w : World) (e : Ending) (w' : World) : Prop := e = .returned (.tuple #[.agg (relC .u32 T), .bool ok]) ∧ Below w.heap.size w w'
theorem row_read {s : ByteArray} (hs : Rel729 s) {k : Nat} (hk : k < 27) (x : ByteArray) (hx : x = s.extract (27 * k) (27 * k + 27)) (w : World) : Calls Tryz.prog 122 #[.string x] w fun e w' => e = .returned (.tuple #[.int .u32 (nb 27 (relS s.data.toList k)), .bool true]) ∧ w = w' := by
 subst hx
 obtain ⟨h1, h2⟩ := row_of hs hk
 have := implRead_yes _ w h1
 rw [nb_congr h2] at this
 exact this
theorem rows_at (k : Nat) (hk : k < 27) : (0 : Int) ≤ 27 * (k : Int) ∧ 27 * (k : Int) ≤ 27 * ((k : Int) + 1) ∧ 27 * ((k : Int) + 1) ≤ 729 := by omega
set_option maxRecDepth 100000 in
set_option maxHeartbeats 4000000 in
theorem readRel_yes (s : ByteArray) (hs : Rel729 s) (w : World) : Calls Tryz.prog 76 #[.string s] w (ReadPost (relS s.data.toList) true w) := by
 have hz := hs.size
 obtain ⟨k0, k1, kb, kz⟩ := two_blk w (relC .u32 noR) (relC .u32 noR) 68 68
 have K0 := Lib.hid k0
 have K1 := Lib.hid k1
 have KB := Lib.hid kb
 have CR := fun k hk x hx w => Lib.hid (row_read hs (k := k) hk x hx w)
 clear k0 k1 kb kz hs
 go_enter Tryz.func76, Tryz.ntmps76
 go_wp2_with (first
  | (refine r_alloc rfl rfl (some 2) rfl w.heap.size rfl ?_)
  | (refine r_alloc rfl rfl (some 4) rfl (w.heap.size + 1) (by simp) ?_))
 generalize (w.alloc (.cells (relC .u32 noR) 68)).alloc (.cells (relC .u32 noR) 68) = w0 at *
 go_loopw [12] (fun i wr => ∃ k : Nat, k ≤ 27 ∧ i = .int .i64 k ∧ Hid (Blk wr (w.heap.size + 1) (relC .u32 (mixR k (relS s.data.toList) noR)) 68) ∧ Hid (Blk wr w.heap.size (relC .u32 noR) 68) ∧ Hid (Below w.heap.size w wr)) (fun i _ => 27 - (intOf i).toNat)
 case atStart => exact ⟨0, by omega, rfl, by rw [mixR_zero]; exact K1, K0, KB⟩
 case round =>
  clear K0 K1 KB
  obtain ⟨k, hk, rfl, R1, R0, RB⟩ := hrel
  by_cases hlt : k < 27
  ·obtain ⟨b1, b2, b3⟩ := rows_at k hlt
   have C := CR k hlt
   have c0 : wr.cell? ⟨w.heap.size + 1, k, none⟩ = some (.int .u32 (nb 27 (noR k))) := (R1.out.cell k).trans (mixR_at hlt)
   have c1 := R1.out.free k
   go_wp2_with fail
   refine (C _ (by rw [Nat.mul_succ]) _).out.mono ?_
   rintro e w2 ⟨rfl, rfl⟩
   go_wp2_with fail
   refine ⟨⟨k + 1, by omega, by go_num, ?_, Lib.hid (R0.out.setOther (p := ⟨w.heap.size + 1, k, none⟩) (by show w.heap.size ≠ w.heap.size + 1; omega) _), Lib.hid (RB.out.setCell (p := ⟨w.heap.size + 1, k, none⟩) (by show w.heap.size ≤ w.heap.size + 1; omega) _)⟩, by simp [intOf]; omega⟩
   have := R1.out.set k (.int .u32 (nb 27 (relS s.data.toList k)))
   rw [mixR_step hlt] at this
   exact this
  ·have hk2 : k = 27 := by omega
   subst hk2
   have R2 := R1.out
   rw [mixR_all] at R2
   replace R1 := Lib.hid R2
   clear R2
   go_wp2_with (first
    | (refine wpList_load_row rfl 68 _ rfl (w.heap.size + 1) (by rfl) 68 (relC .u32 (relS s.data.toList)) (0, 0) _ R1.out undR rfl (infoR _) ?_)
    | (refine wpList_store_row rfl 68 _ _ rfl w.heap.size (relC .u32 (relS s.data.toList)) (by rfl) (by rfl) 68 (relC .u32 noR) R0.out (infoR _) (by rw [relC_size, relC_size]) (relC_one _ _) ?_))
   exact bodyPost_ret (v := .tuple #[.agg (relC .u32 (relS s.data.toList)), .bool true]) (results_cs rfl _ _ w.heap.size 68 _ (0, 0) _ (by rfl) _ (by rfl) (R0.out.row _) undR rfl (infoR _)) rfl ⟨rfl, Below.setRow RB.out (Nat.le_refl _) _⟩
theorem row_hs {s : ByteArray} (hz : s.size = 729) {k : Nat} (hk : k < 27) : (s.extract (27 * k) (27 * k + 27)).data.toList.length = 27 ∧ ∀ j, j < 27 → (s.extract (27 * k) (27 * k + 27)).data.toList[j]? = s.data.toList[27 * k + j]? := by
 have hl : s.data.toList.length = 729 := by simpa using hz
 have e : (s.extract (27 * k) (27 * k + 27)).data.toList = (s.data.toList.drop (27 * k)).take 27 := by
  rw [ByteArray.data_extract, Array.toList_extract, List.extract_eq_take_drop]
  congr 1
  omega
 refine ⟨by rw [e, List.length_take, List.length_drop]; omega, fun j hj => ?_⟩
 rw [e, List.getElem?_take, if_pos hj, List.getElem?_drop]
theorem rel_of_rows {s : ByteArray} (hz : s.size = 729) (h : ∀ k, k < 27 → Set27 (s.extract (27 * k) (27 * k + 27))) : Rel729 s := by
 have hl : s.data.toList.length = 729 := by simpa using hz
 refine ⟨hl, fun i hi => ?_⟩
 have hk : i / 27 < 27 := by omega
 obtain ⟨h1, h2⟩ := row_hs hz hk
 have h3 := h2 (i % 27) (by omega)
 have e : 27 * (i / 27) + i % 27 = i := by omega
 rw [e, List.getElem?_eq_getElem hi] at h3
 have h4 : i % 27 < (s.extract (27 * (i / 27)) (27 * (i / 27) + 27)).data.toList.length := by omega
 rw [List.getElem?_eq_getElem h4] at h3
 injection h3 with h3
 have := (h _ hk).2 (i % 27) h4
 rw [h3] at this
 exact this
theorem row_read2 {s : ByteArray} (hz : s.size = 729) {k : Nat} (hk : k < 27) (hrow : Set27 (s.extract (27 * k) (27 * k + 27))) (x : ByteArray) (hx : x = s.extract (27 * k) (27 * k + 27)) (w : World) : Calls Tryz.prog 122 #[.string x] w fun e w' => e = .returned (.tuple #[.int .u32 (nb 27 (relS s.data.toList k)), .bool true]) ∧ w = w' := by
 subst hx
 have := implRead_yes _ w hrow
 rw [nb_congr (G := relS s.data.toList k) fun j hj => by unfold relS hs; rw [(row_hs hz hk).2 j hj]] at this
 exact this
theorem row_read3 {s : ByteArray} {k : Nat} (hs : ¬ Set27 (s.extract (27 * k) (27 * k + 27))) (x : ByteArray) (hx : x = s.extract (27 * k) (27 * k + 27)) (w : World) : Calls Tryz.prog 122 #[.string x] w fun e w' => e = .returned (.tuple #[.int .u32 0, .bool false]) ∧ w = w' := by
 subst hx
 exact implRead_no _ w hs
set_option maxRecDepth 100000 in
set_option maxHeartbeats 4000000 in
theorem readRel_no (s : ByteArray) (hs : ¬ Rel729 s) (w : World) : Calls Tryz.prog 76 #[.string s] w (ReadPost noR false w) := by
 by_cases hz : s.size = 729
 ·obtain ⟨k0, k1, kb, kz⟩ := two_blk w (relC .u32 noR) (relC .u32 noR) 68 68
  have K0 := Lib.hid k0
  have K1 := Lib.hid k1
  have KB := Lib.hid kb
  have HN := Lib.hid hs
  have HZ := Lib.hid hz
  clear k0 k1 kb kz hs
  go_enter Tryz.func76, Tryz.ntmps76
  go_wp2_with (first
   | (refine r_alloc rfl rfl (some 2) rfl w.heap.size rfl ?_)
   | (refine r_alloc rfl rfl (some 4) rfl (w.heap.size + 1) (by simp) ?_))
  generalize (w.alloc (.cells (relC .u32 noR) 68)).alloc (.cells (relC .u32 noR) 68) = w0 at *
  go_loopw [12] (fun i wr => ∃ k : Nat, k ≤ 27 ∧ i = .int .i64 k ∧ Hid (Blk wr (w.heap.size + 1) (relC .u32 (mixR k (relS s.data.toList) noR)) 68) ∧ Hid (Blk wr w.heap.size (relC .u32 noR) 68) ∧ Hid (Below w.heap.size w wr) ∧ Hid (∀ j, j < k → Set27 (s.extract (27 * j) (27 * j + 27)))) (fun i _ => 27 - (intOf i).toNat)
  case atStart => exact ⟨0, by omega, rfl, by rw [mixR_zero]; exact K1, K0, KB, fun j hj => by omega⟩
  case round =>
   clear K0 K1 KB
   obtain ⟨k, hk, rfl, R1, R0, RB, RS⟩ := hrel
   by_cases hlt : k < 27
   ·obtain ⟨b1, b2, b3⟩ := rows_at k hlt
    have c0 : wr.cell? ⟨w.heap.size + 1, k, none⟩ = some (.int .u32 (nb 27 (noR k))) := (R1.out.cell k).trans (mixR_at hlt)
    have c1 := R1.out.free k
    by_cases hrow : Set27 (s.extract (27 * k) (27 * k + 27))
    ·have C := fun x hx w => Lib.hid (row_read2 HZ.out hlt hrow x hx w)
     have RS' : Hid (∀ j, j < k + 1 → Set27 (s.extract (27 * j) (27 * j + 27))) := fun j hj => by
      rcases Nat.lt_succ_iff_lt_or_eq.1 hj with hj | hj
      ·exact RS.out j hj
      ·subst hj; exact hrow
     clear hrow
     go_wp2_with fail
     refine (C _ (by rw [Nat.mul_succ]) _).out.mono ?_
     rintro e w2 ⟨rfl, rfl⟩
     go_wp2_with fail
     refine ⟨⟨k + 1, by omega, by go_num, ?_, Lib.hid (R0.out.setOther (p := ⟨w.heap.size + 1, k, none⟩) (by show w.heap.size ≠ w.heap.size + 1; omega) _), Lib.hid (RB.out.setCell (p := ⟨w.heap.size + 1, k, none⟩) (by show w.heap.size ≤ w.heap.size + 1; omega) _), RS'⟩, by simp [intOf]; omega⟩
     have := R1.out.set k (.int .u32 (nb 27 (relS s.data.toList k)))
     rw [mixR_step hlt] at this
     exact this
    ·have C := fun x hx w => Lib.hid (row_read3 hrow x hx w)
     clear hrow
     go_wp2_with fail
     refine (C _ (by rw [Nat.mul_succ]) _).out.mono ?_
     rintro e w2 ⟨rfl, rfl⟩
     go_wp2_with (first
      | (refine wpList_buildTo rfl 68 _ rfl _ rfl (relC .u32 noR) (by kernel_rfl) ?_)
      | (refine wpList_store_row rfl 68 _ _ rfl w.heap.size (relC .u32 noR) (by rfl) (by rfl) 68 (relC .u32 noR) R0.out (infoR _) (by rw [relC_size]) (relC_one _ _) ?_))
     exact bodyPost_ret (v := .tuple #[.agg (relC .u32 noR), .bool false]) (results_cs rfl _ _ w.heap.size 68 _ (0, 0) _ (by rfl) _ (by rfl) (R0.out.row _) undR rfl (infoR _)) rfl ⟨rfl, Below.setRow RB.out (Nat.le_refl _) _⟩
   ·exact absurd (rel_of_rows HZ.out fun j hj => RS.out j (by omega)) HN.out
 ·have hn : ((s.size : Int) != 729) = true := by rw [bne_iff_ne]; omega
  have hn2 : ((s.size : Int) == 729) = false := by rw [beq_eq_false_iff_ne]; omega
  obtain ⟨k0, kb, kz⟩ := one_blk w (relC .u32 noR) 68
  have K0 := Lib.hid k0
  have KB := Lib.hid kb
  clear k0 kb kz hs hz
  go_enter Tryz.func76, Tryz.ntmps76
  go_wp2_with (first
   | (refine r_alloc rfl rfl (some 2) rfl w.heap.size rfl ?_)
   | (refine wpList_buildTo rfl 68 _ rfl _ rfl (relC .u32 noR) (by kernel_rfl) ?_)
   | (refine wpList_store_row rfl 68 _ _ rfl w.heap.size (relC .u32 noR) (by rfl) (by rfl) 68 (relC .u32 noR) K0.out (infoR _) (by rw [relC_size]) (relC_one _ _) ?_))
  exact bodyPost_ret (v := .tuple #[.agg (relC .u32 noR), .bool false]) (results_cs rfl _ _ w.heap.size 68 _ (0, 0) _ (by rfl) _ (by rfl) (K0.out.row _) undR rfl (infoR _)) rfl ⟨rfl, Below.setRow KB.out (Nat.le_refl _) _⟩
def ReadsPost (A B : Nat → Nat → Bool) (ok : Bool) (w : World) (e : Ending) (w' : World) : Prop := e = .returned (.tuple #[.agg (relC .u32 A), .agg (relC .u32 B), .bool ok]) ∧ Below w.heap.size w w'
theorem push_blk (w : World) (A B : Array Value) (t : TypeId) : Blk ((w.alloc (.cells A t)).setRow w.heap.size B) w.heap.size B t ∧ Below w.heap.size w ((w.alloc (.cells A t)).setRow w.heap.size B) := by
 obtain ⟨h1, h2, _⟩ := one_blk w A t
 exact ⟨h1.row B, Below.setRow h2 (Nat.le_refl _) B⟩
set_option maxRecDepth 100000 in
set_option maxHeartbeats 4000000 in
theorem readRels_of (s q : ByteArray) (A B : Nat → Nat → Bool) (a b : Bool) (c1 : ∀ w, Calls Tryz.prog 76 #[.string s] w (ReadPost A a w)) (c2 : ∀ w, Calls Tryz.prog 76 #[.string q] w (ReadPost B b w)) (w : World) :
  Calls Tryz.prog 90 #[.string s, .string q] w (ReadsPost (if a && b then A else noR) (if a && b then B else noR) (a && b) w) := by
 have C1 := Lib.hid c1
 have C2 := Lib.hid c2
 obtain ⟨k0, k1, kb, kz⟩ := two_blk w (relC .u32 noR) (relC .u32 noR) 68 68
 have K0 := Lib.hid k0
 have K1 := Lib.hid k1
 have KB := Lib.hid kb
 clear k0 k1 kb kz c1 c2
 go_enter Tryz.func90, Tryz.ntmps90
 go_wp2_with (first
  | (refine r_alloc rfl rfl (some 4) rfl w.heap.size rfl ?_)
  | (refine r_alloc rfl rfl (some 5) rfl (w.heap.size + 1) (by simp) ?_))
 generalize (w.alloc (.cells (relC .u32 noR) 68)).alloc (.cells (relC .u32 noR) 68) = w0 at *
 refine (C1.out _).mono ?_
 rintro e w1 ⟨rfl, hb⟩
 replace K0 := Lib.hid (K0.out.kept hb)
 replace K1 := Lib.hid (K1.out.kept hb)
 replace KB := Lib.hid (bnext KB.out hb)
 clear hb
 obtain ⟨p0, pb⟩ := push_blk w1 (relC .u32 noR) (relC .u32 A) 68
 have P0 := Lib.hid p0
 have PB := Lib.hid pb
 have L0 := Lib.hid (one_blk w1 (relC .u32 noR) 68).1
 clear p0 pb
 go_wp2_with (first
  | (refine r_alloc rfl rfl (some 7) rfl w1.heap.size rfl ?_)
  | (refine wpList_store_row rfl 68 _ _ rfl w1.heap.size (relC .u32 A) (by rfl) (by rfl) 68 (relC .u32 noR) L0.out (infoR _) (by rw [relC_size, relC_size]) (relC_one _ _) ?_))
 replace K0 := Lib.hid (K0.out.kept PB.out)
 replace K1 := Lib.hid (K1.out.kept PB.out)
 replace KB := Lib.hid (bnext KB.out PB.out)
 clear L0 PB
 generalize (w1.alloc (.cells (relC .u32 noR) 68)).setRow w1.heap.size (relC .u32 A) = w2 at *
 obtain ⟨n1, hn1⟩ : ∃ n1, w1.heap.size = n1 := ⟨_, rfl⟩
 rw [hn1] at P0 ⊢
 refine (C2.out _).mono ?_
 rintro e w3 ⟨rfl, hb⟩
 replace K0 := Lib.hid (K0.out.kept hb)
 replace K1 := Lib.hid (K1.out.kept hb)
 replace P0 := Lib.hid (P0.out.kept hb)
 replace KB := Lib.hid (bnext KB.out hb)
 clear hb hn1
 have HNE0 : Hid (w3.heap.size ≠ w.heap.size) := by have := K0.out.lt; exact fun e => by omega
 obtain ⟨q0, qb⟩ := push_blk w3 (relC .u32 noR) (relC .u32 B) 68
 have Q0 := Lib.hid q0
 have QB := Lib.hid qb
 have L0 := Lib.hid (one_blk w3 (relC .u32 noR) 68).1
 clear q0 qb
 replace K0 := Lib.hid (K0.out.kept QB.out)
 replace K1 := Lib.hid (K1.out.kept QB.out)
 replace P0 := Lib.hid (P0.out.kept QB.out)
 replace KB := Lib.hid (bnext KB.out QB.out)
 cases a <;> cases b
 case true.true =>
  go_wp2_with (first
   | (refine r_alloc rfl rfl (some 9) rfl w3.heap.size rfl ?_)
   | (refine wpList_store_row rfl 68 _ _ rfl w3.heap.size (relC .u32 B) (by rfl) (by rfl) 68 (relC .u32 noR) L0.out (infoR _) (by rw [relC_size, relC_size]) (relC_one _ _) ?_))
  generalize (w3.alloc (.cells (relC .u32 noR) 68)).setRow w3.heap.size (relC .u32 B) = w4 at *
  have HNE : Hid (w3.heap.size ≠ w.heap.size) := by have := HNE0.out; exact this
  obtain ⟨n3, hn3⟩ : ∃ n3, w3.heap.size = n3 := ⟨_, rfl⟩
  rw [hn3] at HNE
  rw [hn3] at Q0 ⊢
  clear L0 QB hn3
  replace K0 := Lib.hid K0.out.drew
  replace K1 := Lib.hid K1.out.drew
  replace P0 := Lib.hid P0.out.drew
  replace Q0 := Lib.hid Q0.out.drew
  replace KB := Lib.hid KB.out.drew
  refine wp_region_any (by kernel_rfl) ?_
  change wpAny _ _ _ _ _ _ _ (World.drew _)
  generalize w4.drew = wd at *
  refine wpAny_ready (rs := [0, 1]) (by kernel_rfl) (by simp) ?_
  refine AllReady.cons rfl (fun K hK => ?_) (AllReady.cons rfl (fun K hK => ?_) AllReady.nil)
  ·refine step_load_row rfl 68 _ rfl n1 (by rfl) 68 (relC .u32 A) (0, 0) _ P0.out undR rfl (infoR _) ?_
   refine hK _ _ ?_; clear hK K
   refine wpAny_ready (rs := [1, 2]) (by kernel_rfl) (by simp) ?_
   refine AllReady.cons rfl (fun K hK => ?_) (AllReady.cons rfl (fun K hK => ?_) AllReady.nil)
   ·refine step_load_row rfl 68 _ rfl n3 (by rfl) 68 (relC .u32 B) (0, 0) _ Q0.out undR rfl (infoR _) ?_
    refine hK _ _ ?_; clear hK K
    refine wpAny_ready (rs := [2]) (by kernel_rfl) (by simp) ?_
    refine AllReady.cons rfl (fun K hK => ?_) AllReady.nil
    refine step_store_row rfl 68 _ _ rfl w.heap.size (relC .u32 A) (by rfl) (by rfl) 68 (relC .u32 noR) K0.out (infoR _) (by rw [relC_size, relC_size]) (relC_one _ _) ?_
    refine hK _ _ ?_; clear hK K
    refine wpAny_ready (rs := [3]) (by kernel_rfl) (by simp) ?_
    refine AllReady.cons rfl (fun K hK => ?_) AllReady.nil
    refine step_store_row rfl 68 _ _ rfl (w.heap.size + 1) (relC .u32 B) (by rfl) (by rfl) 68 (relC .u32 noR) (K1.out.rowOther (by omega) _) (infoR _) (by rw [relC_size, relC_size]) (relC_one _ _) ?_
    refine hK _ _ ?_; clear hK K
    refine wpAny_ready (rs := [4]) (by kernel_rfl) (by simp) ?_
    refine AllReady.cons rfl (fun K hK => ?_) AllReady.nil
    go_simp
    refine hK _ _ ?_; clear hK K
    refine wpAny_done (by kernel_rfl) ?_ _
    go_wp2_with fail
    exact bodyPost_ret (v := .tuple #[.agg (relC .u32 A), .agg (relC .u32 B), .bool true]) (results_ccs rfl _ _ w.heap.size (w.heap.size + 1) 68 68 _ _ (0, 0) (0, 0) _ (by rfl) (by rfl) _ (by rfl) ((K0.out.row _).rowOther (by omega) _) ((K1.out.rowOther (by omega) _).row _) undR rfl (infoR _) (infoR _)) rfl ⟨rfl, Below.setRow (Below.setRow KB.out (Nat.le_refl _) _) (by omega) _⟩
   ·refine step_store_row rfl 68 _ _ rfl w.heap.size (relC .u32 A) (by rfl) (by rfl) 68 (relC .u32 noR) K0.out (infoR _) (by rw [relC_size, relC_size]) (relC_one _ _) ?_
    refine hK _ _ ?_; clear hK K
    refine wpAny_ready (rs := [1]) (by kernel_rfl) (by simp) ?_
    refine AllReady.cons rfl (fun K hK => ?_) AllReady.nil
    refine step_load_row rfl 68 _ rfl n3 (by rfl) 68 (relC .u32 B) (0, 0) _ (Q0.out.rowOther HNE.out _) undR rfl (infoR _) ?_
    refine hK _ _ ?_; clear hK K
    refine wpAny_ready (rs := [3]) (by kernel_rfl) (by simp) ?_
    refine AllReady.cons rfl (fun K hK => ?_) AllReady.nil
    refine step_store_row rfl 68 _ _ rfl (w.heap.size + 1) (relC .u32 B) (by rfl) (by rfl) 68 (relC .u32 noR) (K1.out.rowOther (by omega) _) (infoR _) (by rw [relC_size, relC_size]) (relC_one _ _) ?_
    refine hK _ _ ?_; clear hK K
    refine wpAny_ready (rs := [4]) (by kernel_rfl) (by simp) ?_
    refine AllReady.cons rfl (fun K hK => ?_) AllReady.nil
    go_simp
    refine hK _ _ ?_; clear hK K
    refine wpAny_done (by kernel_rfl) ?_ _
    go_wp2_with fail
    exact bodyPost_ret (v := .tuple #[.agg (relC .u32 A), .agg (relC .u32 B), .bool true]) (results_ccs rfl _ _ w.heap.size (w.heap.size + 1) 68 68 _ _ (0, 0) (0, 0) _ (by rfl) (by rfl) _ (by rfl) ((K0.out.row _).rowOther (by omega) _) ((K1.out.rowOther (by omega) _).row _) undR rfl (infoR _) (infoR _)) rfl ⟨rfl, Below.setRow (Below.setRow KB.out (Nat.le_refl _) _) (by omega) _⟩
  ·refine step_load_row rfl 68 _ rfl n3 (by rfl) 68 (relC .u32 B) (0, 0) _ Q0.out undR rfl (infoR _) ?_
   refine hK _ _ ?_; clear hK K
   refine wpAny_ready (rs := [0]) (by kernel_rfl) (by simp) ?_
   refine AllReady.cons rfl (fun K hK => ?_) AllReady.nil
   refine step_load_row rfl 68 _ rfl n1 (by rfl) 68 (relC .u32 A) (0, 0) _ P0.out undR rfl (infoR _) ?_
   refine hK _ _ ?_; clear hK K
   refine wpAny_ready (rs := [2]) (by kernel_rfl) (by simp) ?_
   refine AllReady.cons rfl (fun K hK => ?_) AllReady.nil
   refine step_store_row rfl 68 _ _ rfl w.heap.size (relC .u32 A) (by rfl) (by rfl) 68 (relC .u32 noR) K0.out (infoR _) (by rw [relC_size, relC_size]) (relC_one _ _) ?_
   refine hK _ _ ?_; clear hK K
   refine wpAny_ready (rs := [3]) (by kernel_rfl) (by simp) ?_
   refine AllReady.cons rfl (fun K hK => ?_) AllReady.nil
   refine step_store_row rfl 68 _ _ rfl (w.heap.size + 1) (relC .u32 B) (by rfl) (by rfl) 68 (relC .u32 noR) (K1.out.rowOther (by omega) _) (infoR _) (by rw [relC_size, relC_size]) (relC_one _ _) ?_
   refine hK _ _ ?_; clear hK K
   refine wpAny_ready (rs := [4]) (by kernel_rfl) (by simp) ?_
   refine AllReady.cons rfl (fun K hK => ?_) AllReady.nil
   go_simp
   refine hK _ _ ?_; clear hK K
   refine wpAny_done (by kernel_rfl) ?_ _
   go_wp2_with fail
   exact bodyPost_ret (v := .tuple #[.agg (relC .u32 A), .agg (relC .u32 B), .bool true]) (results_ccs rfl _ _ w.heap.size (w.heap.size + 1) 68 68 _ _ (0, 0) (0, 0) _ (by rfl) (by rfl) _ (by rfl) ((K0.out.row _).rowOther (by omega) _) ((K1.out.rowOther (by omega) _).row _) undR rfl (infoR _) (infoR _)) rfl ⟨rfl, Below.setRow (Below.setRow KB.out (Nat.le_refl _) _) (by omega) _⟩
 all_goals
  go_wp2_with (first
   | (refine r_alloc rfl rfl (some 9) rfl w3.heap.size rfl ?_)
   | (refine wpList_store_row rfl 68 _ _ rfl w3.heap.size (relC .u32 B) (by rfl) (by rfl) 68 (relC .u32 noR) L0.out (infoR _) (by rw [relC_size, relC_size]) (relC_one _ _) ?_)
   | (refine wpList_buildTo rfl 68 _ rfl _ rfl (relC .u32 noR) (by kernel_rfl) ?_)
   | (refine wpList_store_row rfl 68 _ _ rfl w.heap.size (relC .u32 noR) (by rfl) (by rfl) 68 (relC .u32 noR) K0.out (infoR _) (by rw [relC_size]) (relC_one _ _) ?_)
   | (refine wpList_store_row rfl 68 _ _ rfl (w.heap.size + 1) (relC .u32 noR) (by rfl) (by rfl) 68 (relC .u32 noR) (K1.out.rowOther (by omega) _) (infoR _) (by rw [relC_size]) (relC_one _ _) ?_))
  exact bodyPost_ret (v := .tuple #[.agg (relC .u32 noR), .agg (relC .u32 noR), .bool false]) (results_ccs rfl _ _ w.heap.size (w.heap.size + 1) 68 68 _ _ (0, 0) (0, 0) _ (by rfl) (by rfl) _ (by rfl) ((K0.out.row _).rowOther (by omega) _) ((K1.out.rowOther (by omega) _).row _) undR rfl (infoR _) (infoR _)) rfl ⟨rfl, Below.setRow (Below.setRow KB.out (Nat.le_refl _) _) (by omega) _⟩
theorem readRels_yes (s q : ByteArray) (hs : Rel729 s) (hq : Rel729 q) (w : World) : Calls Tryz.prog 90 #[.string s, .string q] w (ReadsPost (relS s.data.toList) (relS q.data.toList) true w) :=
 readRels_of s q _ _ true true (readRel_yes s hs) (readRel_yes q hq) w
end Go.Proofs.YtgkoljphndgoeaaGreatDoor
