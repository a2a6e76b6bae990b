/-
  A relation in memory: 27 sets in an array; its text; when two of them are the same.
-/
import Derived.Test.YtinillnccfgooaaDoorSetW
import Derived.Laws.Rows
import Derived.Laws.Tables
import Derived.Laws.StructEq
import Derived.Great.Walk
import Derived.Great.BuildSlice
namespace Go.Proofs.YtinillnccfgooaaDoor
open Go.RowKit Go.Great

def relC (k : IntKind) (T : Nat → Nat → Bool) : Array Value := ((List.range 27).map (fun i => Value.int k (nb 27 (T i)))).toArray
theorem relC_size (k : IntKind) (T : Nat → Nat → Bool) : (relC k T).size = 27 := by simp [relC]
theorem relC_get (k : IntKind) (T : Nat → Nat → Bool) {i : Nat} (h : i < 27) : (relC k T)[i]? = some (.int k (nb 27 (T i))) := by
  unfold relC
  simp [h]
theorem relC_congr {k : IntKind} {T T' : Nat → Nat → Bool} (h : ∀ i, i < 27 → ∀ j, j < 27 → T i j = T' i j) : relC k T = relC k T' := by
  unfold relC
  congr 1
  apply List.map_congr_left
  intro i hi
  rw [nb_congr (h i (by simpa using hi))]
theorem relC_one (k : IntKind) (T : Nat → Nat → Bool) : (relC k T).all (·.oneCell') = true := by
  rw [Array.all_eq_true_iff_forall_mem]
  intro v hv
  simp [relC] at hv
  rcases hv with ⟨i, _, rfl⟩
  rfl
def setR (T : Nat → Nat → Bool) (k : Nat) (F : Nat → Bool) : Nat → Nat → Bool := fun i => if i = k then F else T i
theorem relC_set {K : IntKind} {T : Nat → Nat → Bool} {k : Nat} {F : Nat → Bool} (hk : k < 27) : (relC K T).setIfInBounds k (.int K (nb 27 F)) = relC K (setR T k F) := by
  apply Array.ext_getElem?
  intro i
  rw [Array.getElem?_setIfInBounds]
  by_cases e : k = i
  · subst e
    rw [if_pos rfl, relC_get _ _ hk, if_pos (by rw [relC_size]; omega)]
    simp [setR]
  · rw [if_neg e]
    by_cases h : i < 27
    · rw [relC_get _ _ h, relC_get _ _ h]
      have : ¬ i = k := fun h => e h.symm
      simp [setR, this]
    · rw [Array.getElem?_eq_none (by rw [relC_size]; omega), Array.getElem?_eq_none (by rw [relC_size]; omega)]
def noR : Nat → Nat → Bool := fun _ _ => false
/-- The first k rows of one relation, the others of another one. -/
def mixR (k : Nat) (A B : Nat → Nat → Bool) : Nat → Nat → Bool := fun i j => if i < k then A i j else B i j
theorem mixR_zero {K : IntKind} {A B : Nat → Nat → Bool} : relC K (mixR 0 A B) = relC K B := relC_congr fun i _ j _ => by simp [mixR]
theorem mixR_all {K : IntKind} {A B : Nat → Nat → Bool} : relC K (mixR 27 A B) = relC K A := relC_congr fun i hi j _ => by simp [mixR, hi]
theorem mixR_step {K : IntKind} {A B : Nat → Nat → Bool} {k : Nat} (hk : k < 27) : (relC K (mixR k A B)).setIfInBounds k (.int K (nb 27 (A k))) = relC K (mixR (k + 1) A B) := by
  rw [relC_set hk]
  refine relC_congr fun i _ j _ => ?_
  unfold setR mixR
  by_cases e : i = k
  · subst e; simp
  · rw [if_neg e]
    by_cases h : i < k
    · have h2 : i < k + 1 := by omega
      simp [h, h2]
    · have h2 : ¬ i < k + 1 := by omega
      simp [h, h2]
theorem mixR_at {K : IntKind} {A B : Nat → Nat → Bool} {k : Nat} (hk : k < 27) : (relC K (mixR k A B))[k]? = some (.int K (nb 27 (B k))) := by
  rw [relC_get _ _ hk, nb_congr (F := mixR k A B k) (G := B k) fun j _ => by simp [mixR]]

/-- Are two relations the same? -/
def relEq (A B : Nat → Nat → Bool) : Bool := (List.range 27).all fun i => nb 27 (A i) == nb 27 (B i)
theorem relEq_iff {A B : Nat → Nat → Bool} : relEq A B = true ↔ ∀ i, i < 27 → ∀ j, j < 27 → A i j = B i j := by
  unfold relEq
  rw [List.all_eq_true]
  constructor
  · intro h i hi j hj
    have := h i (by simpa using hi)
    exact nb_inj (eq_of_beq this) j hj
  · intro h i hi
    have := nb_congr (h i (by simpa using hi))
    simpa using this
theorem run_equal_rel {P : Program} (w : World) (t e : TypeId) (k : IntKind) (A B : Nat → Nat → Bool) (ht : P.underlying t = some (.array 27 e)) (he : P.underlying e = some (.int k)) (hsz : ∀ w, (sizeOf e).run P w = .ok 1 w) :
    (Op.equalIn 10000 t (.agg (relC k A)) (.agg (relC k B))).run P w = .ok (relEq A B) w := by
  show (Op.equalIn (9998 + 2) t _ _).run P w = _
  rw [relEq, List.range_eq_range', Op.equalIn]
  simp only [Sem.run_bind, run_underlying ht, Result.andThen_ok, hsz, Std.Legacy.Range.forIn_eq_forIn_range', Std.Legacy.Range.size, Nat.sub_zero, Nat.add_sub_cancel, Nat.div_one]
  have hl : ∀ i ∈ List.range' 0 27 1, i < 27 := fun i hi => by simpa using (List.mem_range'_1.1 hi).2
  generalize List.range' 0 27 1 = l at hl ⊢
  induction l with
  | nil => simp
  | cons i l ih =>
    have hi : i < 27 := hl i (by simp)
    have px : (Go.part e (relC k A) (i * 1)).run P w = .ok (.int k (nb 27 (A i))) w := by
      simp [Go.part, isAgg, run_underlying he, relC_get k A hi]
    have py : (Go.part e (relC k B) (i * 1)).run P w = .ok (.int k (nb 27 (B i))) w := by
      simp [Go.part, isAgg, run_underlying he, relC_get k B hi]
    have pe : (Op.equalIn (9998 + 1) e (.int k (nb 27 (A i))) (.int k (nb 27 (B i)))).run P w = .ok (nb 27 (A i) == nb 27 (B i)) w := by
      rw [run_equalIn_int w 9998 e k k _ _ he]
      congr 1
      rw [Bool.eq_iff_iff, beq_iff_eq, beq_iff_eq]
      omega
    simp only [List.forIn_cons, Sem.run_bind, px, py, pe, Result.andThen_ok, List.all_cons]
    cases hb : (nb 27 (A i) == nb 27 (B i))
    · simp
    · simp only [Bool.not_true, Bool.false_eq_true, if_false, Sem.run_pure, Result.andThen_ok, Bool.true_and]
      exact ih fun j hj => hl j (by simp [hj])

/-- The relation of a text of 729 bits. -/
def relS (l : List UInt8) : Nat → Nat → Bool := fun i j => hs l (27 * i + j)
/-- The text of the first k rows. -/
def rowsT (T : Nat → Nat → Bool) : Nat → List UInt8
  | 0 => []
  | k + 1 => rowsT T k ++ tb (T k)
theorem rowsT_len (T : Nat → Nat → Bool) (k : Nat) : (rowsT T k).length = 27 * k := by
  induction k with
  | zero => rfl
  | succ k ih => simp only [rowsT, List.length_append, ih, tb, tbn_length]; omega
theorem rowsT_eq (T : Nat → Nat → Bool) (k : Nat) : rowsT T k = tbn (27 * k) fun m => T (m / 27) (m % 27) := by
  induction k with
  | zero => rfl
  | succ k ih =>
    apply List.ext_getElem?
    intro m
    unfold rowsT
    by_cases h : m < 27 * k
    · rw [List.getElem?_append_left (by rw [rowsT_len]; exact h), ih, tbn_get _ _ _ h, tbn_get _ _ _ (by omega)]
    · rw [List.getElem?_append_right (by rw [rowsT_len]; omega), rowsT_len]
      by_cases h2 : m < 27 * (k + 1)
      · rw [tb, tbn_get _ _ _ (by omega), tbn_get _ _ _ h2]
        have e1 : m / 27 = k := by omega
        have e2 : m % 27 = m - 27 * k := by omega
        rw [e1, e2]
      · rw [tb, List.getElem?_eq_none (by rw [tbn_length]; omega), List.getElem?_eq_none (by rw [tbn_length]; omega)]
/-- The text of a relation. -/
def relT (T : Nat → Nat → Bool) : List UInt8 := rowsT T 27
theorem relT_eq (T : Nat → Nat → Bool) : relT T = tbn 729 fun m => T (m / 27) (m % 27) := rowsT_eq T 27
theorem relT_congr {T T' : Nat → Nat → Bool} (h : ∀ i, i < 27 → ∀ j, j < 27 → T i j = T' i j) : relT T = relT T' := by
  rw [relT_eq, relT_eq]
  refine tbn_congr fun m hm => ?_
  exact h _ (by omega) _ (by omega)
theorem relT_of {l : List UInt8} (f : Bool → Bool) : tbn 729 (fun m => f (hs l m)) = relT (fun i j => f (relS l i j)) := by
  rw [relT_eq]
  refine tbn_congr fun m hm => ?_
  have e : 27 * (m / 27) + m % 27 = m := by omega
  simp only [relS, e]
theorem relT_of2 {l l' : List UInt8} (f : Bool → Bool → Bool) : tbn 729 (fun m => f (hs l m) (hs l' m)) = relT (fun i j => f (relS l i j) (relS l' i j)) := by
  rw [relT_eq]
  refine tbn_congr fun m hm => ?_
  have e : 27 * (m / 27) + m % 27 = m := by omega
  simp only [relS, e]
end Go.Proofs.YtinillnccfgooaaDoor
