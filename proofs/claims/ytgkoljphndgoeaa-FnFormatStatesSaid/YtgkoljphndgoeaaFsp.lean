/-
  The text of a set of states: the states in order, with spaces between them.
-/
import Derived.Test.YtgkoljphndgoeaaParseSt
import Derived.Test.YtgkoljphndgoeaaSetP
import Derived.Lib.Join
namespace Go.Proofs.Ytgkoljphndgoeaa
open Go.RowKit

/-- The numbers below n that are in a set, in order. -/
def fsI (F : Nat → Bool) : Nat → List Nat
  | 0 => []
  | n + 1 => if F n then fsI F n ++ [n] else fsI F n
def jnS (xs : List ByteArray) : ByteArray := ⟨(Lib.join (xs.map (·.data.toList)) [32]).toArray⟩
def txL (l : List Nat) : List ByteArray := l.map fun k => txtAt (k : Nat)
/-- What FormatStates gives. -/
def fsT (F : Nat → Bool) : ByteArray := if fsI F 27 = [] then ⟨#[45]⟩ else jnS (txL (fsI F 27))
theorem fsI_len (F : Nat → Bool) (n : Nat) : (fsI F n).length ≤ n := by
  induction n with
  | zero => exact Nat.le_refl _
  | succ n ih =>
    unfold fsI
    split
    · rw [List.length_append, List.length_singleton]; omega
    · omega
theorem fsI_lt (F : Nat → Bool) (n : Nat) : ∀ k ∈ fsI F n, k < n := by
  induction n with
  | zero => intro k h; cases h
  | succ n ih =>
    intro k h
    unfold fsI at h
    split at h
    · rcases List.mem_append.1 h with h | h
      · have := ih k h; omega
      · have := List.mem_singleton.1 h; omega
    · have := ih k h; omega
theorem fsI_nil {F : Nat → Bool} {n : Nat} : fsI F n = [] ↔ ∀ i, i < n → F i = false := by
  induction n with
  | zero => exact ⟨fun _ i h => absurd h (Nat.not_lt_zero i), fun _ => rfl⟩
  | succ n ih =>
    unfold fsI
    constructor
    · intro h i hi
      split at h
      · exact absurd h (by simp)
      · rename_i hn
        by_cases e : i = n
        · subst e; simpa using hn
        · exact ih.1 h i (by omega)
    · intro h
      rw [if_neg (by rw [h n (by omega)]; simp)]
      exact ih.2 fun i hi => h i (by omega)
theorem jnS_nil : jnS [] = ⟨#[]⟩ := rfl
theorem jnS_one (x : ByteArray) : jnS [x] = x := by
  unfold jnS
  rw [List.map_cons, List.map_nil, Lib.join_one]
theorem jnS_snoc {xs : List ByteArray} (x : ByteArray) (h : xs ≠ []) : jnS (xs ++ [x]) = (jnS xs ++ ⟨#[32]⟩) ++ x := by
  cases xs with
  | nil => exact absurd rfl h
  | cons a r =>
    apply ByteArray.ext
    unfold jnS
    rw [ByteArray.data_append, ByteArray.data_append, List.cons_append, List.map_cons, List.map_cons, Lib.join_cons, Lib.join_cons, List.map_append]
    apply Array.ext'
    simp [Lib.joinTail, List.append_assoc]
theorem txL_snoc (l : List Nat) (k : Nat) : txL (l ++ [k]) = txL l ++ [txtAt (k : Nat)] := by simp [txL]
theorem txL_nil {l : List Nat} : txL l = [] ↔ l = [] := by simp [txL]
theorem txtAt_size (k : Int) : (txtAt k).size = 3 := by unfold txtAt txt3; rw [bs_size]; rfl
def chk (k : Nat) : List UInt8 := 32 :: (txtAt (k : Nat)).data.toList
theorem txt_len (k : Nat) : (txtAt (k : Nat)).data.toList.length = 3 := by
  have := txtAt_size (k : Nat)
  simpa using this
theorem chk_len (k : Nat) : (chk k).length = 4 := by unfold chk; rw [List.length_cons, txt_len]
theorem chunk_len (l : List Nat) : ((l.map chk).flatten).length = 4 * l.length := by
  induction l with
  | nil => rfl
  | cons a l ih => rw [List.map_cons, List.flatten_cons, List.length_append, chk_len, ih, List.length_cons]; omega
theorem jn_chunks {l : List Nat} (h : l ≠ []) : 32 :: (jnS (txL l)).data.toList = (l.map chk).flatten := by
  cases l with
  | nil => exact absurd rfl h
  | cons a r =>
    unfold jnS txL
    rw [List.map_cons, List.map_cons, Lib.join_cons, List.map_cons, List.flatten_cons]
    simp [chk, Lib.joinTail, List.map_map, Function.comp_def]
    rfl
theorem jn_size {l : List Nat} (h : l ≠ []) : (jnS (txL l)).size + 1 = 4 * l.length := by
  have e := congrArg List.length (jn_chunks h)
  rw [List.length_cons, chunk_len] at e
  have : (jnS (txL l)).data.toList.length = (jnS (txL l)).size := by simp
  omega
theorem jnS_size (l : List Nat) : (jnS (txL l)).size ≤ 4 * l.length := by
  by_cases h : l = []
  · subst h; exact Nat.le_refl _
  · have := jn_size h; omega
theorem jnS_pos {l : List Nat} (h : l ≠ []) : 0 < (jnS (txL l)).size := by
  have := jn_size h
  have : 0 < l.length := List.length_pos_iff.2 h
  omega
end Go.Proofs.Ytgkoljphndgoeaa
