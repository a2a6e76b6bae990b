/-
  Where the states stand in the text of a set, and in what order.
-/
import Derived.Test.YtgkoljphndgoeaaFsp
namespace Go.Proofs.Ytgkoljphndgoeaa
open Go.RowKit

theorem fsI_cnt (F : Nat → Bool) (n : Nat) : (fsI F n).length = cnt n F := by
  induction n with
  | zero => rfl
  | succ n ih =>
    unfold fsI cnt
    cases h : F n
    · rw [if_neg (by simp), if_neg (by simp), ih]
      rfl
    · rw [if_pos rfl, if_pos rfl, List.length_append, ih]
      rfl
theorem fsI_in (F : Nat → Bool) (n : Nat) : ∀ k ∈ fsI F n, F k = true := by
  induction n with
  | zero => intro k h; cases h
  | succ n ih =>
    intro k h
    unfold fsI at h
    by_cases hn : F n = true
    · rw [if_pos hn] at h
      rcases List.mem_append.1 h with h | h
      · exact ih k h
      · rw [List.mem_singleton.1 h]; exact hn
    · rw [if_neg hn] at h
      exact ih k h
theorem fsI_sorted (F : Nat → Bool) (n : Nat) : ∀ i a b, (fsI F n)[i]? = some a → (fsI F n)[i + 1]? = some b → a < b := by
  induction n with
  | zero => intro i a b h; simp [fsI] at h
  | succ n ih =>
    intro i a b h1 h2
    unfold fsI at h1 h2
    split at h1
    · rename_i hn
      rw [if_pos hn] at h2
      by_cases hi : i + 1 < (fsI F n).length
      · rw [List.getElem?_append_left (by omega)] at h1
        rw [List.getElem?_append_left hi] at h2
        exact ih i a b h1 h2
      · have hlen : (fsI F n).length ≤ i + 1 := by omega
        rw [List.getElem?_append_right hlen] at h2
        have hb : b = n := by
          have := List.getElem?_eq_some_iff.1 h2
          obtain ⟨hz, he⟩ := this
          simp at hz
          have hz0 : i + 1 - (fsI F n).length = 0 := by omega
          simp [hz0] at he
          exact he.symm
        have hz : i + 1 - (fsI F n).length < 1 := by
          obtain ⟨hz, _⟩ := List.getElem?_eq_some_iff.1 h2
          simpa using hz
        rw [List.getElem?_append_left (by omega)] at h1
        have := fsI_lt F n a (List.mem_of_getElem? h1)
        omega
    · rename_i hn
      rw [if_neg hn] at h2
      exact ih i a b h1 h2
theorem chunk_at : ∀ (l : List Nat) (i k : Nat), l[i]? = some k → ((l.map chk).flatten.drop (4 * i)).take 4 = chk k
  | [], _, _, h => by simp at h
  | a :: l, 0, k, h => by
    have : a = k := by simpa using h
    subst this
    simp [chk_len]
  | a :: l, i + 1, k, h => by
    have h' : l[i]? = some k := by simpa using h
    have ih := chunk_at l i k h'
    rw [List.map_cons, List.flatten_cons, show 4 * (i + 1) = (chk a).length + 4 * i by rw [chk_len]; omega, List.drop_append]
    rw [List.drop_eq_nil_of_le (by omega), List.nil_append, show (chk a).length + 4 * i - (chk a).length = 4 * i by omega]
    exact ih
theorem jn_at {l : List Nat} {i k : Nat} (h : l[i]? = some k) : (jnS (txL l)).extract (4 * i) (4 * i + 3) = txtAt (k : Nat) := by
  have hne : l ≠ [] := by intro h0; rw [h0] at h; simp at h
  have e := chunk_at l i k h
  rw [← jn_chunks hne] at e
  apply ByteArray.ext
  apply Array.ext'
  rw [ByteArray.data_extract, Array.toList_extract]
  cases i with
  | zero =>
    simp only [Nat.mul_zero, List.drop_zero, chk, List.take_succ_cons, List.cons.injEq, true_and] at e
    rw [← e]
    simp
  | succ i =>
    rw [show 4 * (i + 1) = (4 * i + 3) + 1 by omega, List.drop_succ_cons] at e
    have e2 := congrArg (List.drop 1) e
    rw [show (chk k).drop 1 = (txtAt (k : Nat)).data.toList from rfl] at e2
    rw [← e2, List.extract_eq_take_drop, List.drop_take, List.drop_drop, show 4 * (i + 1) + 3 - 4 * (i + 1) = 3 by omega, show 4 * (i + 1) = 4 * i + 3 + 1 by omega]
end Go.Proofs.Ytgkoljphndgoeaa
