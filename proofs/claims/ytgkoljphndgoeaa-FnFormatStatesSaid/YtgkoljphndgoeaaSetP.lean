/-
  Plain mathematics of sets of states: texts of bits, numbers by their bits. Nothing of the program stands here.
-/

namespace Go.Proofs.Ytgkoljphndgoeaa

/-- Is the byte at an index a one? -/
def hs (l : List UInt8) (i : Nat) : Bool := l[i]? == some 49
def bitc (b : Bool) : UInt8 := if b then 49 else 48
/-- The text of n bits. -/
def tbn (n : Nat) (F : Nat → Bool) : List UInt8 := (List.range n).map fun i => bitc (F i)
def tb (F : Nat → Bool) : List UInt8 := tbn 27 F
/-- The number of k bits. -/
def nb : Nat → (Nat → Bool) → Nat
  | 0, _ => 0
  | k + 1, F => nb k F + (if F k then 2 ^ k else 0)
/-- A text of n bits. -/
def Bits (n : Nat) (l : List UInt8) : Prop := l.length = n ∧ ∀ i (h : i < l.length), l[i] = 48 ∨ l[i] = 49

theorem nb_lt (k : Nat) (F : Nat → Bool) : nb k F < 2 ^ k := by
  induction k with
  | zero => simp [nb]
  | succ k ih =>
    unfold nb
    rw [Nat.pow_succ]
    split <;> omega
theorem nb_lt27 (F : Nat → Bool) : nb 27 F < 134217728 := nb_lt 27 F
theorem nb_bit (k : Nat) (F : Nat → Bool) (i : Nat) : (nb k F).testBit i = (decide (i < k) && F i) := by
  induction k with
  | zero => simp [nb]
  | succ k ih =>
    unfold nb
    have hk := nb_lt k F
    have e : nb k F + (if F k then 2 ^ k else 0) = nb k F ||| (if F k then 2 ^ k else 0) := by
      cases F k
      · simp
      · simp only [if_true]
        have h := Nat.two_pow_add_eq_or_of_lt hk 1
        rw [Nat.mul_one] at h
        rw [Nat.add_comm, h, Nat.or_comm]
    rw [e, Nat.testBit_or, ih]
    by_cases h1 : i < k
    · cases F k
      · have h3 : i < k + 1 := by omega
        simp [h1, h3]
      · have h3 : i < k + 1 := by omega
        have h4 : ¬ k = i := by omega
        simp [h1, h3, h4]
    · by_cases h2 : i = k
      · subst h2
        cases F i <;> simp
      · have h3 : ¬ i < k + 1 := by omega
        have h4 : ¬ k = i := by omega
        cases F k
        · simp [h1, h3]
        · simp [h1, h3, h4]
theorem nb_congr {k : Nat} {F G : Nat → Bool} (h : ∀ i, i < k → F i = G i) : nb k F = nb k G := by
  induction k with
  | zero => rfl
  | succ k ih => unfold nb; rw [ih (fun i hi => h i (by omega)), h k (by omega)]
theorem nb_inj {k : Nat} {F G : Nat → Bool} (h : nb k F = nb k G) (i : Nat) (hi : i < k) : F i = G i := by
  have h1 := nb_bit k F i
  have h2 := nb_bit k G i
  rw [h] at h1
  rw [h1] at h2
  simpa [hi] using h2
theorem nb_of_bits {k n : Nat} {F : Nat → Bool} (hn : n < 2 ^ k) (h : ∀ i, i < k → n.testBit i = F i) : n = nb k F := by
  apply Nat.eq_of_testBit_eq
  intro i
  rw [nb_bit]
  by_cases hi : i < k
  · simp [hi, h i hi]
  · simp [hi]
    exact Nat.testBit_lt_two_pow (Nat.lt_of_lt_of_le hn (Nat.pow_le_pow_right (by omega) (by omega)))
theorem nb_or (k : Nat) (F : Nat → Bool) (j : Nat) (hj : j < k) : nb k F ||| 2 ^ j = nb k (fun i => F i || i == j) := by
  apply nb_of_bits
  · exact Nat.or_lt_two_pow (nb_lt k F) (Nat.pow_lt_pow_right (by omega) hj)
  · intro i hi
    rw [Nat.testBit_or, nb_bit, Nat.testBit_two_pow]
    simp [hi]
    rw [show decide (j = i) = (i == j) by rw [Bool.eq_iff_iff, beq_iff_eq, decide_eq_true_eq]; exact eq_comm]
theorem nb_and (k : Nat) (F G : Nat → Bool) : nb k F &&& nb k G = nb k (fun i => F i && G i) := by
  apply nb_of_bits
  · exact Nat.and_lt_two_pow _ (nb_lt k G)
  · intro i hi; rw [Nat.testBit_and, nb_bit, nb_bit]; simp [hi]
theorem nb_or2 (k : Nat) (F G : Nat → Bool) : nb k F ||| nb k G = nb k (fun i => F i || G i) := by
  apply nb_of_bits
  · exact Nat.or_lt_two_pow (nb_lt k F) (nb_lt k G)
  · intro i hi; rw [Nat.testBit_or, nb_bit, nb_bit]; simp [hi]

theorem nb_zero (k : Nat) {F : Nat → Bool} (h : ∀ i, i < k → F i = false) : nb k F = 0 := by
  rw [nb_congr (G := fun _ => false) h]
  induction k with
  | zero => rfl
  | succ k ih => simp [nb]; exact ih (fun i hi => h i (by omega))

theorem tbn_length (n : Nat) (F : Nat → Bool) : (tbn n F).length = n := by simp [tbn]
theorem tbn_get (n : Nat) (F : Nat → Bool) (i : Nat) (h : i < n) : (tbn n F)[i]? = some (bitc (F i)) := by simp [tbn, h]
theorem tbn_congr {n : Nat} {F G : Nat → Bool} (h : ∀ i, i < n → F i = G i) : tbn n F = tbn n G := by
  unfold tbn
  apply List.map_congr_left
  intro i hi
  rw [h i (by simpa using hi)]
theorem tb_congr {F G : Nat → Bool} (h : ∀ i, i < 27 → F i = G i) : tb F = tb G := tbn_congr h
theorem tbn_inj {n : Nat} {F G : Nat → Bool} (h : tbn n F = tbn n G) (i : Nat) (hi : i < n) : F i = G i := by
  have h1 := tbn_get n F i hi
  rw [h, tbn_get n G i hi] at h1
  cases hF : F i <;> cases hG : G i <;> simp [hF, hG, bitc] at h1 ⊢
theorem hs_tbn (n : Nat) (F : Nat → Bool) (i : Nat) : hs (tbn n F) i = (decide (i < n) && F i) := by
  unfold hs
  by_cases h : i < n
  · rw [tbn_get n F i h]; cases F i <;> simp [bitc, h]
  · rw [List.getElem?_eq_none (by rw [tbn_length]; omega)]; simp [h]
theorem bits_tbn (n : Nat) (F : Nat → Bool) : Bits n (tbn n F) := by
  refine ⟨tbn_length n F, fun i h => ?_⟩
  have h1 := tbn_get n F i (by rwa [tbn_length] at h)
  rw [List.getElem?_eq_getElem h] at h1
  injection h1 with h1
  rw [h1]; unfold bitc; split <;> simp
/-- A text of bits is the text of its bits. -/
theorem tbn_hs {n : Nat} {l : List UInt8} (h : Bits n l) : tbn n (hs l) = l := by
  apply List.ext_getElem?
  intro i
  by_cases hi : i < n
  · rw [tbn_get n _ i hi]
    have hl : i < l.length := by rw [h.1]; exact hi
    rw [List.getElem?_eq_getElem hl]
    unfold hs bitc
    rw [List.getElem?_eq_getElem hl]
    rcases h.2 i hl with e | e <;> rw [e] <;> rfl
  · rw [List.getElem?_eq_none (by rw [tbn_length]; omega), List.getElem?_eq_none (by rw [h.1]; omega)]
theorem hs_cases {n : Nat} {l : List UInt8} (h : Bits n l) {i : Nat} (hi : i < l.length) : l[i] = bitc (hs l i) := by
  unfold hs bitc
  rw [List.getElem?_eq_getElem hi]
  rcases h.2 i hi with e | e <;> rw [e] <;> rfl
theorem tbn_succ (n : Nat) (F : Nat → Bool) : tbn (n + 1) F = tbn n F ++ [bitc (F n)] := by
  simp [tbn, List.range_succ]
/-- So many zero bytes. -/
def zs (n : Nat) : List UInt8 := List.replicate n 0
def part (n k : Nat) (F : Nat → Bool) : List UInt8 := tbn k F ++ List.replicate (n - k) 0
theorem part_zero (n : Nat) (F : Nat → Bool) : part n 0 F = zs n := rfl
theorem part_all (n : Nat) (F : Nat → Bool) : part n n F = tbn n F := by simp [part]
theorem part_step (n k : Nat) (F : Nat → Bool) (h : k < n) : (part n k F).set k (bitc (F k)) = part n (k + 1) F := by
  unfold part
  rw [List.set_append_right _ _ (by rw [tbn_length]; omega), tbn_length, Nat.sub_self, tbn_succ]
  obtain ⟨m, hm⟩ : ∃ m, n - k = m + 1 := ⟨n - k - 1, by omega⟩
  rw [hm, show n - (k + 1) = m by omega, List.replicate_succ]
  simp
theorem part_len (n k : Nat) (F : Nat → Bool) (h : k ≤ n) : (part n k F).length = n := by simp [part, tbn_length]; omega
/-- How many of the first numbers are in a set. -/
def cnt : Nat → (Nat → Bool) → Nat
  | 0, _ => 0
  | k + 1, F => cnt k F + (if F k then 1 else 0)
theorem cnt_le (k : Nat) (F : Nat → Bool) : cnt k F ≤ k := by
  induction k with
  | zero => exact Nat.le_refl _
  | succ k ih => unfold cnt; split <;> omega
/-- Is each number below n that is in one set in the other one? -/
def wi (n : Nat) (F G : Nat → Bool) : Bool := (List.range n).all fun i => !F i || G i
theorem wi_iff {n : Nat} {F G : Nat → Bool} : wi n F G = true ↔ ∀ i, i < n → F i = true → G i = true := by
  unfold wi
  rw [List.all_eq_true]
  constructor
  · intro h i hi hF
    have := h i (by simpa using hi)
    simpa [hF] using this
  · intro h i hi
    have := h i (by simpa using hi)
    cases hF : F i
    · rfl
    · simp [this hF]
end Go.Proofs.Ytgkoljphndgoeaa
