/-
  Plain mathematics of prefix texts: trees, how they are written, the machine that reads them, values, shown and folded forms. Nothing of the program stands here.
-/

namespace Go.Proofs.YtpdepihggpfmiabDoor

/-- A term or a test: a letter and none, one or two operands. -/
inductive Tm where
  | leaf (c : UInt8)
  | un (c : UInt8) (a : Tm)
  | bin (c : UInt8) (a b : Tm)

namespace Tm
def ser : Tm → List UInt8
  | .leaf c => [c]
  | .un c a => c :: ser a
  | .bin c a b => c :: (ser a ++ ser b)
def head : Tm → UInt8
  | .leaf c => c
  | .un c _ => c
  | .bin c _ _ => c
def kids : Tm → List Tm
  | .leaf _ => []
  | .un _ a => [a]
  | .bin _ a b => [a, b]
end Tm
open Tm

def isVarB (wide : Bool) (c : UInt8) : Bool := c == 120 || c == 121 || c == 122 || (wide && (c == 88 || c == 89 || c == 90))
def isDigB (c : UInt8) : Bool := c == 48 || c == 49 || c == 50
def isOpB (c : UInt8) : Bool := c == 43 || c == 45 || c == 42

/-- The kinds (false: expression, true: test) of the operands of a letter where a term of a kind is to be read. -/
def opk (wide k : Bool) (c : UInt8) : Option (List Bool) :=
  if k then
    if c == 116 || c == 102 then some [] else if c == 61 || c == 60 then some [false, false] else if c == 33 then some [true] else if c == 38 || c == 124 then some [true, true] else none
  else
    if isVarB wide c || isDigB c then some [] else if isOpB c then some [false, false] else none

def Ok (wide : Bool) : Bool → Tm → Prop
  | k, .leaf c => opk wide k c = some []
  | k, .un c a => ∃ k1, opk wide k c = some [k1] ∧ Ok wide k1 a
  | k, .bin c a b => ∃ k1 k2, opk wide k c = some [k1, k2] ∧ Ok wide k1 a ∧ Ok wide k2 b

theorem ser_pos (t : Tm) : 0 < t.ser.length := by cases t <;> simp [ser]

theorem prefix_free {wide : Bool} : ∀ (t t' : Tm) (k : Bool) (r r' : List UInt8), Ok wide k t → Ok wide k t' → t.ser ++ r = t'.ser ++ r' → t = t' ∧ r = r' := by
  intro t
  induction t with
  | leaf c =>
    intro t' k r r' h h' e
    cases t' with
    | leaf c' => simp [ser] at e; exact ⟨by rw [e.1], e.2⟩
    | un c' a' =>
      simp [ser] at e; obtain ⟨rfl, _⟩ := e
      obtain ⟨k1, h1, _⟩ := h'
      simp [Ok] at h; rw [h] at h1; cases h1
    | bin c' a' b' =>
      simp [ser] at e; obtain ⟨rfl, _⟩ := e
      obtain ⟨k1, k2, h1, _⟩ := h'
      simp [Ok] at h; rw [h] at h1; cases h1
  | un c a ih =>
    intro t' k r r' h h' e
    obtain ⟨k1, h1, ha⟩ := h
    cases t' with
    | leaf c' =>
      simp [ser] at e; obtain ⟨rfl, _⟩ := e
      simp [Ok] at h'; rw [h'] at h1; cases h1
    | un c' a' =>
      simp [ser] at e; obtain ⟨rfl, e⟩ := e
      obtain ⟨k1', h1', ha'⟩ := h'
      rw [h1] at h1'; cases h1'
      obtain ⟨rfl, rfl⟩ := ih a' _ r r' ha ha' e
      exact ⟨rfl, rfl⟩
    | bin c' a' b' =>
      simp [ser] at e; obtain ⟨rfl, _⟩ := e
      obtain ⟨k1', k2', h1', _⟩ := h'
      rw [h1] at h1'; cases h1'
  | bin c a b iha ihb =>
    intro t' k r r' h h' e
    obtain ⟨k1, k2, h1, ha, hb⟩ := h
    cases t' with
    | leaf c' =>
      simp [ser] at e; obtain ⟨rfl, _⟩ := e
      simp [Ok] at h'; rw [h'] at h1; cases h1
    | un c' a' =>
      simp [ser] at e; obtain ⟨rfl, _⟩ := e
      obtain ⟨k1', h1', _⟩ := h'
      rw [h1] at h1'; cases h1'
    | bin c' a' b' =>
      simp [ser] at e; obtain ⟨rfl, e⟩ := e
      obtain ⟨k1', k2', h1', ha', hb'⟩ := h'
      rw [h1] at h1'; cases h1'
      obtain ⟨rfl, e2⟩ := iha a' _ _ _ ha ha' e
      obtain ⟨rfl, rfl⟩ := ihb b' _ r r' hb hb' e2
      exact ⟨rfl, rfl⟩

theorem ser_inj {wide k : Bool} {t t' : Tm} (h : Ok wide k t) (h' : Ok wide k t') (e : t.ser = t'.ser) : t = t' :=
  (prefix_free t t' k [] [] h h' (by rw [e])).1

theorem opk_ascii {wide k : Bool} {c : UInt8} {l : List Bool} (h : opk wide k c = some l) : c.toNat < 128 := by
  refine Decidable.byContradiction fun hn => ?_
  have ne : ∀ d : UInt8, d.toNat < 128 → (c == d) = false := fun d hd => by rw [beq_eq_false_iff_ne]; rintro rfl; exact hn hd
  simp only [opk, isVarB, isDigB, isOpB, ne 120 (by decide), ne 121 (by decide), ne 122 (by decide), ne 88 (by decide), ne 89 (by decide), ne 90 (by decide), ne 48 (by decide), ne 49 (by decide), ne 50 (by decide), ne 43 (by decide), ne 45 (by decide), ne 42 (by decide), ne 116 (by decide), ne 102 (by decide), ne 61 (by decide), ne 60 (by decide), ne 33 (by decide), ne 38 (by decide), ne 124 (by decide)] at h
  cases k <;> cases wide <;> simp at h

theorem opk_len {wide k : Bool} {c : UInt8} {l : List Bool} (h : opk wide k c = some l) : l.length ≤ 2 := by
  unfold opk at h
  (repeat' split at h) <;> simp at h <;> subst h <;> simp

/-! ### A text begins with a term -/
def Pref (wide k : Bool) (l : List UInt8) (n : Nat) : Prop := ∃ t r, Ok wide k t ∧ l = t.ser ++ r ∧ n = t.ser.length
def NoPref (wide k : Bool) (l : List UInt8) : Prop := ∀ n, ¬ Pref wide k l n

theorem Pref.uniq {wide k : Bool} {l : List UInt8} {n m : Nat} (h : Pref wide k l n) (h' : Pref wide k l m) : n = m := by
  obtain ⟨t, r, ht, e, rfl⟩ := h
  obtain ⟨t', r', ht', e', rfl⟩ := h'
  rw [(prefix_free t t' k r r' ht ht' (e ▸ e')).1]
theorem Pref.le {wide k : Bool} {l : List UInt8} {n : Nat} (h : Pref wide k l n) : n ≤ l.length := by
  obtain ⟨t, r, _, rfl, rfl⟩ := h; simp
theorem Pref.pos {wide k : Bool} {l : List UInt8} {n : Nat} (h : Pref wide k l n) : 0 < n := by
  obtain ⟨t, r, _, rfl, rfl⟩ := h; exact ser_pos t
theorem Pref.leaf {wide k : Bool} {c : UInt8} {l : List UInt8} (h : opk wide k c = some []) : Pref wide k (c :: l) 1 := ⟨.leaf c, l, h, rfl, rfl⟩
theorem Pref.un {wide k k1 : Bool} {c : UInt8} {l : List UInt8} {n : Nat} (h : opk wide k c = some [k1]) (h1 : Pref wide k1 l n) : Pref wide k (c :: l) (1 + n) := by
  obtain ⟨t, r, ht, rfl, rfl⟩ := h1
  exact ⟨.un c t, r, ⟨k1, h, ht⟩, rfl, by simp [ser]; omega⟩
theorem Pref.bin {wide k k1 k2 : Bool} {c : UInt8} {l : List UInt8} {n m : Nat} (h : opk wide k c = some [k1, k2]) (h1 : Pref wide k1 l n) (h2 : Pref wide k2 (l.drop n) m) : Pref wide k (c :: l) (1 + n + m) := by
  obtain ⟨t, r, ht, rfl, rfl⟩ := h1
  rw [List.drop_left' rfl] at h2
  obtain ⟨t2, r2, ht2, rfl, rfl⟩ := h2
  exact ⟨.bin c t t2, r2, ⟨k1, k2, h, ht, ht2⟩, by simp [ser], by simp [ser]; omega⟩
theorem NoPref.nil {wide k : Bool} : NoPref wide k [] := by
  rintro n ⟨t, r, _, e, _⟩
  have := congrArg List.length e
  have := ser_pos t
  simp at *; omega
theorem NoPref.bad {wide k : Bool} {c : UInt8} {l : List UInt8} (h : opk wide k c = none) : NoPref wide k (c :: l) := by
  rintro n ⟨t, r, ht, e, _⟩
  cases t with
  | leaf c' => simp [ser] at e; obtain ⟨rfl, _⟩ := e; simp [Ok] at ht; rw [h] at ht; cases ht
  | un c' a => simp [ser] at e; obtain ⟨rfl, _⟩ := e; obtain ⟨_, h1, _⟩ := ht; rw [h] at h1; cases h1
  | bin c' a b => simp [ser] at e; obtain ⟨rfl, _⟩ := e; obtain ⟨_, _, h1, _⟩ := ht; rw [h] at h1; cases h1
theorem NoPref.un {wide k k1 : Bool} {c : UInt8} {l : List UInt8} (h : opk wide k c = some [k1]) (h1 : NoPref wide k1 l) : NoPref wide k (c :: l) := by
  rintro n ⟨t, r, ht, e, _⟩
  cases t with
  | leaf c' => simp [ser] at e; obtain ⟨rfl, _⟩ := e; simp [Ok] at ht; rw [h] at ht; cases ht
  | un c' a =>
    simp [ser] at e; obtain ⟨rfl, rfl⟩ := e; obtain ⟨_, h2, h3⟩ := ht; rw [h] at h2; cases h2
    exact h1 _ ⟨a, r, h3, rfl, rfl⟩
  | bin c' a b => simp [ser] at e; obtain ⟨rfl, _⟩ := e; obtain ⟨_, _, h2, _⟩ := ht; rw [h] at h2; cases h2
theorem NoPref.bin1 {wide k k1 k2 : Bool} {c : UInt8} {l : List UInt8} (h : opk wide k c = some [k1, k2]) (h1 : NoPref wide k1 l) : NoPref wide k (c :: l) := by
  rintro n ⟨t, r, ht, e, _⟩
  cases t with
  | leaf c' => simp [ser] at e; obtain ⟨rfl, _⟩ := e; simp [Ok] at ht; rw [h] at ht; cases ht
  | un c' a => simp [ser] at e; obtain ⟨rfl, _⟩ := e; obtain ⟨_, h2, _⟩ := ht; rw [h] at h2; cases h2
  | bin c' a b =>
    simp [ser] at e; obtain ⟨rfl, rfl⟩ := e; obtain ⟨_, _, h2, h3, _⟩ := ht; rw [h] at h2; cases h2
    exact h1 _ ⟨a, b.ser ++ r, h3, rfl, rfl⟩
theorem NoPref.bin2 {wide k k1 k2 : Bool} {c : UInt8} {l : List UInt8} {n : Nat} (h : opk wide k c = some [k1, k2]) (h1 : Pref wide k1 l n) (h2 : NoPref wide k2 (l.drop n)) : NoPref wide k (c :: l) := by
  rintro m ⟨t, r, ht, e, _⟩
  cases t with
  | leaf c' => simp [ser] at e; obtain ⟨rfl, _⟩ := e; simp [Ok] at ht; rw [h] at ht; cases ht
  | un c' a => simp [ser] at e; obtain ⟨rfl, _⟩ := e; obtain ⟨_, h3, _⟩ := ht; rw [h] at h3; cases h3
  | bin c' a b =>
    simp [ser] at e; obtain ⟨rfl, rfl⟩ := e; obtain ⟨_, _, h3, ha, hb⟩ := ht; rw [h] at h3; cases h3
    have hn : n = a.ser.length := h1.uniq ⟨a, b.ser ++ r, ha, rfl, rfl⟩
    subst hn
    rw [List.drop_left' rfl] at h2
    exact h2 _ ⟨b, r, hb, rfl, rfl⟩

/-- Where the term of a kind that begins at an index ends, or -1. -/
def PrefAt (wide k : Bool) (l : List UInt8) (a r : Int) : Prop :=
  (∃ i n : Nat, a = i ∧ Pref wide k (l.drop i) n ∧ r = a + n) ∨ (r = -1 ∧ (a < 0 ∨ NoPref wide k (l.drop a.toNat)))
theorem PrefAt.exists (wide k : Bool) (l : List UInt8) (a : Int) : ∃ r, PrefAt wide k l a r := by
  by_cases h : ∃ i n : Nat, a = i ∧ Pref wide k (l.drop i) n
  · obtain ⟨i, n, e, hn⟩ := h
    exact ⟨a + n, .inl ⟨i, n, e, hn, rfl⟩⟩
  · refine ⟨-1, .inr ⟨rfl, ?_⟩⟩
    by_cases ha : a < 0
    · exact .inl ha
    · exact .inr fun n hn => h ⟨a.toNat, n, by omega, hn⟩
theorem PrefAt.uniq {wide k : Bool} {l : List UInt8} {a r r' : Int} (h : PrefAt wide k l a r) (h' : PrefAt wide k l a r') : r = r' := by
  rcases h with ⟨i, n, e, hn, rfl⟩ | ⟨rfl, h⟩ <;> rcases h' with ⟨i', n', e', hn', rfl⟩ | ⟨rfl, h'⟩
  · obtain rfl : i = i' := by omega
    rw [hn.uniq hn']
  · rcases h' with h' | h'
    · omega
    · subst e; exact absurd hn (h' n)
  · rcases h with h | h
    · omega
    · subst e'; exact absurd hn' (h n')
  · rfl
theorem PrefAt.neg {wide k : Bool} {l : List UInt8} {a : Int} (h : a < 0) : PrefAt wide k l a (-1) := .inr ⟨rfl, .inl h⟩
theorem PrefAt.past {wide k : Bool} {l : List UInt8} {i : Nat} (h : l.length ≤ i) : PrefAt wide k l i (-1) := .inr ⟨rfl, .inr (by rw [Int.toNat_natCast, List.drop_of_length_le h]; exact NoPref.nil)⟩
theorem PrefAt.bad {wide k : Bool} {l : List UInt8} {i : Nat} {c : UInt8} {r : List UInt8} (hd : l.drop i = c :: r) (h : opk wide k c = none) : PrefAt wide k l i (-1) := .inr ⟨rfl, .inr (by rw [Int.toNat_natCast, hd]; exact NoPref.bad h)⟩
theorem PrefAt.leaf {wide k : Bool} {l : List UInt8} {i : Nat} {c : UInt8} {r : List UInt8} (hd : l.drop i = c :: r) (h : opk wide k c = some []) : PrefAt wide k l i (i + 1) := .inl ⟨i, 1, rfl, by rw [hd]; exact Pref.leaf h, rfl⟩
theorem PrefAt.lo {wide k : Bool} {l : List UInt8} {a r : Int} (h : PrefAt wide k l a r) : r = -1 ∨ (0 ≤ a ∧ a < r ∧ r ≤ l.length) := by
  rcases h with ⟨i, n, rfl, hn, rfl⟩ | ⟨rfl, _⟩
  · have h1 := hn.le; have h2 := hn.pos
    simp at h1
    right; omega
  · left; rfl
theorem drop_next {l : List UInt8} {i : Nat} {c : UInt8} {r : List UInt8} (hd : l.drop i = c :: r) : l.drop (i + 1) = r := by
  rw [← List.drop_drop, hd]; rfl
theorem PrefAt.un {wide k k1 : Bool} {l : List UInt8} {i : Nat} {c : UInt8} {r : List UInt8} {b : Int} (hd : l.drop i = c :: r) (h : opk wide k c = some [k1]) (h1 : PrefAt wide k1 l (i + 1) b) : PrefAt wide k l i b := by
  have hn := drop_next hd
  rcases h1 with ⟨j, n, e, h1, rfl⟩ | ⟨rfl, h1⟩
  · obtain rfl : j = i + 1 := by omega
    rw [hn] at h1
    exact .inl ⟨i, 1 + n, rfl, by rw [hd]; exact Pref.un h h1, by omega⟩
  · refine .inr ⟨rfl, .inr ?_⟩
    rcases h1 with h1 | h1
    · omega
    · rw [show ((i : Int) + 1).toNat = i + 1 by omega, hn] at h1
      rw [Int.toNat_natCast, hd]; exact NoPref.un h h1
theorem PrefAt.bin {wide k k1 k2 : Bool} {l : List UInt8} {i : Nat} {c : UInt8} {r : List UInt8} {b d : Int} (hd : l.drop i = c :: r) (h : opk wide k c = some [k1, k2]) (h1 : PrefAt wide k1 l (i + 1) b) (h2 : PrefAt wide k2 l b d) : PrefAt wide k l i d := by
  have hn := drop_next hd
  rcases h1 with ⟨j, n, e, h1, rfl⟩ | ⟨rfl, h1⟩
  · obtain rfl : j = i + 1 := by omega
    rw [hn] at h1
    have hn2 : l.drop (i + 1 + n) = r.drop n := by rw [← hn, List.drop_drop]
    rcases h2 with ⟨j2, m, e2, h2, rfl⟩ | ⟨rfl, h2⟩
    · obtain rfl : j2 = i + 1 + n := by omega
      rw [hn2] at h2
      exact .inl ⟨i, 1 + n + m, rfl, by rw [hd]; exact Pref.bin h h1 h2, by omega⟩
    · refine .inr ⟨rfl, .inr ?_⟩
      rcases h2 with h2 | h2
      · omega
      · rw [show ((i : Int) + 1 + n).toNat = i + 1 + n by omega, hn2] at h2
        rw [Int.toNat_natCast, hd]; exact NoPref.bin2 h h1 h2
  · rcases h2 with ⟨j2, m, e2, h2, rfl⟩ | ⟨rfl, h2⟩
    · omega
    · refine .inr ⟨rfl, .inr ?_⟩
      rcases h1 with h1 | h1
      · omega
      · rw [show ((i : Int) + 1).toNat = i + 1 by omega, hn] at h1
        rw [Int.toNat_natCast, hd]; exact NoPref.bin1 h h1
theorem valid_iff_at {wide k : Bool} {l : List UInt8} {r : Int} (h : PrefAt wide k l 0 r) : r = l.length ↔ (∃ t, Ok wide k t ∧ l = t.ser) := by
  constructor
  · intro e
    rcases h with ⟨i, n, e1, ⟨t, r2, ht, e2, e3⟩, e4⟩ | ⟨rfl, _⟩
    · obtain rfl : i = 0 := by omega
      simp at e2
      have : r2 = [] := by
        have := congrArg List.length e2; simp at this
        exact List.eq_nil_of_length_eq_zero (by omega)
      subst this
      exact ⟨t, ht, by simpa using e2⟩
    · omega
  · rintro ⟨t, ht, e⟩
    have h2 : PrefAt wide k l 0 (0 + l.length) := .inl ⟨0, l.length, rfl, ⟨t, [], ht, by simp [e], by rw [e]⟩, rfl⟩
    have := h.uniq h2; omega

/-! ### The machine that keeps the kinds that are still to be read -/
def mach (wide : Bool) : List Bool → List UInt8 → Bool
  | [], [] => true
  | [], _ :: _ => false
  | _ :: _, [] => false
  | k :: ks, c :: cs => match opk wide k c with
    | none => false
    | some l => mach wide (l ++ ks) cs

def Oks (wide : Bool) : List Bool → List Tm → Prop
  | [], [] => True
  | k :: ks, t :: ts => Ok wide k t ∧ Oks wide ks ts
  | _, _ => False
def sers : List Tm → List UInt8
  | [] => []
  | t :: ts => t.ser ++ sers ts

/-- A text is a term exactly if its bytes are those of one tree. -/
def Valid (wide k : Bool) (l : List UInt8) : Prop := ∃ t, Ok wide k t ∧ l = t.ser

theorem Oks.cons_inv {wide : Bool} {k : Bool} {ks : List Bool} {ts : List Tm} (h : Oks wide (k :: ks) ts) : ∃ t ts', ts = t :: ts' ∧ Ok wide k t ∧ Oks wide ks ts' := by
  cases ts with
  | nil => exact h.elim
  | cons t ts => exact ⟨t, ts, rfl, h.1, h.2⟩

theorem mach_of_sers {wide : Bool} : ∀ (l : List UInt8) (ks : List Bool) (ts : List Tm), Oks wide ks ts → l = sers ts → mach wide ks l = true := by
  intro l
  induction l with
  | nil =>
    intro ks ts h e
    cases ks with
    | nil => rfl
    | cons k ks =>
      obtain ⟨t, ts', rfl, _, _⟩ := h.cons_inv
      have := congrArg List.length e; have := ser_pos t
      simp [sers] at *; omega
  | cons c cs ih =>
    intro ks ts h e
    cases ks with
    | nil =>
      cases ts with
      | nil => simp [sers] at e
      | cons t ts => exact h.elim
    | cons k ks =>
      obtain ⟨t, ts', rfl, h1, h2⟩ := h.cons_inv
      cases t with
      | leaf c' =>
        simp [sers, ser] at e; obtain ⟨rfl, e⟩ := e
        simp [Ok] at h1
        simp only [mach, h1]
        exact ih _ ts' (by simpa using h2) e
      | un c' a =>
        simp [sers, ser] at e; obtain ⟨rfl, e⟩ := e
        obtain ⟨k1, h1, ha⟩ := h1
        simp only [mach, h1]
        exact ih _ (a :: ts') ⟨ha, by simpa using h2⟩ (by simpa [sers] using e)
      | bin c' a b =>
        simp [sers, ser] at e; obtain ⟨rfl, e⟩ := e
        obtain ⟨k1, k2, h1, ha, hb⟩ := h1
        simp only [mach, h1]
        exact ih _ (a :: b :: ts') ⟨ha, hb, by simpa using h2⟩ (by simpa [sers] using e)

theorem sers_of_mach {wide : Bool} : ∀ (l : List UInt8) (ks : List Bool), mach wide ks l = true → ∃ ts, Oks wide ks ts ∧ l = sers ts := by
  intro l
  induction l with
  | nil =>
    intro ks h
    cases ks with
    | nil => exact ⟨[], trivial, rfl⟩
    | cons k ks => simp [mach] at h
  | cons c cs ih =>
    intro ks h
    cases ks with
    | nil => simp [mach] at h
    | cons k ks =>
      simp only [mach] at h
      cases hk : opk wide k c with
      | none => rw [hk] at h; simp at h
      | some l =>
        rw [hk] at h
        obtain ⟨ts, h1, e⟩ := ih _ h
        have hl := opk_len hk
        match l, hl with
        | [], _ => exact ⟨.leaf c :: ts, ⟨hk, by simpa using h1⟩, by simp [sers, ser, e]⟩
        | [k1], _ =>
          obtain ⟨a, ts', rfl, ha, h2⟩ := Oks.cons_inv (by simpa using h1)
          exact ⟨.un c a :: ts', ⟨⟨k1, hk, ha⟩, h2⟩, by simp [sers, ser, e]⟩
        | [k1, k2], _ =>
          obtain ⟨a, ts', rfl, ha, h2⟩ := Oks.cons_inv (by simpa using h1)
          obtain ⟨b, ts'', rfl, hb, h3⟩ := h2.cons_inv
          exact ⟨.bin c a b :: ts'', ⟨⟨k1, k2, hk, ha, hb⟩, h3⟩, by simp [sers, ser, e]⟩

theorem mach_iff {wide k : Bool} {l : List UInt8} : mach wide [k] l = true ↔ Valid wide k l := by
  constructor
  · intro h
    obtain ⟨ts, h1, e⟩ := sers_of_mach l [k] h
    obtain ⟨t, ts', rfl, ht, h2⟩ := h1.cons_inv
    cases ts' with
    | nil => exact ⟨t, ht, by simpa [sers] using e⟩
    | cons _ _ => exact h2.elim
  · rintro ⟨t, ht, rfl⟩
    exact mach_of_sers _ [k] [t] ⟨ht, trivial⟩ (by simp [sers])

theorem valid_iff_pref {wide k : Bool} {l : List UInt8} : Valid wide k l ↔ Pref wide k l l.length := by
  constructor
  · rintro ⟨t, ht, rfl⟩; exact ⟨t, [], ht, by simp, rfl⟩
  · rintro ⟨t, r, ht, e, n⟩
    have : r = [] := by
      have := congrArg List.length e; simp at this
      exact List.eq_nil_of_length_eq_zero (by omega)
    subst this
    exact ⟨t, ht, by simpa using e⟩

end Go.Proofs.YtpdepihggpfmiabDoor
