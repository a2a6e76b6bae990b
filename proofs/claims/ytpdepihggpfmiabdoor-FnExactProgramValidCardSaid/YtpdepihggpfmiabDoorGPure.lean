/-
  Plain mathematics of prefix texts of all kinds (expressions 101, tests 116, variables 118, programs 112): forests of letters, how they are written, the machine that reads them, where a text of a kind ends. Nothing of the program stands here.
-/
import Derived.Test.YtpdepihggpfmiabDoorPure
namespace Go.Proofs.YtpdepihggpfmiabDoor
open Tm

/-- A row of trees: the first tree's letter, its operands, and the trees behind it. -/
inductive Fo where
  | nil
  | nd (c : UInt8) (kids rest : Fo)

namespace Fo
def ser : Fo → List UInt8
  | .nil => []
  | .nd c k r => c :: (ser k ++ ser r)
def len : Fo → Nat
  | .nil => 0
  | .nd _ _ r => len r + 1
def app : Fo → Fo → Fo
  | .nil, g => g
  | .nd c k r, g => .nd c k (app r g)
def take : Nat → Fo → Fo
  | 0, _ => .nil
  | _ + 1, .nil => .nil
  | n + 1, .nd c k r => .nd c k (take n r)
def drop : Nat → Fo → Fo
  | 0, f => f
  | _ + 1, .nil => .nil
  | n + 1, .nd _ _ r => drop n r
theorem ser_app (f g : Fo) : (f.app g).ser = f.ser ++ g.ser := by
  induction f with
  | nil => rfl
  | nd c k r _ ih => simp [app, ser, ih]
theorem app_nil (f : Fo) : f.app .nil = f := by
  induction f with
  | nil => rfl
  | nd c k r _ ih => simp [app, ih]
theorem take_drop (n : Nat) (f : Fo) : (f.take n).ser ++ (f.drop n).ser = f.ser := by
  induction n generalizing f with
  | zero => rfl
  | succ n ih =>
    cases f with
    | nil => rfl
    | nd c k r => simp [take, drop, ser, ih]
end Fo
/-- The kinds of wide texts. -/
def wideK (k : UInt8) : Bool := k == 69 || k == 84 || k == 86 || k == 80
/-- The kinds of the operands of a letter where a text of a kind is to be read. -/
def gopk0 (wide : Bool) (k c : UInt8) : Option (List UInt8) :=
  if k = 101 then
    if isVarB wide c || isDigB c then some [] else if isOpB c then some [101, 101] else none
  else if k = 116 then
    if c == 116 || c == 102 then some [] else if c == 61 || c == 60 then some [101, 101] else if c == 33 then some [116] else if c == 38 || c == 124 then some [116, 116] else none
  else if k = 118 then
    if isVarB wide c then some [] else none
  else if k = 112 then
    if c == 115 then some [] else if c == 97 then some [118, 101] else if c == 59 || c == 47 then some [112, 112] else if c == 63 then some [116, 112, 112] else if c == 64 then some [116, 112] else if c == 126 then some [116] else none
  else none
/-- The same, where the kind may be that of wide texts. -/
def gopk (wide : Bool) (k c : UInt8) : Option (List UInt8) := if wideK k then (gopk0 true (k + 32) c).map (List.map (· - 32)) else gopk0 wide k c
theorem gopk_of {wide : Bool} {k c : UInt8} (h : wideK k = false) : gopk wide k c = gopk0 wide k c := by unfold gopk; rw [h]; rfl
theorem gopk_wide {wide : Bool} {k c : UInt8} (h : wideK k = true) : gopk wide k c = (gopk0 true (k + 32) c).map (List.map (· - 32)) := by unfold gopk; rw [h]; rfl

def FOk (wide : Bool) : Fo → List UInt8 → Prop
  | .nil, ks => ks = []
  | .nd c kids rest, ks => ∃ k ks' l, ks = k :: ks' ∧ gopk wide k c = some l ∧ FOk wide kids l ∧ FOk wide rest ks'

theorem FOk.cons_inv {wide : Bool} {f : Fo} {k : UInt8} {ks : List UInt8} (h : FOk wide f (k :: ks)) : ∃ c kids rest l, f = .nd c kids rest ∧ gopk wide k c = some l ∧ FOk wide kids l ∧ FOk wide rest ks := by
  cases f with
  | nil => cases h
  | nd c kids rest =>
    obtain ⟨k', ks', l, e, h1, h2, h3⟩ := h
    cases e
    exact ⟨c, kids, rest, l, rfl, h1, h2, h3⟩
theorem FOk.nil_inv {wide : Bool} {f : Fo} (h : FOk wide f []) : f = .nil := by
  cases f with
  | nil => rfl
  | nd c kids rest => obtain ⟨k', ks', l, e, _⟩ := h; cases e
theorem FOk.len {wide : Bool} {f : Fo} {ks : List UInt8} (h : FOk wide f ks) : f.len = ks.length := by
  induction f generalizing ks with
  | nil => rw [show ks = [] from h]; rfl
  | nd c kids rest _ ih =>
    obtain ⟨k', ks', l, rfl, _, _, h3⟩ := h
    simp [Fo.len, ih h3]
theorem FOk.app {wide : Bool} {f g : Fo} {ks ks2 : List UInt8} (h : FOk wide f ks) (h2 : FOk wide g ks2) : FOk wide (f.app g) (ks ++ ks2) := by
  induction f generalizing ks with
  | nil => rw [show ks = [] from h]; exact h2
  | nd c kids rest _ ih =>
    obtain ⟨k', ks', l, rfl, h1, h3, h4⟩ := h
    exact ⟨k', ks' ++ ks2, l, rfl, h1, h3, ih h4⟩
theorem FOk.split {wide : Bool} {f : Fo} {l ks : List UInt8} (h : FOk wide f (l ++ ks)) : FOk wide (f.take l.length) l ∧ FOk wide (f.drop l.length) ks := by
  induction l generalizing f with
  | nil => exact ⟨rfl, h⟩
  | cons k l ih =>
    obtain ⟨c, kids, rest, l2, rfl, h1, h2, h3⟩ := FOk.cons_inv (by simpa using h)
    obtain ⟨a, b⟩ := ih h3
    exact ⟨⟨k, l, l2, rfl, h1, h2, a⟩, b⟩

theorem fo_prefix {wide : Bool} : ∀ (f g : Fo) (ks : List UInt8) (r r' : List UInt8), FOk wide f ks → FOk wide g ks → f.ser ++ r = g.ser ++ r' → f = g ∧ r = r' := by
  intro f
  induction f with
  | nil =>
    intro g ks r r' h h' e
    have : ks = [] := h
    subst this
    rw [h'.nil_inv] at e ⊢
    exact ⟨rfl, by simpa [Fo.ser] using e⟩
  | nd c kids rest ih1 ih2 =>
    intro g ks r r' h h' e
    obtain ⟨k, ks', l, rfl, h1, h2, h3⟩ := h
    obtain ⟨c', kids', rest', l', rfl, h1', h2', h3'⟩ := h'.cons_inv
    simp [Fo.ser] at e
    obtain ⟨rfl, e⟩ := e
    rw [h1] at h1'; cases h1'
    obtain ⟨rfl, e2⟩ := ih1 kids' l _ _ h2 h2' e
    obtain ⟨rfl, e3⟩ := ih2 rest' ks' _ _ h3 h3' e2
    exact ⟨rfl, e3⟩
theorem fo_inj {wide : Bool} {f g : Fo} {ks : List UInt8} (h : FOk wide f ks) (h' : FOk wide g ks) (e : f.ser = g.ser) : f = g :=
  (fo_prefix f g ks [] [] h h' (by rw [e])).1
theorem fo_len_le {wide : Bool} {f : Fo} {ks : List UInt8} (h : FOk wide f ks) : ks.length ≤ f.ser.length := by
  induction f generalizing ks with
  | nil => rw [show ks = [] from h]; simp
  | nd c kids rest _ ih =>
    obtain ⟨k', ks', l, rfl, _, _, h3⟩ := h
    have := ih h3
    simp [Fo.ser]; omega

/-! ### The machine that keeps the kinds that are still to be read -/
def gmach (wide : Bool) : List UInt8 → List UInt8 → Bool
  | [], [] => true
  | [], _ :: _ => false
  | _ :: _, [] => false
  | k :: ks, c :: cs => match gopk wide k c with
    | none => false
    | some l => gmach wide (l ++ ks) cs

theorem gmach_ser {wide : Bool} : ∀ (f : Fo) (ks ks2 r : List UInt8), FOk wide f ks → gmach wide (ks ++ ks2) (f.ser ++ r) = gmach wide ks2 r := by
  intro f
  induction f with
  | nil => intro ks ks2 r h; rw [show ks = [] from h]; rfl
  | nd c kids rest ih1 ih2 =>
    intro ks ks2 r h
    obtain ⟨k, ks', l, rfl, h1, h2, h3⟩ := h
    simp only [Fo.ser, List.cons_append, gmach, h1]
    rw [List.append_assoc, ih1 l _ _ h2, ih2 ks' ks2 r h3]

theorem of_gmach {wide : Bool} : ∀ (l ks : List UInt8), gmach wide ks l = true → ∃ f, FOk wide f ks ∧ l = f.ser := by
  intro l
  induction l with
  | nil =>
    intro ks h
    cases ks with
    | nil => exact ⟨.nil, rfl, rfl⟩
    | cons k ks => simp [gmach] at h
  | cons c cs ih =>
    intro ks h
    cases ks with
    | nil => simp [gmach] at h
    | cons k ks =>
      simp only [gmach] at h
      cases hk : gopk wide k c with
      | none => rw [hk] at h; simp at h
      | some l =>
        rw [hk] at h
        obtain ⟨f, h1, e⟩ := ih _ h
        obtain ⟨h2, h3⟩ := h1.split
        exact ⟨.nd c (f.take l.length) (f.drop l.length), ⟨k, ks, l, rfl, hk, h2, h3⟩, by simp [Fo.ser, e, Fo.take_drop]⟩

/-- A text is of a kind exactly if its bytes are those of one tree. -/
def GValid (wide : Bool) (k : UInt8) (l : List UInt8) : Prop := ∃ f, FOk wide f [k] ∧ l = f.ser
theorem gmach_iff {wide : Bool} {k : UInt8} {l : List UInt8} : gmach wide [k] l = true ↔ GValid wide k l := by
  constructor
  · exact fun h => of_gmach l [k] h
  · rintro ⟨f, hf, rfl⟩
    have := gmach_ser f [k] [] [] hf
    simpa [gmach] using this

/-! ### Where texts of some kinds that begin at an index end, or -1 -/
def GAt (wide : Bool) (ks : List UInt8) (l : List UInt8) (a r : Int) : Prop :=
  (∃ (i : Nat) (f : Fo) (rest : List UInt8), a = i ∧ FOk wide f ks ∧ l.drop i = f.ser ++ rest ∧ r = a + f.ser.length) ∨ (r = -1 ∧ (a < 0 ∨ ∀ f rest, FOk wide f ks → l.drop a.toNat ≠ f.ser ++ rest))
theorem GAt.exists (wide : Bool) (ks l : List UInt8) (a : Int) : ∃ r, GAt wide ks l a r := by
  by_cases h : ∃ (i : Nat) (f : Fo) (rest : List UInt8), a = i ∧ FOk wide f ks ∧ l.drop i = f.ser ++ rest
  · obtain ⟨i, f, rest, h1, h2, h3⟩ := h
    exact ⟨_, .inl ⟨i, f, rest, h1, h2, h3, rfl⟩⟩
  · refine ⟨-1, .inr ⟨rfl, ?_⟩⟩
    by_cases ha : a < 0
    · exact .inl ha
    · exact .inr fun f rest hf e => h ⟨a.toNat, f, rest, by omega, hf, e⟩
theorem GAt.uniq {wide : Bool} {ks l : List UInt8} {a r r' : Int} (h : GAt wide ks l a r) (h' : GAt wide ks l a r') : r = r' := by
  rcases h with ⟨i, f, rest, e, hf, hd, rfl⟩ | ⟨rfl, h⟩ <;> rcases h' with ⟨i', f', rest', e', hf', hd', rfl⟩ | ⟨rfl, h'⟩
  · obtain rfl : i = i' := by omega
    rw [hd] at hd'
    rw [(fo_prefix f f' ks _ _ hf hf' hd').1]
  · rcases h' with h' | h'
    · omega
    · subst e; exact absurd hd (by simpa using h' f rest hf)
  · rcases h with h | h
    · omega
    · subst e'; exact absurd hd' (by simpa using h f' rest' hf')
  · rfl
theorem GAt.neg {wide : Bool} {ks l : List UInt8} {a : Int} (h : a < 0) : GAt wide ks l a (-1) := .inr ⟨rfl, .inl h⟩
theorem GAt.past {wide : Bool} {k : UInt8} {ks l : List UInt8} {i : Nat} (h : l.length ≤ i) : GAt wide (k :: ks) l i (-1) := by
  refine .inr ⟨rfl, .inr ?_⟩
  rintro f rest hf e
  obtain ⟨c, kids, rest', l2, rfl, _⟩ := hf.cons_inv
  rw [Int.toNat_natCast, List.drop_of_length_le h] at e
  simp [Fo.ser] at e
theorem GAt.bad {wide : Bool} {k c : UInt8} {ks l r : List UInt8} {i : Nat} (hd : l.drop i = c :: r) (h : gopk wide k c = none) : GAt wide (k :: ks) l i (-1) := by
  refine .inr ⟨rfl, .inr ?_⟩
  rintro f rest hf e
  obtain ⟨c', kids, rest', l2, rfl, h1, _⟩ := hf.cons_inv
  rw [Int.toNat_natCast, hd] at e
  simp [Fo.ser] at e
  obtain ⟨rfl, _⟩ := e
  rw [h] at h1; cases h1
theorem GAt.none {wide : Bool} {l : List UInt8} {i : Nat} : GAt wide [] l i i := .inl ⟨i, .nil, l.drop i, rfl, rfl, rfl, by simp [Fo.ser]⟩
theorem GAt.lo {wide : Bool} {k : UInt8} {ks l : List UInt8} {a r : Int} (h : GAt wide (k :: ks) l a r) : r = -1 ∨ (0 ≤ a ∧ a < r ∧ r ≤ l.length) := by
  rcases h with ⟨i, f, rest, rfl, hf, hd, rfl⟩ | ⟨rfl, _⟩
  · have h1 := fo_len_le hf
    have h2 := congrArg List.length hd
    simp at h1 h2
    right; omega
  · left; rfl
theorem GAt.node {wide : Bool} {k c : UInt8} {l lk r : List UInt8} {i : Nat} {b : Int} (hd : l.drop i = c :: r) (h : gopk wide k c = some lk) (h1 : GAt wide lk l (i + 1) b) : GAt wide [k] l i b := by
  have hn := drop_next hd
  rcases h1 with ⟨j, f, rest, e, hf, hd2, rfl⟩ | ⟨rfl, h1⟩
  · obtain rfl : j = i + 1 := by omega
    rw [hn] at hd2
    exact .inl ⟨i, .nd c f .nil, rest, rfl, ⟨k, [], lk, rfl, h, hf, rfl⟩, by rw [hd, hd2]; simp [Fo.ser], by simp [Fo.ser]; omega⟩
  · refine .inr ⟨rfl, .inr ?_⟩
    rintro f rest hf e
    obtain ⟨c', kids, rest', l2, rfl, h2, h3, h4⟩ := hf.cons_inv
    rw [Int.toNat_natCast, hd] at e
    simp [Fo.ser] at e
    obtain ⟨rfl, e⟩ := e
    rw [h] at h2; cases h2
    rcases h1 with h1 | h1
    · omega
    · exact h1 kids _ h3 (by rw [show ((i : Int) + 1).toNat = i + 1 by omega, hn]; exact e)
theorem GAt.cons {wide : Bool} {k : UInt8} {ks l : List UInt8} {a b d : Int} (h1 : GAt wide [k] l a b) (h2 : GAt wide ks l b d) : GAt wide (k :: ks) l a d := by
  rcases h1 with ⟨i, f, rest, rfl, hf, hd, rfl⟩ | ⟨rfl, h1⟩
  · have hd3 : l.drop (i + f.ser.length) = rest := by rw [← List.drop_drop, hd, List.drop_left' rfl]
    rcases h2 with ⟨j, g, rest2, e, hg, hd2, rfl⟩ | ⟨rfl, h2⟩
    · obtain rfl : j = i + f.ser.length := by omega
      rw [hd3] at hd2
      exact .inl ⟨i, f.app g, rest2, rfl, hf.app hg, by rw [hd, hd2, Fo.ser_app]; simp, by rw [Fo.ser_app]; simp; omega⟩
    · refine .inr ⟨rfl, .inr ?_⟩
      rintro f2 rest2 hf2 e
      obtain ⟨h5, h6⟩ := FOk.split (l := [k]) (ks := ks) hf2
      rw [Int.toNat_natCast, hd, ← Fo.take_drop 1 f2, List.append_assoc] at e
      obtain ⟨rfl, e2⟩ := fo_prefix _ _ _ _ _ hf h5 e
      rcases h2 with h2 | h2
      · omega
      · exact h2 _ _ h6 (by rw [show ((i : Int) + (((Fo.take [k].length f2).ser.length : Nat) : Int)).toNat = i + (Fo.take [k].length f2).ser.length by omega, hd3]; exact e2)
  · refine (show d = -1 from ?_) ▸ .inr ⟨rfl, ?_⟩
    · rcases h2 with ⟨j, g, rest2, e, hg, hd2, rfl⟩ | ⟨rfl, h2⟩
      · omega
      · rfl
    · rcases h1 with h1 | h1
      · exact .inl h1
      · refine .inr fun f2 rest2 hf2 e => ?_
        obtain ⟨h5, h6⟩ := FOk.split (l := [k]) (ks := ks) hf2
        rw [← Fo.take_drop 1 f2, List.append_assoc] at e
        exact h1 _ _ h5 e
theorem GAt.ser {wide : Bool} {ks l rest : List UInt8} {f : Fo} {i : Nat} (hf : FOk wide f ks) (hd : l.drop i = f.ser ++ rest) : GAt wide ks l i (i + f.ser.length) := .inl ⟨i, f, rest, rfl, hf, hd, rfl⟩
theorem gvalid_iff_at {wide : Bool} {k : UInt8} {l : List UInt8} {r : Int} (h : GAt wide [k] l 0 r) : r = l.length ↔ GValid wide k l := by
  constructor
  · intro e
    rcases h with ⟨i, f, rest, e1, hf, hd, e4⟩ | ⟨rfl, _⟩
    · obtain rfl : i = 0 := by omega
      simp at hd
      have : rest = [] := by
        have := congrArg List.length hd; simp at this
        exact List.eq_nil_of_length_eq_zero (by omega)
      subst this
      exact ⟨f, hf, by simpa using hd⟩
    · omega
  · rintro ⟨f, hf, e⟩
    have := h.uniq (GAt.ser (i := 0) (rest := []) hf (by simp [e]))
    rw [this, e]; simp

/-! ### Terms and tests as forests -/
def kc (k : Bool) : UInt8 := if k then 116 else 101
def emb : Tm → Fo → Fo
  | .leaf c, r => .nd c .nil r
  | .un c a, r => .nd c (emb a .nil) r
  | .bin c a b, r => .nd c (emb a (emb b .nil)) r
theorem emb_ser (t : Tm) (r : Fo) : (emb t r).ser = t.ser ++ r.ser := by
  induction t generalizing r with
  | leaf c => simp [emb, Fo.ser, Tm.ser]
  | un c a ih => simp [emb, Fo.ser, Tm.ser, ih]
  | bin c a b iha ihb => simp [emb, Fo.ser, Tm.ser, iha, ihb]
theorem gopk_kc (wide k : Bool) (c : UInt8) : gopk wide (kc k) c = (opk wide k c).map (List.map kc) := by
  rw [gopk_of (by cases k <;> rfl)]
  cases k
  · simp only [gopk0, kc, opk]
    simp
    split
    · rfl
    · split <;> rfl
  · simp only [gopk0, kc, opk]
    simp
    split
    · rfl
    · split
      · rfl
      · split
        · rfl
        · split <;> rfl
theorem emb_ok {wide k : Bool} {t : Tm} {r : Fo} {ks : List UInt8} (h : Ok wide k t) (hr : FOk wide r ks) : FOk wide (emb t r) (kc k :: ks) := by
  induction t generalizing k r ks with
  | leaf c => exact ⟨_, _, [], rfl, by rw [gopk_kc, show opk wide k c = some [] from h]; rfl, rfl, hr⟩
  | un c a ih =>
    obtain ⟨k1, h1, ha⟩ := h
    exact ⟨_, _, [kc k1], rfl, by rw [gopk_kc, h1]; rfl, ih ha rfl, hr⟩
  | bin c a b iha ihb =>
    obtain ⟨k1, k2, h1, ha, hb⟩ := h
    exact ⟨_, _, [kc k1, kc k2], rfl, by rw [gopk_kc, h1]; rfl, iha ha (ihb hb rfl), hr⟩
theorem emb_of (wide : Bool) : ∀ (n : Nat) (f : Fo) (k : Bool) (ks : List UInt8), f.ser.length ≤ n → FOk wide f (kc k :: ks) → ∃ t r, f = emb t r ∧ Ok wide k t ∧ FOk wide r ks := by
  intro n
  induction n with
  | zero =>
    intro f k ks hn h
    have := fo_len_le h
    simp at this; omega
  | succ n ih =>
    intro f k ks hn h
    obtain ⟨c, kids, rest, l, rfl, h1, h2, h3⟩ := h.cons_inv
    rw [gopk_kc] at h1
    cases ho : opk wide k c with
    | none => rw [ho] at h1; cases h1
    | some lb =>
      rw [ho] at h1
      simp at h1
      have hl := opk_len ho
      simp [Fo.ser] at hn
      match lb, hl with
      | [], _ =>
        subst h1
        rw [FOk.nil_inv h2]
        exact ⟨.leaf c, rest, rfl, ho, h3⟩
      | [k1], _ =>
        simp at h1; subst h1
        obtain ⟨a, r1, rfl, ha, hr1⟩ := ih kids k1 [] (by omega) h2
        rw [FOk.nil_inv hr1]
        exact ⟨.un c a, rest, rfl, ⟨k1, ho, ha⟩, h3⟩
      | [k1, k2], _ =>
        simp at h1; subst h1
        obtain ⟨a, r1, rfl, ha, hr1⟩ := ih kids k1 [kc k2] (by omega) h2
        rw [emb_ser] at hn
        simp at hn
        obtain ⟨b, r2, rfl, hb, hr2⟩ := ih r1 k2 [] (by omega) hr1
        rw [FOk.nil_inv hr2]
        exact ⟨.bin c a b, rest, rfl, ⟨k1, k2, ho, ha, hb⟩, h3⟩
theorem emb_inv {wide k : Bool} {f : Fo} {ks : List UInt8} (h : FOk wide f (kc k :: ks)) : ∃ t r, f = emb t r ∧ Ok wide k t ∧ FOk wide r ks := emb_of wide _ f k ks (Nat.le_refl _) h
theorem gat_of_pref {wide k : Bool} {l : List UInt8} {a r : Int} (h : GAt wide [kc k] l a r) : PrefAt wide k l a r := by
  rcases h with ⟨i, f, rest, rfl, hf, hd, rfl⟩ | ⟨rfl, h⟩
  · obtain ⟨t, r, rfl, ht, hr⟩ := emb_inv hf
    rw [FOk.nil_inv hr] at hd ⊢
    rw [emb_ser] at hd ⊢
    exact .inl ⟨i, t.ser.length, rfl, ⟨t, rest, ht, by simpa [Fo.ser] using hd, rfl⟩, by simp [Fo.ser]⟩
  · refine .inr ⟨rfl, ?_⟩
    rcases h with h | h
    · exact .inl h
    · refine .inr ?_
      rintro n ⟨t, r, ht, e, _⟩
      exact h (emb t .nil) r (emb_ok ht rfl) (by rw [e, emb_ser]; simp [Fo.ser])

/-! ### Programs as trees -/
inductive Pg where
  | skip
  | asg (v : UInt8) (e : Tm)
  | seq (a b : Pg)
  | ite (t : Tm) (a b : Pg)
  | whl (t : Tm) (a : Pg)
  | cho (a b : Pg)
  | asm (t : Tm)

namespace Pg
def ser : Pg → List UInt8
  | .skip => [115]
  | .asg v e => 97 :: v :: e.ser
  | .seq a b => 59 :: (ser a ++ ser b)
  | .ite t a b => 63 :: (t.ser ++ (ser a ++ ser b))
  | .whl t a => 64 :: (t.ser ++ ser a)
  | .cho a b => 47 :: (ser a ++ ser b)
  | .asm t => 126 :: t.ser
def ok (wide : Bool) : Pg → Prop
  | .skip => True
  | .asg v e => isVarB wide v = true ∧ Ok wide false e
  | .seq a b => ok wide a ∧ ok wide b
  | .ite t a b => Ok wide true t ∧ ok wide a ∧ ok wide b
  | .whl t a => Ok wide true t ∧ ok wide a
  | .cho a b => ok wide a ∧ ok wide b
  | .asm t => Ok wide true t
def fo : Pg → Fo → Fo
  | .skip, r => .nd 115 .nil r
  | .asg v e, r => .nd 97 (.nd v .nil (emb e .nil)) r
  | .seq a b, r => .nd 59 (fo a (fo b .nil)) r
  | .ite t a b, r => .nd 63 (emb t (fo a (fo b .nil))) r
  | .whl t a, r => .nd 64 (emb t (fo a .nil)) r
  | .cho a b, r => .nd 47 (fo a (fo b .nil)) r
  | .asm t, r => .nd 126 (emb t .nil) r
end Pg

theorem pg_ser (p : Pg) (r : Fo) : (p.fo r).ser = p.ser ++ r.ser := by
  induction p generalizing r with
  | skip => simp [Pg.fo, Pg.ser, Fo.ser]
  | asg v e => simp [Pg.fo, Pg.ser, Fo.ser, emb_ser]
  | seq a b iha ihb => simp [Pg.fo, Pg.ser, Fo.ser, iha, ihb]
  | ite t a b iha ihb => simp [Pg.fo, Pg.ser, Fo.ser, emb_ser, iha, ihb]
  | whl t a iha => simp [Pg.fo, Pg.ser, Fo.ser, emb_ser, iha]
  | cho a b iha ihb => simp [Pg.fo, Pg.ser, Fo.ser, iha, ihb]
  | asm t => simp [Pg.fo, Pg.ser, Fo.ser, emb_ser]
theorem pg_ok {wide : Bool} {p : Pg} {r : Fo} {ks : List UInt8} (h : p.ok wide) (hr : FOk wide r ks) : FOk wide (p.fo r) (112 :: ks) := by
  induction p generalizing r ks with
  | skip => exact ⟨_, _, [], rfl, rfl, rfl, hr⟩
  | asg v e => exact ⟨_, _, [118, 101], rfl, rfl, ⟨118, [101], [], rfl, by simp [gopk, gopk0, wideK, h.1], rfl, emb_ok (k := false) h.2 rfl⟩, hr⟩
  | seq a b iha ihb => exact ⟨_, _, [112, 112], rfl, rfl, iha h.1 (ihb h.2 rfl), hr⟩
  | ite t a b iha ihb => exact ⟨_, _, [116, 112, 112], rfl, rfl, emb_ok (k := true) h.1 (iha h.2.1 (ihb h.2.2 rfl)), hr⟩
  | whl t a iha => exact ⟨_, _, [116, 112], rfl, rfl, emb_ok (k := true) h.1 (iha h.2 rfl), hr⟩
  | cho a b iha ihb => exact ⟨_, _, [112, 112], rfl, rfl, iha h.1 (ihb h.2 rfl), hr⟩
  | asm t => exact ⟨_, _, [116], rfl, rfl, emb_ok (k := true) h rfl, hr⟩
theorem gopk_p {wide : Bool} {c : UInt8} {l : List UInt8} (h : gopk wide 112 c = some l) :
    (c = 115 ∧ l = []) ∨ (c = 97 ∧ l = [118, 101]) ∨ ((c = 59 ∨ c = 47) ∧ l = [112, 112]) ∨ (c = 63 ∧ l = [116, 112, 112]) ∨ (c = 64 ∧ l = [116, 112]) ∨ (c = 126 ∧ l = [116]) := by
  rw [gopk_of rfl] at h
  simp only [gopk0] at h
  simp at h
  by_cases h1 : c = 115
  · rw [if_pos h1] at h; cases h; simp [h1]
  rw [if_neg h1] at h
  by_cases h2 : c = 97
  · rw [if_pos h2] at h; cases h; simp [h2]
  rw [if_neg h2] at h
  by_cases h3 : c = 59 ∨ c = 47
  · rw [if_pos h3] at h; cases h; simp [h3]
  rw [if_neg h3] at h
  by_cases h4 : c = 63
  · rw [if_pos h4] at h; cases h; simp [h4]
  rw [if_neg h4] at h
  by_cases h5 : c = 64
  · rw [if_pos h5] at h; cases h; simp [h5]
  rw [if_neg h5] at h
  by_cases h6 : c = 126
  · rw [if_pos h6] at h; cases h; simp [h6]
  rw [if_neg h6] at h; cases h
theorem pg_of (wide : Bool) : ∀ (n : Nat) (f : Fo) (ks : List UInt8), f.ser.length ≤ n → FOk wide f (112 :: ks) → ∃ p r, f = Pg.fo p r ∧ p.ok wide ∧ FOk wide r ks := by
  intro n
  induction n with
  | zero =>
    intro f ks hn h
    have := fo_len_le h
    simp at this; omega
  | succ n ih =>
    intro f ks hn h
    obtain ⟨c, kids, rest, l, rfl, h1, h2, h3⟩ := h.cons_inv
    simp [Fo.ser] at hn
    have two : ∀ (g : Fo), g.ser.length ≤ n → FOk wide g [112, 112] → ∃ a b, g = Pg.fo a (Pg.fo b .nil) ∧ a.ok wide ∧ b.ok wide := by
      intro g hg hh
      obtain ⟨a, r1, rfl, ha, hr1⟩ := ih g [112] hg hh
      rw [pg_ser] at hg
      simp at hg
      obtain ⟨b, r2, rfl, hb, hr2⟩ := ih r1 [] (by omega) hr1
      rw [FOk.nil_inv hr2]
      exact ⟨a, b, rfl, ha, hb⟩
    rcases gopk_p h1 with ⟨rfl, rfl⟩ | ⟨rfl, rfl⟩ | ⟨hc, rfl⟩ | ⟨rfl, rfl⟩ | ⟨rfl, rfl⟩ | ⟨rfl, rfl⟩
    · rw [FOk.nil_inv h2]
      exact ⟨.skip, rest, rfl, trivial, h3⟩
    · obtain ⟨v, vk, r1, lv, rfl, hv, hvk, hr1⟩ := h2.cons_inv
      have hvv : isVarB wide v = true ∧ lv = [] := by
        rw [gopk_of rfl] at hv
        simp only [gopk0] at hv
        simp at hv
        exact ⟨hv.1, hv.2⟩
      rw [hvv.2] at hvk
      rw [FOk.nil_inv hvk]
      obtain ⟨e, r2, rfl, he, hr2⟩ := emb_inv (k := false) hr1
      rw [FOk.nil_inv hr2]
      exact ⟨.asg v e, rest, rfl, ⟨hvv.1, he⟩, h3⟩
    · obtain ⟨a, b, rfl, ha, hb⟩ := two kids (by omega) h2
      rcases hc with rfl | rfl
      · exact ⟨.seq a b, rest, rfl, ⟨ha, hb⟩, h3⟩
      · exact ⟨.cho a b, rest, rfl, ⟨ha, hb⟩, h3⟩
    · obtain ⟨t, r1, rfl, ht, hr1⟩ := emb_inv (k := true) h2
      rw [emb_ser] at hn
      simp at hn
      obtain ⟨a, b, rfl, ha, hb⟩ := two r1 (by omega) hr1
      exact ⟨.ite t a b, rest, rfl, ⟨ht, ha, hb⟩, h3⟩
    · obtain ⟨t, r1, rfl, ht, hr1⟩ := emb_inv (k := true) h2
      rw [emb_ser] at hn
      simp at hn
      obtain ⟨a, r2, rfl, ha, hr2⟩ := ih r1 [] (by omega) hr1
      rw [FOk.nil_inv hr2]
      exact ⟨.whl t a, rest, rfl, ⟨ht, ha⟩, h3⟩
    · obtain ⟨t, r1, rfl, ht, hr1⟩ := emb_inv (k := true) h2
      rw [FOk.nil_inv hr1]
      exact ⟨.asm t, rest, rfl, ht, h3⟩
theorem pg_inv {wide : Bool} {f : Fo} {ks : List UInt8} (h : FOk wide f (112 :: ks)) : ∃ p r, f = Pg.fo p r ∧ p.ok wide ∧ FOk wide r ks := pg_of wide _ f ks (Nat.le_refl _) h

/-- A text is a program exactly if its bytes are those of one tree. -/
def PValid (wide : Bool) (l : List UInt8) : Prop := ∃ p : Pg, p.ok wide ∧ l = p.ser
theorem pvalid_iff {wide : Bool} {l : List UInt8} : GValid wide 112 l ↔ PValid wide l := by
  constructor
  · rintro ⟨f, hf, rfl⟩
    obtain ⟨p, r, rfl, hp, hr⟩ := pg_inv hf
    rw [FOk.nil_inv hr]
    exact ⟨p, hp, by rw [pg_ser]; simp [Fo.ser]⟩
  · rintro ⟨p, hp, rfl⟩
    exact ⟨p.fo .nil, pg_ok hp rfl, by rw [pg_ser]; simp [Fo.ser]⟩
theorem emb_inj {wide k : Bool} {t t' : Tm} {r r' : Fo} (h : Ok wide k t) (h' : Ok wide k t') (e : emb t r = emb t' r') : t = t' ∧ r = r' := by
  have e2 := congrArg Fo.ser e
  rw [emb_ser, emb_ser] at e2
  obtain ⟨rfl, _⟩ := prefix_free t t' k _ _ h h' e2
  refine ⟨rfl, ?_⟩
  cases t <;> (simp only [emb] at e; injection e)
theorem pfo_inj {wide : Bool} {p q : Pg} {r r' : Fo} (h : p.ok wide) (h' : q.ok wide) (e : p.fo r = q.fo r') : p = q ∧ r = r' := by
  induction p generalizing q r r' with
  | skip => cases q <;> simp [Pg.fo] at e ⊢; exact e
  | asg v x =>
    cases q <;> simp [Pg.fo] at e ⊢
    obtain ⟨⟨rfl, h3⟩, h4⟩ := e
    exact ⟨⟨rfl, (emb_inj h.2 h'.2 h3).1⟩, h4⟩
  | seq a b iha ihb =>
    cases q <;> simp [Pg.fo] at e ⊢
    obtain ⟨h3, h4⟩ := e
    obtain ⟨rfl, h5⟩ := iha h.1 h'.1 h3
    exact ⟨⟨rfl, (ihb h.2 h'.2 h5).1⟩, h4⟩
  | ite t a b iha ihb =>
    cases q <;> simp [Pg.fo] at e ⊢
    obtain ⟨h3, h4⟩ := e
    obtain ⟨rfl, h5⟩ := emb_inj h.1 h'.1 h3
    obtain ⟨rfl, h6⟩ := iha h.2.1 h'.2.1 h5
    exact ⟨⟨rfl, rfl, (ihb h.2.2 h'.2.2 h6).1⟩, h4⟩
  | whl t a iha =>
    cases q <;> simp [Pg.fo] at e ⊢
    obtain ⟨h3, h4⟩ := e
    obtain ⟨rfl, h5⟩ := emb_inj h.1 h'.1 h3
    exact ⟨⟨rfl, (iha h.2 h'.2 h5).1⟩, h4⟩
  | cho a b iha ihb =>
    cases q <;> simp [Pg.fo] at e ⊢
    obtain ⟨h3, h4⟩ := e
    obtain ⟨rfl, h5⟩ := iha h.1 h'.1 h3
    exact ⟨⟨rfl, (ihb h.2 h'.2 h5).1⟩, h4⟩
  | asm t =>
    cases q <;> simp [Pg.fo] at e ⊢
    obtain ⟨h3, h4⟩ := e
    exact ⟨(emb_inj h h' h3).1, h4⟩
theorem pg_inj {wide : Bool} {p q : Pg} {r r' : List UInt8} (h : p.ok wide) (h' : q.ok wide) (e : p.ser ++ r = q.ser ++ r') : p = q ∧ r = r' := by
  have := fo_prefix (p.fo .nil) (q.fo .nil) [112] r r' (pg_ok h rfl) (pg_ok h' rfl) (by rw [pg_ser, pg_ser]; simpa [Fo.ser] using e)
  exact ⟨(pfo_inj h h' this.1).1, this.2⟩

/-! ### Wide texts by their own kinds -/
/-- The lists of kinds that there are. -/
theorem gopk0_lists {wide : Bool} {k c : UInt8} {l : List UInt8} (h : gopk0 wide k c = some l) : l = [] ∨ l = [101, 101] ∨ l = [116] ∨ l = [116, 116] ∨ l = [118, 101] ∨ l = [112, 112] ∨ l = [116, 112, 112] ∨ l = [116, 112] := by
  unfold gopk0 at h
  (repeat' split at h) <;> (simp at h <;> try subst h) <;> simp
def NarK (k : UInt8) : Prop := k = 101 ∨ k = 116 ∨ k = 118 ∨ k = 112
theorem nark_sub {k : UInt8} (h : NarK k) : wideK (k - 32) = true ∧ (k - 32) + 32 = k ∧ wideK k = false := by
  rcases h with rfl | rfl | rfl | rfl <;> decide
theorem gopk0_nark {wide : Bool} {k c : UInt8} {l : List UInt8} (h : gopk0 wide k c = some l) : ∀ j ∈ l, NarK j := by
  intro j hj
  rcases gopk0_lists h with rfl | rfl | rfl | rfl | rfl | rfl | rfl | rfl <;> simp at hj <;> (try rcases hj with rfl | rfl | rfl) <;> (try rcases hj with rfl | rfl) <;> (try subst hj) <;> simp [NarK]
theorem fok_wide : ∀ (f : Fo) (ks : List UInt8), (∀ k ∈ ks, NarK k) → (FOk false f (ks.map (· - 32)) ↔ FOk true f ks) := by
  intro f
  induction f with
  | nil => intro ks _; unfold FOk; simp
  | nd c kids rest ih1 ih2 =>
    intro ks hn
    constructor
    · rintro ⟨k', ks', l', e, h1, h2, h3⟩
      cases ks with
      | nil => simp at e
      | cons k ks =>
        simp at e
        obtain ⟨rfl, rfl⟩ := e
        obtain ⟨n1, n2, n3⟩ := nark_sub (hn k (by simp))
        rw [gopk_wide n1, n2] at h1
        cases ho : gopk0 true k c with
        | none => rw [ho] at h1; cases h1
        | some l =>
          rw [ho] at h1
          simp at h1
          subst h1
          exact ⟨k, ks, l, rfl, by rw [gopk_of n3, ho], (ih1 l (gopk0_nark ho)).1 h2, (ih2 ks (fun j hj => hn j (by simp [hj]))).1 h3⟩
    · rintro ⟨k, ks', l, rfl, h1, h2, h3⟩
      obtain ⟨n1, n2, n3⟩ := nark_sub (hn k (by simp))
      rw [gopk_of n3] at h1
      exact ⟨k - 32, ks'.map (· - 32), l.map (· - 32), rfl, by rw [gopk_wide n1, n2, h1]; rfl, (ih1 l (gopk0_nark h1)).2 h2, (ih2 ks' (fun j hj => hn j (by simp [hj]))).2 h3⟩
theorem gvalid_wide {k : UInt8} (hk : NarK k) {l : List UInt8} : GValid false (k - 32) l ↔ GValid true k l := by
  unfold GValid
  constructor
  · rintro ⟨f, h, e⟩; exact ⟨f, (fok_wide f [k] (by simpa using hk)).1 h, e⟩
  · rintro ⟨f, h, e⟩; exact ⟨f, (fok_wide f [k] (by simpa using hk)).2 h, e⟩
/-- The letter of the first state for one of the second. -/
def nrw (c : UInt8) : UInt8 := if c = 88 ∨ c = 89 ∨ c = 90 then c + 32 else c
theorem gopk0_nrw {k c : UInt8} (hk : NarK k) : gopk0 true k c = gopk0 false k (nrw c) := by
  by_cases h : c = 88 ∨ c = 89 ∨ c = 90
  · rcases hk with rfl | rfl | rfl | rfl <;> rcases h with rfl | rfl | rfl <;> rfl
  · have hv : isVarB true c = isVarB false c := by
      simp only [isVarB]
      simp only [not_or] at h
      simp [h.1, h.2.1, h.2.2]
    unfold nrw
    rw [if_neg h]
    unfold gopk0
    rw [hv]
end Go.Proofs.YtpdepihggpfmiabDoor
