/-
  (impl.term).text: the bytes from which a term was read.
-/
import Derived.Test.YtheclmdpiijakaaTopT
import Derived.Test.YtheclmdpiijakaaTopB
namespace Go.Proofs.Ytheclmdpiijakaa
open Go.RowKit

theorem RepF.at {w : World} {B : Nat} : ∀ (m : Nat) {f : Fo} {b o : Nat}, RepF w B f b o → RepF w B (f.drop m) b (o + m * 2) := by
  intro m
  induction m with
  | zero => exact fun h => h
  | succ m ih =>
    intro f b o h
    cases f with
    | nil => exact trivial
    | nd c k r =>
      have := ih h.2
      rw [show o + (m + 1) * 2 = o + 2 + m * 2 by omega]
      exact this
theorem Fo.at {f : Fo} {m : Nat} (h : m < f.len) : ∃ c k r, f.drop m = .nd c k r ∧ f.drop (m + 1) = r ∧ (f.take (m + 1)).ser = (f.take m).ser ++ (Fo.nd c k .nil).ser := by
  induction m generalizing f with
  | zero =>
    cases f with
    | nil => simp [Fo.len] at h
    | nd c k r => exact ⟨c, k, r, rfl, rfl, by simp [Fo.take, Fo.ser]⟩
  | succ m ih =>
    cases f with
    | nil => simp [Fo.len] at h
    | nd c k r =>
      obtain ⟨c', k', r', h1, h2, h3⟩ := ih (f := r) (by simp [Fo.len] at h; omega)
      refine ⟨c', k', r', h1, h2, ?_⟩
      simp only [Fo.take, Fo.ser] at h3 ⊢
      rw [h3]; simp
theorem FOk.at {wide : Bool} {f : Fo} {ks : List UInt8} (h : FOk wide f ks) : ∀ (m : Nat) {c : UInt8} {k r : Fo}, f.drop m = .nd c k r → ∃ k0, FOk wide (.nd c k .nil) [k0] := by
  intro m
  induction m generalizing f ks with
  | zero =>
    rintro c k r e
    simp only [Fo.drop] at e
    subst e
    obtain ⟨k0, ks', l, rfl, h1, h2, h3⟩ := h
    exact ⟨k0, k0, [], l, rfl, h1, h2, rfl⟩
  | succ m ih =>
    intro c k r e
    cases f with
    | nil => simp [Fo.drop] at e
    | nd c' k' r' =>
      obtain ⟨k0, ks', l, rfl, h1, h2, h3⟩ := h
      exact ih h3 e
theorem Fo.take_len {f : Fo} : f.take f.len = f := by
  induction f with
  | nil => rfl
  | nd c k r _ ih => simp [Fo.len, Fo.take, ih]

theorem enc_all : ∀ n : Nat, n < 128 → Utf8.encode (wrap32 (n : Int)) = bs [UInt8.ofNat n] := by decide +kernel
theorem enc_of {c : UInt8} (h : c.toNat < 128) : Utf8.encode (wrap32 (c.toNat : Int)) = bs [c] := by
  rw [enc_all _ h]; simp

theorem emb_nd (t : Tm) : ∃ kids, ∀ r, emb t r = .nd t.head kids r := by
  cases t with
  | leaf c => exact ⟨.nil, fun r => rfl⟩
  | un c a => exact ⟨emb a .nil, fun r => rfl⟩
  | bin c a b => exact ⟨emb a (emb b .nil), fun r => rfl⟩
/-- The values x and y are the two cells of an expression or a test. -/
def RepH (w : World) (B : Nat) (t : Tm) (x y : Value) : Prop := ∃ kids, (∀ r, emb t r = .nd t.head kids r) ∧ RepN w B t.head kids x y
theorem RepH.rep {w : World} {B : Nat} {t : Tm} {x y : Value} (h : RepH w B t x y) : RepT w B t x y := by
  obtain ⟨kids, e, hr⟩ := h
  exact repT_ofN (e .nil).symm hr
theorem RepH.forms {w : World} {B : Nat} {t : Tm} {x y : Value} (h : RepH w B t x y) : ∃ (a : Option Addr) (n m : Nat), x = .int .u8 t.head.toNat ∧ y = .slice a n m := by
  obtain ⟨kids, e, hr⟩ := h
  obtain ⟨a, m, h1, h2⟩ := RepN.forms hr
  exact ⟨a, _, m, h1, h2⟩
theorem RepH.below {w w' : World} {B : Nat} {t : Tm} {x y : Value} (h : RepH w B t x y) (hb : Below w.heap.size w w') : RepH w' B t x y := by
  obtain ⟨kids, e, hr⟩ := h
  exact ⟨kids, e, hr.below hb⟩
theorem RepH.of {w : World} {B : Nat} {t : Tm} {r : Fo} {b o : Nat} (h : RepF w B (emb t r) b o) : (∃ (a : Option Addr) (n m : Nat), w.cell? ⟨b, o, none⟩ = some (.int .u8 t.head.toNat) ∧ w.cell? ⟨b, o + 1, none⟩ = some (.slice a n m) ∧ RepH w B t (.int .u8 t.head.toNat) (.slice a n m)) ∧ RepF w B r b (o + 2) := by
  obtain ⟨kids, e⟩ := emb_nd t
  rw [e] at h
  obtain ⟨⟨x, y, h1, h2, h3⟩, h4⟩ := h
  obtain ⟨a, m, rfl, rfl⟩ := RepN.forms (show RepN w B t.head kids x y from h3)
  exact ⟨⟨a, _, m, h1, h2, kids, e, h3⟩, h4⟩
end Go.Proofs.Ytheclmdpiijakaa
