/-
  impl.readTerm: the tree and true for a text of at most 200 bytes that is a term of the kind, and the zero value and false for every other text: what mustRead panics at is recovered.
-/
import Derived.Test.YtgkoljphndgoeaaMust
import Derived.Defers
import Derived.Recover
namespace Go.Proofs.Ytgkoljphndgoeaa
open Go.RowKit

theorem fok_kind {c : UInt8} {kids : Fo} {k : UInt8} (h : FOk false (.nd c kids .nil) [k]) : IsKind k := by
  obtain ⟨k', ks', l, e, h1, _⟩ := h
  cases e
  exact gopk_kind h1

theorem kc_int (k : Bool) : ((kc k).toNat : Int) = kcode k := by cases k <;> rfl
theorem valid_gvalid {k : Bool} {l : List UInt8} : GValid false (kc k) l ↔ Valid false k l := by
  constructor
  · rintro ⟨f, hf, rfl⟩
    obtain ⟨t, r, rfl, ht, hr⟩ := emb_inv hf
    rw [FOk.nil_inv hr]
    exact ⟨t, ht, by rw [emb_ser]; simp [Fo.ser]⟩
  · rintro ⟨t, ht, rfl⟩
    exact ⟨emb t .nil, emb_ok ht rfl, by rw [emb_ser]; simp [Fo.ser]⟩
theorem kc_kind (k : Bool) : IsKind (kc k) := by cases k <;> simp [kc, IsKind, NarK]
theorem kc_lim (k : Bool) : lim (kc k) = 200 := by cases k <;> rfl
def wcode (k : Bool) : Int := if k then 84 else 69
theorem kcw (k : Bool) : NarK (kc k) ∧ IsKind (kc k - 32) ∧ lim (kc k - 32) = 200 ∧ ((kc k - 32).toNat : Int) = wcode k := by cases k <;> simp [kc, IsKind, NarK, wideK, lim, wcode]
theorem emb_w {k : Bool} {t : Tm} (ht : Ok true k t) : FOk false (emb t .nil) [kc k - 32] := (fok_wide (emb t .nil) [kc k] (by simpa using (kcw k).1)).2 (emb_ok ht rfl)
theorem validw_gvalid {k : Bool} {l : List UInt8} : GValid false (kc k - 32) l ↔ Valid true k l := by
  rw [gvalid_wide (kcw k).1]
  constructor
  · rintro ⟨f, hf, rfl⟩
    obtain ⟨t, r, rfl, ht, hr⟩ := emb_inv hf
    rw [FOk.nil_inv hr]
    exact ⟨t, ht, by rw [emb_ser]; simp [Fo.ser]⟩
  · rintro ⟨t, ht, rfl⟩
    exact ⟨emb t .nil, emb_ok ht rfl, by rw [emb_ser]; simp [Fo.ser]⟩
end Go.Proofs.Ytgkoljphndgoeaa
