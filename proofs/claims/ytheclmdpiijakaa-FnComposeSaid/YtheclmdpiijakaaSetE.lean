/-
  Laws of sets of states as texts and as functions, for the property laws of programs. Nothing of the program's text stands here.
-/
import Derived.Test.YtheclmdpiijakaaSetX
import Derived.Test.YtheclmdpiijakaaSetJ
import Derived.Test.YtheclmdpiijakaaSetC
namespace Go.Proofs.Ytheclmdpiijakaa
open Go.RowKit

theorem hs_bs (F : Nat → Bool) (i : Nat) (hi : i < 27) : hs (bs (tb F)).data.toList i = F i := by
  rw [show (bs (tb F)).data.toList = tb F by simp [bs]]
  rw [show tb F = tbn 27 F from rfl, hs_tbn]
  simp [hi]
theorem bs_hs {p : ByteArray} (h : Set27 p) : bs (tb (hs p.data.toList)) = p := by
  rw [show tb (hs p.data.toList) = tbn 27 (hs p.data.toList) from rfl, tbn_hs h]
  exact ByteArray.ext (by simp [bs])
theorem bs_ext {F G : Nat → Bool} (h : ∀ i, i < 27 → F i = G i) : bs (tb F) = bs (tb G) := by rw [tb_congr h]
theorem set27_tb (F : Nat → Bool) : Set27 (bs (tb F)) := by
  unfold Set27
  rw [show (bs (tb F)).data.toList = tb F by simp [bs]]
  exact bits_tbn 27 F
theorem bs_inj {F G : Nat → Bool} (h : bs (tb F) = bs (tb G)) (i : Nat) (hi : i < 27) : F i = G i := by
  rw [← hs_bs F i hi, ← hs_bs G i hi, h]
theorem cnt_same {n : Nat} {F G : Nat → Bool} (h : ∀ i, i < n → F i = G i) : cnt n F = cnt n G := by
  induction n with
  | zero => rfl
  | succ n ih => unfold cnt; rw [ih (fun i hi => h i (by omega)), h n (by omega)]
theorem cnt_not (n : Nat) (F : Nat → Bool) : cnt n F + cnt n (fun i => !F i) = n := by
  induction n with
  | zero => rfl
  | succ n ih => unfold cnt; cases h : F n <;> simp [h] <;> omega
theorem cnt_and_or (n : Nat) (F G : Nat → Bool) : cnt n (fun i => F i && G i) + cnt n (fun i => F i || G i) = cnt n F + cnt n G := by
  induction n with
  | zero => rfl
  | succ n ih => unfold cnt; cases h : F n <;> cases h2 : G n <;> simp [h, h2] <;> omega
theorem cnt_nil {n : Nat} {F : Nat → Bool} : cnt n F = 0 ↔ ∀ i, i < n → F i = false := by
  induction n with
  | zero => exact ⟨fun _ i hi => by omega, fun _ => rfl⟩
  | succ n ih =>
    unfold cnt
    constructor
    · intro h i hi
      have h1 : cnt n F = 0 := by omega
      by_cases e : i = n
      · subst e; cases hF : F i <;> simp [hF] at h ⊢
      · exact ih.1 h1 i (by omega)
    · intro h
      rw [ih.2 (fun i hi => h i (by omega)), h n (by omega)]; rfl
theorem wi_congr {n : Nat} {F G F' G' : Nat → Bool} (h : ∀ i, i < n → F i = F' i) (h' : ∀ i, i < n → G i = G' i) : wi n F G = wi n F' G' := by
  rw [Bool.eq_iff_iff, wi_iff, wi_iff]
  exact ⟨fun k i hi => by rw [← h i hi, ← h' i hi]; exact k i hi, fun k i hi => by rw [h i hi, h' i hi]; exact k i hi⟩
theorem wi_not (n : Nat) (F G : Nat → Bool) : wi n (fun i => !G i) (fun i => !F i) = wi n F G := by
  rw [Bool.eq_iff_iff, wi_iff, wi_iff]
  exact ⟨fun k i hi => by have := k i hi; cases h : F i <;> cases h2 : G i <;> simp_all, fun k i hi => by have := k i hi; cases h : F i <;> cases h2 : G i <;> simp_all⟩
end Go.Proofs.Ytheclmdpiijakaa
