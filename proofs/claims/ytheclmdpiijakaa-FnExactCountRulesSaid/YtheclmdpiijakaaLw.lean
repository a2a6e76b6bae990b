/-
  Lines of derivations as they come in: a slice of structs opened to its cells.
-/
import Derived.Test.YtheclmdpiijakaaLq
import Derived.ProofKit
import Derived.ChangeOld
import Derived.OpenShut
import Derived.Deep.Slices
import Derived.Deep.Fields
namespace Go.Proofs.Ytheclmdpiijakaa
open Go.RowKit Go.ChangeShapes Go.WideShapes Go.Deep

section
variable {H : Type} {enc : TypeId × Value → H} {w : World} {base : Nat} {held : Bool}
theorem open_refs {n : Nat} {v : Value} {y : DataW H × List MemPlace} (h : DataW.trod enc Try.prog w base (fun _ => true) held n 71 [v] = some y) : ∃ xs : List Int, xs.length ≤ maxLen ∧ IntR w v xs := by
  rcases open_ints Try.underlying71 Try.underlying3 (by kernel_rfl) h with ⟨hv, _⟩ | ⟨a, len, cap, zs, hv, _, hl, hm, hz, _, hc, _⟩
  · cases hv
    exact ⟨[], by simp, .inl ⟨rfl, rfl⟩⟩
  · cases hv
    simp only [if_true] at hz
    have hlen : (zs.take len).length = len := by rw [List.length_take]; omega
    refine ⟨zs.take len, by omega, .inr ⟨a, cap, by rw [hlen], fun i x hx => ?_⟩⟩
    have hi : i < len := by have := (List.getElem?_eq_some_iff.1 hx).1; omega
    rw [List.getElem?_take_of_lt hi] at hx
    have := hc i (by omega)
    rw [List.getD_eq_getElem?_getD, hx] at this
    exact this
theorem add_at (p : Addr) (f : Nat) : p.add (f + 1) = ⟨p.block, p.off + (f + 1), none⟩ := by
  unfold Addr.add
  rw [if_neg (by omega)]
theorem open_line {n : Nat} {p : Addr} {cs : List Value} {y : DataW H × List MemPlace} (hc : w.cells? base p 6 = some cs) (h : DataW.trod enc Try.prog w base (fun _ => true) held n 73 cs = some y) :
    ∃ l rv, Fits l ∧ LnP w p l rv ∧ IntR w rv l.rf := by
  obtain ⟨_, hcl, hat⟩ := World.cells?_some hc
  match cs, hcl with
  | [v0, v1, v2, v3, v4, v5], _ =>
    obtain ⟨xs, m, _, _, _, hlen, hf⟩ := DataW.trod_struct Try.underlying73 h
    match xs, hlen with
    | [y0, y1, y2, y3, y4, y5], _ =>
      have cS : Try.prog.cellsOf 9 = 1 := by kernel_rfl
      have cI : Try.prog.cellsOf 71 = 1 := by kernel_rfl
      have f0 := hf 0 _ rfl
      have f1 := hf 1 _ rfl
      have f2 := hf 2 _ rfl
      have f3 := hf 3 _ rfl
      have f4 := hf 4 _ rfl
      have f5 := hf 5 _ rfl

      simp only [List.getElem_toArray, List.getElem_cons_zero, List.getElem_cons_succ] at f0 f1 f2 f3 f4 f5
      simp only [cS] at f0 f1 f2 f3 f4
      simp only [cI] at f5
      simp only [List.drop_succ_cons, List.drop_zero, List.take_succ_cons, List.take_zero, List.getElem?_cons_zero, List.getElem?_cons_succ] at f0 f1 f2 f3 f4 f5
      obtain ⟨s0, e0, _, z0⟩ := DataW.trod_string Try.underlying9 f0
      obtain ⟨s1, e1, _, z1⟩ := DataW.trod_string Try.underlying9 f1
      obtain ⟨s2, e2, _, z2⟩ := DataW.trod_string Try.underlying9 f2
      obtain ⟨s3, e3, _, z3⟩ := DataW.trod_string Try.underlying9 f3
      obtain ⟨s4, e4, _, z4⟩ := DataW.trod_string Try.underlying9 f4
      obtain ⟨zs, z5, hR⟩ := open_refs f5
      cases e0; cases e1; cases e2; cases e3; cases e4
      refine ⟨⟨s0, s1, s2, s3, s4, zs⟩, v5, ⟨z0, z1, z2, z3, z4, z5⟩, ⟨?_, ?_, ?_, ?_, ?_, ?_⟩, hR⟩
      · have := hat 0 (by omega); simpa [Addr.add] using this
      · rw [← add_at p 0]; exact hat 1 (by omega)
      · rw [← add_at p 1]; exact hat 2 (by omega)
      · rw [← add_at p 2]; exact hat 3 (by omega)
      · rw [← add_at p 3]; exact hat 4 (by omega)
      · rw [← add_at p 4]; exact hat 5 (by omega)
theorem list_of {α : Type} {P : Nat → α → Prop} : ∀ n, (∀ i, i < n → ∃ x, P i x) → ∃ xs : List α, xs.length = n ∧ ∀ i x, xs[i]? = some x → P i x
  | 0, _ => ⟨[], rfl, fun i x h => by simp at h⟩
  | n + 1, h => by
    obtain ⟨xs, hl, hx⟩ := list_of n (fun i hi => h i (by omega))
    obtain ⟨x, hp⟩ := h n (by omega)
    refine ⟨xs ++ [x], by simp [hl], fun i z hz => ?_⟩
    by_cases e : i < xs.length
    · rw [List.getElem?_append_left e] at hz
      exact hx i z hz
    · rw [List.getElem?_append_right (by omega)] at hz
      have h0 : i - xs.length = 0 := by
        have := (List.getElem?_eq_some_iff.1 hz).1
        simp at this
        omega
      rw [h0] at hz
      cases hz
      rw [show i = n by omega]
      exact hp
theorem open_lines {n : Nat} {v : Value} {y : DataW H × List MemPlace} (h : DataW.trod enc Try.prog w base (fun _ => true) held n 37 [v] = some y) : ∃ ls : List Ln, ls.length ≤ maxLen ∧ (∀ l ∈ ls, Fits l) ∧ LnR w v ls := by
  rcases open_slice Try.underlying37 h with ⟨hv, _⟩ | ⟨a, len, cap, m, k, D, Pl, hv, _, hl, hm, hmm, _, hi⟩
  · cases hv
    exact ⟨[], by simp, fun l hl => by simp at hl, .inl ⟨rfl, rfl⟩⟩
  · cases hv
    simp only [if_true] at hmm
    have h6 : Try.prog.cellsOf 73 = 6 := by kernel_rfl
    obtain ⟨ls, hls, hP⟩ := list_of (P := fun i l => Fits l ∧ ∃ rv, LnC w a i l rv ∧ IntR w rv l.rf) len (fun i hil => by
      obtain ⟨cs, hc, ht⟩ := hi i (by omega)
      rw [h6] at hc
      obtain ⟨l, rv, h1, h2, h3⟩ := open_line hc ht
      exact ⟨l, h1, rv, h2, h3⟩)
    refine ⟨ls, by omega, fun l hl => ?_, .inr ⟨a, cap, by rw [hls], fun i l hil => (hP i l hil).2⟩⟩
    obtain ⟨i, hi', rfl⟩ := List.getElem_of_mem hl
    exact (hP i _ (List.getElem?_eq_getElem hi')).1
end
end Go.Proofs.Ytheclmdpiijakaa
