/-
  What was read is as it was where the cells of a relation are written.
-/
import Derived.Test.YtinjmdjnkneidaaGreatDoorTwo
import Derived.Test.YtinjmdjnkneidaaGreatDoorTopG
namespace Go.Proofs.YtinjmdjnkneidaaGreatDoor
open Go.RowKit Tm Go.Great Go.ChangeMaps

/-! ### A flow is as it was where cells of a relation are written -/
section
variable {w w' : World} {g : Nat} {n : Int} {B : Nat}
theorem RepF.other (h0 : w.cell? ⟨g, 0, none⟩ = some (.int .u32 n)) (hc : ∀ b o v, b ≠ g → w.cell? ⟨b, o, none⟩ = some v → w'.cell? ⟨b, o, none⟩ = some v) : ∀ {f : Fo} {b o : Nat}, b ≠ g → RepF w B f b o → RepF w' B f b o := by
  intro f
  induction f with
  | nil => exact fun _ h => h
  | nd c kids rest ih1 ih2 =>
    rintro b o hb ⟨⟨x, y, h1, h2, h3, a, m, h4, hcap, h5⟩, h6⟩
    refine ⟨⟨x, y, hc _ _ _ hb h1, hc _ _ _ hb h2, h3, a, m, h4, hcap, ?_⟩, ih2 hb h6⟩
    rcases h5 with h5 | ⟨kb, h5, h7, h8⟩
    · exact .inl h5
    · cases kids with
      | nil => exact .inl rfl
      | nd c2 k2 r2 =>
        have hk : kb ≠ g := by
          rintro rfl
          obtain ⟨⟨x2, y2, g1, _, g3, _⟩, _⟩ := h8
          rw [h0] at g1
          injection g1 with g1
          rw [← g1] at g3
          cases g3
        exact .inr ⟨kb, h5, h7, ih1 hk h8⟩
theorem RepH.other (h0 : w.cell? ⟨g, 0, none⟩ = some (.int .u32 n)) (hc : ∀ b o v, b ≠ g → w.cell? ⟨b, o, none⟩ = some v → w'.cell? ⟨b, o, none⟩ = some v) {t : Tm} {x y : Value} (h : RepH w B t x y) : RepH w' B t x y := by
  obtain ⟨kids, e, h3, a, m, h4, hcap, h5⟩ := h
  refine ⟨kids, e, h3, a, m, h4, hcap, ?_⟩
  rcases h5 with h5 | ⟨kb, h5, h7, h8⟩
  · exact .inl h5
  · revert h8
    generalize hk : kids = ks
    intro h8
    cases ks with
    | nil => exact .inl rfl
    | nd c2 k2 r2 =>
      have hk : kb ≠ g := by
        rintro rfl
        obtain ⟨⟨x2, y2, g1, _, g3, _⟩, _⟩ := h8
        rw [h0] at g1
        injection g1 with g1
        rw [← g1] at g3
        cases g3
      exact .inr ⟨kb, h5, h7, RepF.other h0 hc hk h8⟩
theorem StV.other (h0 : w.cell? ⟨g, 0, none⟩ = some (.int .u32 n)) (hc : ∀ b o v, b ≠ g → w.cell? ⟨b, o, none⟩ = some v → w'.cell? ⟨b, o, none⟩ = some v) : ∀ {p : Pg} {v : Value}, StV w B p v → StV w' B p v := by
  intro p
  induction p with
  | skip => exact fun h => h
  | asg x e => rintro v ⟨a, b, h, h1⟩; exact ⟨a, b, h, h1.other h0 hc⟩
  | seq p q ihp ihq => rintro v ⟨a, b, h, h1, h2⟩; exact ⟨a, b, h, ihp h1, ihq h2⟩
  | ite t p q ihp ihq => rintro v ⟨x, y, a, b, h, h3, h1, h2⟩; exact ⟨x, y, a, b, h, h3.other h0 hc, ihp h1, ihq h2⟩
  | whl t p ihp => rintro v ⟨x, y, a, h, h3, h1⟩; exact ⟨x, y, a, h, h3.other h0 hc, ihp h1⟩
  | cho p q ihp ihq => rintro v ⟨a, b, h, h1, h2⟩; exact ⟨a, b, h, ihp h1, ihq h2⟩
  | asm t => rintro v ⟨x, y, h, h3⟩; exact ⟨x, y, h, h3.other h0 hc⟩
end
theorem setRow_far {w : World} {g b : Nat} (h : b ≠ g) (cs : Array Value) (o : Nat) : (w.setRow g cs).cell? ⟨b, o, none⟩ = w.cell? ⟨b, o, none⟩ := by
  exact World.cell?_of_block (setRow_other _ _ _ _ h)
theorem StV.rowOther {w : World} {g : Nat} {A : Nat → Nat → Bool} {B : Nat} {p : Pg} {v : Value} (h : StV w B p v) (hb : Blk w g (relC .u32 A) 46) (cs : Array Value) : StV (w.setRow g cs) B p v :=
  StV.other ((hb.cell 0).trans (relC_get _ _ (by omega))) (fun b o v hne hv => by rw [setRow_far hne]; exact hv) h
end Go.Proofs.YtinjmdjnkneidaaGreatDoor
