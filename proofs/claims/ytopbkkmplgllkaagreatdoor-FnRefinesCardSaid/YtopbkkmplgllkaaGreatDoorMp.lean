/-
  What the walk from one state tells is what the program can do from there.
-/
import Derived.Test.YtopbkkmplgllkaaGreatDoorMo
import Derived.Test.YtopbkkmplgllkaaGreatDoorWk4
import Derived.Test.YtopbkkmplgllkaaGreatDoorFlw
namespace Go.Proofs.YtopbkkmplgllkaaGreatDoor
open Go.RowKit Tm Go.Great Classical

theorem out_pure {p : Pg} {m : Mp} {E : List Nat} {lo bl : Bool} {i : Nat} (hi : i < 27) (h : Wk mdl (flG p) 27 (flS p) (fun j => j == i) 27 m E lo bl) (hT : Top (flG p)) : (∀ j, j < 27 → inE E j = rT p i j) ∧ lo = rL p i ∧ bl = rK p i := by
  have kn : ∀ y, m y ≠ none ↔ Star (Edge mdl (flG p)) (flS p, i) y := by
    intro y
    rw [h.kn y]
    constructor
    · rintro ⟨q, _, e, hs⟩
      rw [← eq_of_beq e]; exact hs
    · exact fun hs => ⟨i, hi, by simp, hs⟩
  refine ⟨fun j _ => ?_, ?_, ?_⟩
  · rw [Bool.eq_iff_iff, show inE E j = true ↔ j ∈ E from by simp [inE], h.fin j, kn, rT_iff]
    exact fin_iff hT (fl_lay p)
  · rw [Bool.eq_iff_iff, h.lp, rL_iff, ← lps_iff hT (fl_lay p)]
    constructor
    · rintro ⟨q, _, e, hs⟩
      rw [← eq_of_beq e]; exact hs
    · exact fun hs => ⟨i, hi, by simp, hs⟩
  · rw [Bool.eq_iff_iff, h.blk, rK_iff, ← stk_iff hT (fl_lay p)]
    constructor
    · rintro ⟨y, h1, h2⟩
      exact ⟨y, (kn y).1 h1, h2⟩
    · rintro ⟨y, h1, h2⟩
      exact ⟨y, (kn y).2 h1, h2⟩
/-- The outcome from a state, as cells. -/
noncomputable def outC (p : Pg) (i : Nat) : List Value := [.int .u32 (nb 27 (rT p i) : Nat), .bool (rL p i), .bool (rK p i)]
noncomputable def outV (p : Pg) (i : Nat) : Value := .agg #[.int .u32 (nb 27 (rT p i) : Nat), .bool (rL p i), .bool (rK p i)]
theorem outcome_p {p : Pg} {w1 : World} {B : Nat} {sp : Value} (hF : FlowOk false w1 B sp (flS p) (flG p)) (i : Nat) (hi : i < 27) (w : World) (hb : Below w1.heap.size w1 w) :
    Calls Tryz.prog 34 #[.agg #[sp, .int .i64 (flS p : Nat)], .int .i64 i] w fun e w' => e = .returned (outV p i) ∧ Below w.heap.size w w' := by
  refine (outcome_any hF.flown1 i hi w hb).mono ?_
  rintro e w' ⟨m, E, lo, bl, rfl, hk, hw⟩
  obtain ⟨h1, h2, h3⟩ := out_pure hi hk hF.top
  refine ⟨?_, hw⟩
  rw [nb_congr h1, h2, h3]
  rfl
end Go.Proofs.YtopbkkmplgllkaaGreatDoor
