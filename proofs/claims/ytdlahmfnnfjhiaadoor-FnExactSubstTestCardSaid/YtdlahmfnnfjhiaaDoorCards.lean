/-
  DERIVED. GIVEN WITH THE SEED: THE CARDS: each row of YtdlahmfnnfjhiaaDoorRows.lean that lists a variable, with what it lists TIED to the program's text (the seventh form; the later family's looks); each row that meets fmt, with fmt's text TOLD by the authors' own Lean function (tested against real Go, not proved from fmt's source: count such statements apart). THE CARD IS WHAT COUNTS. Prove the row's statement (the work); the ties are given (YtdlahmfnnfjhiaaDoorTie.lean); close each card by the builder's one call (the guide's Derived/Test/ToyasCard.lean, 'card_holds'). Laid BY PROGRAM, IN A SANDBOX (cutbox-door.mjs). By AI agents, Wed Nov 11 2026. No macro, syntax, notation, axiom, sorry.
-/
import Derived.Test.YtdlahmfnnfjhiaaDoorRows
import GoSem.ClaimSeven
namespace Go.Proofs.YtdlahmfnnfjhiaaDoor
namespace Rows

/-- THE TIED CARD OF 'laws.FnExactSubstExpr'. -/
def fnExactSubstExprCard : Claim7 := { stood := { row := fnExactSubstExprRow, standIns := [], harness := (true, "81b2317198d1df264dcb412c13d3401a684d83c8478429d9e43f56359f42c524"), looks := false }, kinds := [], alts := [], laidByText := true, laidKinds := [.data, .pinned], laidTests := true, laidLooks := .later }
def FnExactSubstExprCardSaid : Prop := Claim7.holds Tryd.pinned (.plain (OpenSpec.ofChange fnExactSubstExprSpec)) fnExactSubstExprCard

/-- THE TIED CARD OF 'laws.FnExactSubstTest'. -/
def fnExactSubstTestCard : Claim7 := { stood := { row := fnExactSubstTestRow, standIns := [], harness := (true, "81b2317198d1df264dcb412c13d3401a684d83c8478429d9e43f56359f42c524"), looks := false }, kinds := [], alts := [], laidByText := true, laidKinds := [.data, .pinned], laidTests := true, laidLooks := .later }
def FnExactSubstTestCardSaid : Prop := Claim7.holds Tryd.pinned (.plain (OpenSpec.ofChange fnExactSubstTestSpec)) fnExactSubstTestCard

/-- THE SECOND FORM's CARD OF 'laws.FnExactSubstExpr'. -/
def fnExactSubstExprUptoCard : Claim7 := { stood := { row := fnExactSubstExprUptoRow, standIns := [], harness := (true, "81b2317198d1df264dcb412c13d3401a684d83c8478429d9e43f56359f42c524"), looks := false }, kinds := [], alts := [], laidByText := true, laidKinds := [.data, .pinned], laidTests := true, laidLooks := .later }
def FnExactSubstExprUptoCardSaid : Prop := Claim7.holds Tryd.pinned (.plain (OpenSpec.upto fnExactSubstExprSpec)) fnExactSubstExprUptoCard

/-- THE SECOND FORM's CARD OF 'laws.FnExactSubstTest'. -/
def fnExactSubstTestUptoCard : Claim7 := { stood := { row := fnExactSubstTestUptoRow, standIns := [], harness := (true, "81b2317198d1df264dcb412c13d3401a684d83c8478429d9e43f56359f42c524"), looks := false }, kinds := [], alts := [], laidByText := true, laidKinds := [.data, .pinned], laidTests := true, laidLooks := .later }
def FnExactSubstTestUptoCardSaid : Prop := Claim7.holds Tryd.pinned (.plain (OpenSpec.upto fnExactSubstTestSpec)) fnExactSubstTestUptoCard
end Rows
end Go.Proofs.YtdlahmfnnfjhiaaDoor
