/-
  DERIVED. GIVEN WITH THE SEED: THE CARDS: each row of YtknjoadicdijdaaDoorRows.lean that lists a variable, with what it lists TIED to the program's text (the seventh form; the later family's looks); each row that meets fmt, with fmt's text TOLD by the authors' own Lean function (tested against real Go, not proved from fmt's source: count such statements apart). THE CARD IS WHAT COUNTS. Prove the row's statement (the work); the ties are given (YtknjoadicdijdaaDoorTie.lean); close each card by the builder's one call (the guide's Derived/Test/ToyasCard.lean, 'card_holds'). Laid BY PROGRAM, IN A SANDBOX (cutbox-door.mjs). By AI agents, Wed Nov 11 2026. No macro, syntax, notation, axiom, sorry.
-/
import Derived.Test.YtknjoadicdijdaaDoorRows
import GoSem.ClaimSeven
namespace Go.Proofs.YtknjoadicdijdaaDoor
namespace Rows

/-- THE TIED CARD OF 'laws.FnSubstExpr'. -/
def fnSubstExprCard : Claim7 := { stood := { row := fnSubstExprRow, standIns := [], harness := (true, "a3c69964efb471d298df72a240bcae1802ec8fd6b6e7d74e2ee25902ccc045e5"), looks := false }, kinds := [], alts := [], laidByText := true, laidKinds := [.data, .pinned], laidTests := true, laidLooks := .later }
def FnSubstExprCardSaid : Prop := Claim7.holds Tryd.pinned (.plain (OpenSpec.ofChange fnSubstExprSpec)) fnSubstExprCard

/-- THE TIED CARD OF 'laws.FnSubstTest'. -/
def fnSubstTestCard : Claim7 := { stood := { row := fnSubstTestRow, standIns := [], harness := (true, "a3c69964efb471d298df72a240bcae1802ec8fd6b6e7d74e2ee25902ccc045e5"), looks := false }, kinds := [], alts := [], laidByText := true, laidKinds := [.data, .pinned], laidTests := true, laidLooks := .later }
def FnSubstTestCardSaid : Prop := Claim7.holds Tryd.pinned (.plain (OpenSpec.ofChange fnSubstTestSpec)) fnSubstTestCard

/-- THE TIED CARD OF 'laws.FnFirst'. -/
def fnFirstCard : Claim7 := { stood := { row := fnFirstRow, standIns := [], harness := (true, "a3c69964efb471d298df72a240bcae1802ec8fd6b6e7d74e2ee25902ccc045e5"), looks := false }, kinds := [], alts := [], laidByText := true, laidKinds := [.data], laidTests := true, laidLooks := .later }
def FnFirstCardSaid : Prop := Claim7.holds Tryd.pinned (.plain (OpenSpec.ofChange fnFirstSpec)) fnFirstCard

/-- THE TIED CARD OF 'laws.FnSubstPred'. -/
def fnSubstPredCard : Claim7 := { stood := { row := fnSubstPredRow, standIns := [], harness := (true, "a3c69964efb471d298df72a240bcae1802ec8fd6b6e7d74e2ee25902ccc045e5"), looks := false }, kinds := [], alts := [], laidByText := true, laidKinds := [.data, .pinned], laidTests := true, laidLooks := .later }
def FnSubstPredCardSaid : Prop := Claim7.holds Tryd.pinned (.plain (OpenSpec.ofChange fnSubstPredSpec)) fnSubstPredCard

/-- THE SECOND FORM's CARD OF 'laws.FnSubstExpr'. -/
def fnSubstExprUptoCard : Claim7 := { stood := { row := fnSubstExprUptoRow, standIns := [], harness := (true, "a3c69964efb471d298df72a240bcae1802ec8fd6b6e7d74e2ee25902ccc045e5"), looks := false }, kinds := [], alts := [], laidByText := true, laidKinds := [.data, .pinned], laidTests := true, laidLooks := .later }
def FnSubstExprUptoCardSaid : Prop := Claim7.holds Tryd.pinned (.plain (OpenSpec.upto fnSubstExprSpec)) fnSubstExprUptoCard

/-- THE SECOND FORM's CARD OF 'laws.FnSubstTest'. -/
def fnSubstTestUptoCard : Claim7 := { stood := { row := fnSubstTestUptoRow, standIns := [], harness := (true, "a3c69964efb471d298df72a240bcae1802ec8fd6b6e7d74e2ee25902ccc045e5"), looks := false }, kinds := [], alts := [], laidByText := true, laidKinds := [.data, .pinned], laidTests := true, laidLooks := .later }
def FnSubstTestUptoCardSaid : Prop := Claim7.holds Tryd.pinned (.plain (OpenSpec.upto fnSubstTestSpec)) fnSubstTestUptoCard

/-- THE SECOND FORM's CARD OF 'laws.FnFirst'. -/
def fnFirstUptoCard : Claim7 := { stood := { row := fnFirstUptoRow, standIns := [], harness := (true, "a3c69964efb471d298df72a240bcae1802ec8fd6b6e7d74e2ee25902ccc045e5"), looks := false }, kinds := [], alts := [], laidByText := true, laidKinds := [.data], laidTests := true, laidLooks := .later }
def FnFirstUptoCardSaid : Prop := Claim7.holds Tryd.pinned (.plain (OpenSpec.upto fnFirstSpec)) fnFirstUptoCard

/-- THE SECOND FORM's CARD OF 'laws.FnSubstPred'. -/
def fnSubstPredUptoCard : Claim7 := { stood := { row := fnSubstPredUptoRow, standIns := [], harness := (true, "a3c69964efb471d298df72a240bcae1802ec8fd6b6e7d74e2ee25902ccc045e5"), looks := false }, kinds := [], alts := [], laidByText := true, laidKinds := [.data, .pinned], laidTests := true, laidLooks := .later }
def FnSubstPredUptoCardSaid : Prop := Claim7.holds Tryd.pinned (.plain (OpenSpec.upto fnSubstPredSpec)) fnSubstPredUptoCard
end Rows
end Go.Proofs.YtknjoadicdijdaaDoor
