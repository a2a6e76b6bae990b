/-
  DERIVED. GIVEN WITH THE SEED: THE CARDS: each row of YtpdepihggpfmiaaDoorRows.lean that lists a variable, with what it lists TIED to the program's text (the seventh form; the later family's looks); each row that meets fmt, with fmt's text TOLD by the authors' own Lean function (tested against real Go, not proved from fmt's source: count such statements apart). THE CARD IS WHAT COUNTS. Prove the row's statement (the work); the ties are given (YtpdepihggpfmiaaDoorTie.lean); close each card by the builder's one call (the guide's Derived/Test/ToyasCard.lean, 'card_holds'). Laid BY PROGRAM, IN A SANDBOX (cutbox-door.mjs). By AI agents, Wed Nov 11 2026. No macro, syntax, notation, axiom, sorry.
-/
import Derived.Test.YtpdepihggpfmiaaDoorRows
import GoSem.ClaimSeven
namespace Go.Proofs.YtpdepihggpfmiaaDoor
namespace Rows

/-- THE TIED CARD OF 'laws.FnExactExprValid'. -/
def fnExactExprValidCard : Claim7 := { stood := { row := fnExactExprValidRow, standIns := [], harness := (true, "84ba86022223743474e4229108adf5f7b9bb56811247abec9a6d365964ccc816"), looks := false }, kinds := [], alts := [], laidByText := true, laidKinds := [.data, .pinned, .pinned], laidTests := true, laidLooks := .later }
def FnExactExprValidCardSaid : Prop := Claim7.holds Tryd.pinned (.plain (OpenSpec.ofChange fnExactExprValidSpec)) fnExactExprValidCard

/-- THE TIED CARD OF 'laws.FnExactTestValid'. -/
def fnExactTestValidCard : Claim7 := { stood := { row := fnExactTestValidRow, standIns := [], harness := (true, "84ba86022223743474e4229108adf5f7b9bb56811247abec9a6d365964ccc816"), looks := false }, kinds := [], alts := [], laidByText := true, laidKinds := [.data, .pinned, .pinned], laidTests := true, laidLooks := .later }
def FnExactTestValidCardSaid : Prop := Claim7.holds Tryd.pinned (.plain (OpenSpec.ofChange fnExactTestValidSpec)) fnExactTestValidCard

/-- THE TIED CARD OF 'laws.FnExactEvalExpr'. -/
def fnExactEvalExprCard : Claim7 := { stood := { row := fnExactEvalExprRow, standIns := [], harness := (true, "84ba86022223743474e4229108adf5f7b9bb56811247abec9a6d365964ccc816"), looks := false }, kinds := [], alts := [], laidByText := true, laidKinds := [.data, .pinned, .pinned], laidTests := true, laidLooks := .later }
def FnExactEvalExprCardSaid : Prop := Claim7.holds Tryd.pinned (.plain (OpenSpec.ofChange fnExactEvalExprSpec)) fnExactEvalExprCard

/-- THE TIED CARD OF 'laws.FnExactEvalTest'. -/
def fnExactEvalTestCard : Claim7 := { stood := { row := fnExactEvalTestRow, standIns := [], harness := (true, "84ba86022223743474e4229108adf5f7b9bb56811247abec9a6d365964ccc816"), looks := false }, kinds := [], alts := [], laidByText := true, laidKinds := [.data, .pinned, .pinned], laidTests := true, laidLooks := .later }
def FnExactEvalTestCardSaid : Prop := Claim7.holds Tryd.pinned (.plain (OpenSpec.ofChange fnExactEvalTestSpec)) fnExactEvalTestCard

/-- THE TIED CARD OF 'laws.FnExactExprVars'. -/
def fnExactExprVarsCard : Claim7 := { stood := { row := fnExactExprVarsRow, standIns := [], harness := (true, "84ba86022223743474e4229108adf5f7b9bb56811247abec9a6d365964ccc816"), looks := false }, kinds := [], alts := [], laidByText := true, laidKinds := [.data, .pinned, .pinned], laidTests := true, laidLooks := .later }
def FnExactExprVarsCardSaid : Prop := Claim7.holds Tryd.pinned (.plain (OpenSpec.ofChange fnExactExprVarsSpec)) fnExactExprVarsCard

/-- THE TIED CARD OF 'laws.FnExactTestVars'. -/
def fnExactTestVarsCard : Claim7 := { stood := { row := fnExactTestVarsRow, standIns := [], harness := (true, "84ba86022223743474e4229108adf5f7b9bb56811247abec9a6d365964ccc816"), looks := false }, kinds := [], alts := [], laidByText := true, laidKinds := [.data, .pinned, .pinned], laidTests := true, laidLooks := .later }
def FnExactTestVarsCardSaid : Prop := Claim7.holds Tryd.pinned (.plain (OpenSpec.ofChange fnExactTestVarsSpec)) fnExactTestVarsCard

/-- THE TIED CARD OF 'laws.FnExactShowExpr'. -/
def fnExactShowExprCard : Claim7 := { stood := { row := fnExactShowExprRow, standIns := [], harness := (true, "84ba86022223743474e4229108adf5f7b9bb56811247abec9a6d365964ccc816"), looks := false }, kinds := [], alts := [], laidByText := true, laidKinds := [.data, .pinned, .pinned], laidTests := true, laidLooks := .later }
def FnExactShowExprCardSaid : Prop := Claim7.holds Tryd.pinned (.plain (OpenSpec.ofChange fnExactShowExprSpec)) fnExactShowExprCard

/-- THE TIED CARD OF 'laws.FnExactShowTest'. -/
def fnExactShowTestCard : Claim7 := { stood := { row := fnExactShowTestRow, standIns := [], harness := (true, "84ba86022223743474e4229108adf5f7b9bb56811247abec9a6d365964ccc816"), looks := false }, kinds := [], alts := [], laidByText := true, laidKinds := [.data, .pinned, .pinned], laidTests := true, laidLooks := .later }
def FnExactShowTestCardSaid : Prop := Claim7.holds Tryd.pinned (.plain (OpenSpec.ofChange fnExactShowTestSpec)) fnExactShowTestCard

/-- THE TIED CARD OF 'laws.FnExactFoldExpr'. -/
def fnExactFoldExprCard : Claim7 := { stood := { row := fnExactFoldExprRow, standIns := [], harness := (true, "84ba86022223743474e4229108adf5f7b9bb56811247abec9a6d365964ccc816"), looks := false }, kinds := [], alts := [], laidByText := true, laidKinds := [.data, .pinned, .pinned], laidTests := true, laidLooks := .later }
def FnExactFoldExprCardSaid : Prop := Claim7.holds Tryd.pinned (.plain (OpenSpec.ofChange fnExactFoldExprSpec)) fnExactFoldExprCard

/-- THE TIED CARD OF 'laws.FnExactSubstExpr'. -/
def fnExactSubstExprCard : Claim7 := { stood := { row := fnExactSubstExprRow, standIns := [], harness := (true, "84ba86022223743474e4229108adf5f7b9bb56811247abec9a6d365964ccc816"), looks := false }, kinds := [], alts := [], laidByText := true, laidKinds := [.data, .pinned, .pinned], laidTests := true, laidLooks := .later }
def FnExactSubstExprCardSaid : Prop := Claim7.holds Tryd.pinned (.plain (OpenSpec.ofChange fnExactSubstExprSpec)) fnExactSubstExprCard

/-- THE TIED CARD OF 'laws.FnExactSubstTest'. -/
def fnExactSubstTestCard : Claim7 := { stood := { row := fnExactSubstTestRow, standIns := [], harness := (true, "84ba86022223743474e4229108adf5f7b9bb56811247abec9a6d365964ccc816"), looks := false }, kinds := [], alts := [], laidByText := true, laidKinds := [.data, .pinned, .pinned], laidTests := true, laidLooks := .later }
def FnExactSubstTestCardSaid : Prop := Claim7.holds Tryd.pinned (.plain (OpenSpec.ofChange fnExactSubstTestSpec)) fnExactSubstTestCard

/-- THE SECOND FORM's CARD OF 'laws.FnExactExprValid'. -/
def fnExactExprValidUptoCard : Claim7 := { stood := { row := fnExactExprValidUptoRow, standIns := [], harness := (true, "84ba86022223743474e4229108adf5f7b9bb56811247abec9a6d365964ccc816"), looks := false }, kinds := [], alts := [], laidByText := true, laidKinds := [.data, .pinned, .pinned], laidTests := true, laidLooks := .later }
def FnExactExprValidUptoCardSaid : Prop := Claim7.holds Tryd.pinned (.plain (OpenSpec.upto fnExactExprValidSpec)) fnExactExprValidUptoCard

/-- THE SECOND FORM's CARD OF 'laws.FnExactTestValid'. -/
def fnExactTestValidUptoCard : Claim7 := { stood := { row := fnExactTestValidUptoRow, standIns := [], harness := (true, "84ba86022223743474e4229108adf5f7b9bb56811247abec9a6d365964ccc816"), looks := false }, kinds := [], alts := [], laidByText := true, laidKinds := [.data, .pinned, .pinned], laidTests := true, laidLooks := .later }
def FnExactTestValidUptoCardSaid : Prop := Claim7.holds Tryd.pinned (.plain (OpenSpec.upto fnExactTestValidSpec)) fnExactTestValidUptoCard

/-- THE SECOND FORM's CARD OF 'laws.FnExactEvalExpr'. -/
def fnExactEvalExprUptoCard : Claim7 := { stood := { row := fnExactEvalExprUptoRow, standIns := [], harness := (true, "84ba86022223743474e4229108adf5f7b9bb56811247abec9a6d365964ccc816"), looks := false }, kinds := [], alts := [], laidByText := true, laidKinds := [.data, .pinned, .pinned], laidTests := true, laidLooks := .later }
def FnExactEvalExprUptoCardSaid : Prop := Claim7.holds Tryd.pinned (.plain (OpenSpec.upto fnExactEvalExprSpec)) fnExactEvalExprUptoCard

/-- THE SECOND FORM's CARD OF 'laws.FnExactEvalTest'. -/
def fnExactEvalTestUptoCard : Claim7 := { stood := { row := fnExactEvalTestUptoRow, standIns := [], harness := (true, "84ba86022223743474e4229108adf5f7b9bb56811247abec9a6d365964ccc816"), looks := false }, kinds := [], alts := [], laidByText := true, laidKinds := [.data, .pinned, .pinned], laidTests := true, laidLooks := .later }
def FnExactEvalTestUptoCardSaid : Prop := Claim7.holds Tryd.pinned (.plain (OpenSpec.upto fnExactEvalTestSpec)) fnExactEvalTestUptoCard

/-- THE SECOND FORM's CARD OF 'laws.FnExactExprVars'. -/
def fnExactExprVarsUptoCard : Claim7 := { stood := { row := fnExactExprVarsUptoRow, standIns := [], harness := (true, "84ba86022223743474e4229108adf5f7b9bb56811247abec9a6d365964ccc816"), looks := false }, kinds := [], alts := [], laidByText := true, laidKinds := [.data, .pinned, .pinned], laidTests := true, laidLooks := .later }
def FnExactExprVarsUptoCardSaid : Prop := Claim7.holds Tryd.pinned (.plain (OpenSpec.upto fnExactExprVarsSpec)) fnExactExprVarsUptoCard

/-- THE SECOND FORM's CARD OF 'laws.FnExactTestVars'. -/
def fnExactTestVarsUptoCard : Claim7 := { stood := { row := fnExactTestVarsUptoRow, standIns := [], harness := (true, "84ba86022223743474e4229108adf5f7b9bb56811247abec9a6d365964ccc816"), looks := false }, kinds := [], alts := [], laidByText := true, laidKinds := [.data, .pinned, .pinned], laidTests := true, laidLooks := .later }
def FnExactTestVarsUptoCardSaid : Prop := Claim7.holds Tryd.pinned (.plain (OpenSpec.upto fnExactTestVarsSpec)) fnExactTestVarsUptoCard

/-- THE SECOND FORM's CARD OF 'laws.FnExactShowExpr'. -/
def fnExactShowExprUptoCard : Claim7 := { stood := { row := fnExactShowExprUptoRow, standIns := [], harness := (true, "84ba86022223743474e4229108adf5f7b9bb56811247abec9a6d365964ccc816"), looks := false }, kinds := [], alts := [], laidByText := true, laidKinds := [.data, .pinned, .pinned], laidTests := true, laidLooks := .later }
def FnExactShowExprUptoCardSaid : Prop := Claim7.holds Tryd.pinned (.plain (OpenSpec.upto fnExactShowExprSpec)) fnExactShowExprUptoCard

/-- THE SECOND FORM's CARD OF 'laws.FnExactShowTest'. -/
def fnExactShowTestUptoCard : Claim7 := { stood := { row := fnExactShowTestUptoRow, standIns := [], harness := (true, "84ba86022223743474e4229108adf5f7b9bb56811247abec9a6d365964ccc816"), looks := false }, kinds := [], alts := [], laidByText := true, laidKinds := [.data, .pinned, .pinned], laidTests := true, laidLooks := .later }
def FnExactShowTestUptoCardSaid : Prop := Claim7.holds Tryd.pinned (.plain (OpenSpec.upto fnExactShowTestSpec)) fnExactShowTestUptoCard

/-- THE SECOND FORM's CARD OF 'laws.FnExactFoldExpr'. -/
def fnExactFoldExprUptoCard : Claim7 := { stood := { row := fnExactFoldExprUptoRow, standIns := [], harness := (true, "84ba86022223743474e4229108adf5f7b9bb56811247abec9a6d365964ccc816"), looks := false }, kinds := [], alts := [], laidByText := true, laidKinds := [.data, .pinned, .pinned], laidTests := true, laidLooks := .later }
def FnExactFoldExprUptoCardSaid : Prop := Claim7.holds Tryd.pinned (.plain (OpenSpec.upto fnExactFoldExprSpec)) fnExactFoldExprUptoCard

/-- THE SECOND FORM's CARD OF 'laws.FnExactSubstExpr'. -/
def fnExactSubstExprUptoCard : Claim7 := { stood := { row := fnExactSubstExprUptoRow, standIns := [], harness := (true, "84ba86022223743474e4229108adf5f7b9bb56811247abec9a6d365964ccc816"), looks := false }, kinds := [], alts := [], laidByText := true, laidKinds := [.data, .pinned, .pinned], laidTests := true, laidLooks := .later }
def FnExactSubstExprUptoCardSaid : Prop := Claim7.holds Tryd.pinned (.plain (OpenSpec.upto fnExactSubstExprSpec)) fnExactSubstExprUptoCard

/-- THE SECOND FORM's CARD OF 'laws.FnExactSubstTest'. -/
def fnExactSubstTestUptoCard : Claim7 := { stood := { row := fnExactSubstTestUptoRow, standIns := [], harness := (true, "84ba86022223743474e4229108adf5f7b9bb56811247abec9a6d365964ccc816"), looks := false }, kinds := [], alts := [], laidByText := true, laidKinds := [.data, .pinned, .pinned], laidTests := true, laidLooks := .later }
def FnExactSubstTestUptoCardSaid : Prop := Claim7.holds Tryd.pinned (.plain (OpenSpec.upto fnExactSubstTestSpec)) fnExactSubstTestUptoCard
end Rows
end Go.Proofs.YtpdepihggpfmiaaDoor
