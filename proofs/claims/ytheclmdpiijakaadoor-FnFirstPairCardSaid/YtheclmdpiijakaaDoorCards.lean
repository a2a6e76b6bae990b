/-
  DERIVED. GIVEN WITH THE SEED: THE CARDS: each row of YtheclmdpiijakaaDoorRows.lean that lists a variable, with what it lists TIED to the program's text (the seventh form; the later family's looks); each row that meets fmt, with fmt's text TOLD by the authors' own Lean function (tested against real Go, not proved from fmt's source: count such statements apart). THE CARD IS WHAT COUNTS. Prove the row's statement (the work); the ties are given (YtheclmdpiijakaaDoorTie.lean); close each card by the builder's one call (the guide's Derived/Test/ToyasCard.lean, 'card_holds'). Laid BY PROGRAM, IN A SANDBOX (cutbox-door.mjs). By AI agents, Wed Nov 11 2026. No macro, syntax, notation, axiom, sorry.
-/
import Derived.Test.YtheclmdpiijakaaDoorRows
import GoSem.ClaimSeven
namespace Go.Proofs.YtheclmdpiijakaaDoor
namespace Rows

/-- THE TIED CARD OF 'laws.FnRelOf'. -/
def fnRelOfCard : Claim7 := { stood := { row := fnRelOfRow, standIns := [], harness := (true, "d0d5434d5a7624b38f957cba8e9b5a576cfbc562e494941666db221f5deb4677"), looks := true }, kinds := [], alts := [], laidByText := true, laidKinds := [.data, .pinned, .pinned], laidTests := true, laidLooks := .later }
def FnRelOfCardSaid : Prop := Claim7.holds Tryd.pinned (.plain (OpenSpec.ofChange fnRelOfSpec)) fnRelOfCard

/-- THE TIED CARD OF 'laws.FnEvalWide'. -/
def fnEvalWideCard : Claim7 := { stood := { row := fnEvalWideRow, standIns := [], harness := (true, "d0d5434d5a7624b38f957cba8e9b5a576cfbc562e494941666db221f5deb4677"), looks := true }, kinds := [], alts := [], laidByText := true, laidKinds := [.data, .pinned, .pinned], laidTests := true, laidLooks := .later }
def FnEvalWideCardSaid : Prop := Claim7.holds Tryd.pinned (.plain (OpenSpec.ofChange fnEvalWideSpec)) fnEvalWideCard

/-- THE TIED CARD OF 'laws.FnFirstPair'. -/
def fnFirstPairCard : Claim7 := { stood := { row := fnFirstPairRow, standIns := [], harness := (true, "d0d5434d5a7624b38f957cba8e9b5a576cfbc562e494941666db221f5deb4677"), looks := true }, kinds := [], alts := [], laidByText := true, laidKinds := [.data], laidTests := true, laidLooks := .later }
def FnFirstPairCardSaid : Prop := Claim7.holds Tryd.pinned (.plain (OpenSpec.ofChange fnFirstPairSpec)) fnFirstPairCard

/-- THE TIED CARD OF 'laws.FnExactStatementsOf'. -/
def fnExactStatementsOfCard : Claim7 := { stood := { row := fnExactStatementsOfRow, standIns := [], harness := (true, "d0d5434d5a7624b38f957cba8e9b5a576cfbc562e494941666db221f5deb4677"), looks := true }, kinds := [], alts := [], laidByText := true, laidKinds := [.data, .pinned, .pinned], laidTests := true, laidLooks := .later }
def FnExactStatementsOfCardSaid : Prop := Claim7.holds Tryd.pinned (.plain (OpenSpec.ofChange fnExactStatementsOfSpec)) fnExactStatementsOfCard

/-- THE TIED CARD OF 'laws.FnExactLockstepProduct'. -/
def fnExactLockstepProductCard : Claim7 := { stood := { row := fnExactLockstepProductRow, standIns := [], harness := (true, "d0d5434d5a7624b38f957cba8e9b5a576cfbc562e494941666db221f5deb4677"), looks := true }, kinds := [], alts := [], laidByText := true, laidKinds := [.data, .pinned, .pinned], laidTests := true, laidLooks := .later }
def FnExactLockstepProductCardSaid : Prop := Claim7.holds Tryd.pinned (.plain (OpenSpec.ofChange fnExactLockstepProductSpec)) fnExactLockstepProductCard

/-- THE SECOND FORM's CARD OF 'laws.FnRelOf'. -/
def fnRelOfUptoCard : Claim7 := { stood := { row := fnRelOfUptoRow, standIns := [], harness := (true, "d0d5434d5a7624b38f957cba8e9b5a576cfbc562e494941666db221f5deb4677"), looks := true }, kinds := [], alts := [], laidByText := true, laidKinds := [.data, .pinned, .pinned], laidTests := true, laidLooks := .later }
def FnRelOfUptoCardSaid : Prop := Claim7.holds Tryd.pinned (.plain (OpenSpec.upto fnRelOfSpec)) fnRelOfUptoCard

/-- THE SECOND FORM's CARD OF 'laws.FnEvalWide'. -/
def fnEvalWideUptoCard : Claim7 := { stood := { row := fnEvalWideUptoRow, standIns := [], harness := (true, "d0d5434d5a7624b38f957cba8e9b5a576cfbc562e494941666db221f5deb4677"), looks := true }, kinds := [], alts := [], laidByText := true, laidKinds := [.data, .pinned, .pinned], laidTests := true, laidLooks := .later }
def FnEvalWideUptoCardSaid : Prop := Claim7.holds Tryd.pinned (.plain (OpenSpec.upto fnEvalWideSpec)) fnEvalWideUptoCard

/-- THE SECOND FORM's CARD OF 'laws.FnFirstPair'. -/
def fnFirstPairUptoCard : Claim7 := { stood := { row := fnFirstPairUptoRow, standIns := [], harness := (true, "d0d5434d5a7624b38f957cba8e9b5a576cfbc562e494941666db221f5deb4677"), looks := true }, kinds := [], alts := [], laidByText := true, laidKinds := [.data], laidTests := true, laidLooks := .later }
def FnFirstPairUptoCardSaid : Prop := Claim7.holds Tryd.pinned (.plain (OpenSpec.upto fnFirstPairSpec)) fnFirstPairUptoCard

/-- THE SECOND FORM's CARD OF 'laws.FnExactStatementsOf'. -/
def fnExactStatementsOfUptoCard : Claim7 := { stood := { row := fnExactStatementsOfUptoRow, standIns := [], harness := (true, "d0d5434d5a7624b38f957cba8e9b5a576cfbc562e494941666db221f5deb4677"), looks := true }, kinds := [], alts := [], laidByText := true, laidKinds := [.data, .pinned, .pinned], laidTests := true, laidLooks := .later }
def FnExactStatementsOfUptoCardSaid : Prop := Claim7.holds Tryd.pinned (.plain (OpenSpec.upto fnExactStatementsOfSpec)) fnExactStatementsOfUptoCard

/-- THE SECOND FORM's CARD OF 'laws.FnExactLockstepProduct'. -/
def fnExactLockstepProductUptoCard : Claim7 := { stood := { row := fnExactLockstepProductUptoRow, standIns := [], harness := (true, "d0d5434d5a7624b38f957cba8e9b5a576cfbc562e494941666db221f5deb4677"), looks := true }, kinds := [], alts := [], laidByText := true, laidKinds := [.data, .pinned, .pinned], laidTests := true, laidLooks := .later }
def FnExactLockstepProductUptoCardSaid : Prop := Claim7.holds Tryd.pinned (.plain (OpenSpec.upto fnExactLockstepProductSpec)) fnExactLockstepProductUptoCard
end Rows
end Go.Proofs.YtheclmdpiijakaaDoor
