/-
  DERIVED. GIVEN WITH THE SEED: THE CARDS: each row of YtinillnccfgooaaDoorRows.lean that lists a variable, with what it lists TIED to the program's text (the seventh form; the later family's looks); each row that meets fmt, with fmt's text TOLD by the authors' own Lean function (tested against real Go, not proved from fmt's source: count such statements apart). THE CARD IS WHAT COUNTS. Prove the row's statement (the work); the ties are given (YtinillnccfgooaaDoorTie.lean); close each card by the builder's one call (the guide's Derived/Test/ToyasCard.lean, 'card_holds'). Laid BY PROGRAM, IN A SANDBOX (cutbox-door.mjs). By AI agents, Wed Nov 11 2026. No macro, syntax, notation, axiom, sorry.
-/
import Derived.Test.YtinillnccfgooaaDoorRows
import GoSem.ClaimSeven
namespace Go.Proofs.YtinillnccfgooaaDoor
namespace Rows

/-- THE TIED CARD OF 'laws.FnExactSequentialProduct'. -/
def fnExactSequentialProductCard : Claim7 := { stood := { row := fnExactSequentialProductRow, standIns := [], harness := (true, "b0bd96f291a5bf0911231b3c30ff7d9c68ac90cc9db3b5bf165bee1305dff6be"), looks := true }, kinds := [], alts := [], laidByText := true, laidKinds := [.data, .pinned, .pinned], laidTests := true, laidLooks := .later }
def FnExactSequentialProductCardSaid : Prop := Claim7.holds Tryd.pinned (.plain (OpenSpec.ofChange fnExactSequentialProductSpec)) fnExactSequentialProductCard

/-- THE TIED CARD OF 'laws.FnExactLockstepProduct'. -/
def fnExactLockstepProductCard : Claim7 := { stood := { row := fnExactLockstepProductRow, standIns := [], harness := (true, "b0bd96f291a5bf0911231b3c30ff7d9c68ac90cc9db3b5bf165bee1305dff6be"), looks := true }, kinds := [], alts := [], laidByText := true, laidKinds := [.data, .pinned, .pinned], laidTests := true, laidLooks := .later }
def FnExactLockstepProductCardSaid : Prop := Claim7.holds Tryd.pinned (.plain (OpenSpec.ofChange fnExactLockstepProductSpec)) fnExactLockstepProductCard

/-- THE TIED CARD OF 'laws.FnExactRightOf'. -/
def fnExactRightOfCard : Claim7 := { stood := { row := fnExactRightOfRow, standIns := [], harness := (true, "b0bd96f291a5bf0911231b3c30ff7d9c68ac90cc9db3b5bf165bee1305dff6be"), looks := true }, kinds := [], alts := [], laidByText := true, laidKinds := [.data, .pinned, .pinned], laidTests := true, laidLooks := .later }
def FnExactRightOfCardSaid : Prop := Claim7.holds Tryd.pinned (.plain (OpenSpec.ofChange fnExactRightOfSpec)) fnExactRightOfCard

/-- THE TIED CARD OF 'laws.FnExactMirrorWide'. -/
def fnExactMirrorWideCard : Claim7 := { stood := { row := fnExactMirrorWideRow, standIns := [], harness := (true, "b0bd96f291a5bf0911231b3c30ff7d9c68ac90cc9db3b5bf165bee1305dff6be"), looks := true }, kinds := [], alts := [], laidByText := true, laidKinds := [.data, .pinned, .pinned], laidTests := true, laidLooks := .later }
def FnExactMirrorWideCardSaid : Prop := Claim7.holds Tryd.pinned (.plain (OpenSpec.ofChange fnExactMirrorWideSpec)) fnExactMirrorWideCard

/-- THE TIED CARD OF 'laws.FnExactShowWide'. -/
def fnExactShowWideCard : Claim7 := { stood := { row := fnExactShowWideRow, standIns := [], harness := (true, "b0bd96f291a5bf0911231b3c30ff7d9c68ac90cc9db3b5bf165bee1305dff6be"), looks := true }, kinds := [], alts := [], laidByText := true, laidKinds := [.data, .pinned, .pinned], laidTests := true, laidLooks := .later }
def FnExactShowWideCardSaid : Prop := Claim7.holds Tryd.pinned (.plain (OpenSpec.ofChange fnExactShowWideSpec)) fnExactShowWideCard

/-- THE TIED CARD OF 'laws.FnExactWideProgramValid'. -/
def fnExactWideProgramValidCard : Claim7 := { stood := { row := fnExactWideProgramValidRow, standIns := [], harness := (true, "b0bd96f291a5bf0911231b3c30ff7d9c68ac90cc9db3b5bf165bee1305dff6be"), looks := true }, kinds := [], alts := [], laidByText := true, laidKinds := [.data, .pinned, .pinned], laidTests := true, laidLooks := .later }
def FnExactWideProgramValidCardSaid : Prop := Claim7.holds Tryd.pinned (.plain (OpenSpec.ofChange fnExactWideProgramValidSpec)) fnExactWideProgramValidCard

/-- THE TIED CARD OF 'laws.FnExactWideValid'. -/
def fnExactWideValidCard : Claim7 := { stood := { row := fnExactWideValidRow, standIns := [], harness := (true, "b0bd96f291a5bf0911231b3c30ff7d9c68ac90cc9db3b5bf165bee1305dff6be"), looks := true }, kinds := [], alts := [], laidByText := true, laidKinds := [.data, .pinned, .pinned], laidTests := true, laidLooks := .later }
def FnExactWideValidCardSaid : Prop := Claim7.holds Tryd.pinned (.plain (OpenSpec.ofChange fnExactWideValidSpec)) fnExactWideValidCard

/-- THE TIED CARD OF 'laws.FnExactEvalWide'. -/
def fnExactEvalWideCard : Claim7 := { stood := { row := fnExactEvalWideRow, standIns := [], harness := (true, "b0bd96f291a5bf0911231b3c30ff7d9c68ac90cc9db3b5bf165bee1305dff6be"), looks := true }, kinds := [], alts := [], laidByText := true, laidKinds := [.data, .pinned, .pinned], laidTests := true, laidLooks := .later }
def FnExactEvalWideCardSaid : Prop := Claim7.holds Tryd.pinned (.plain (OpenSpec.ofChange fnExactEvalWideSpec)) fnExactEvalWideCard

/-- THE TIED CARD OF 'laws.FnExactRelOf'. -/
def fnExactRelOfCard : Claim7 := { stood := { row := fnExactRelOfRow, standIns := [], harness := (true, "b0bd96f291a5bf0911231b3c30ff7d9c68ac90cc9db3b5bf165bee1305dff6be"), looks := true }, kinds := [], alts := [], laidByText := true, laidKinds := [.data, .pinned, .pinned], laidTests := true, laidLooks := .later }
def FnExactRelOfCardSaid : Prop := Claim7.holds Tryd.pinned (.plain (OpenSpec.ofChange fnExactRelOfSpec)) fnExactRelOfCard

/-- THE TIED CARD OF 'laws.FnExactFirstPair'. -/
def fnExactFirstPairCard : Claim7 := { stood := { row := fnExactFirstPairRow, standIns := [], harness := (true, "b0bd96f291a5bf0911231b3c30ff7d9c68ac90cc9db3b5bf165bee1305dff6be"), looks := true }, kinds := [], alts := [], laidByText := true, laidKinds := [.data], laidTests := true, laidLooks := .later }
def FnExactFirstPairCardSaid : Prop := Claim7.holds Tryd.pinned (.plain (OpenSpec.ofChange fnExactFirstPairSpec)) fnExactFirstPairCard

/-- THE TIED CARD OF 'laws.FnExactStatementsOf'. -/
def fnExactStatementsOfCard : Claim7 := { stood := { row := fnExactStatementsOfRow, standIns := [], harness := (true, "b0bd96f291a5bf0911231b3c30ff7d9c68ac90cc9db3b5bf165bee1305dff6be"), looks := true }, kinds := [], alts := [], laidByText := true, laidKinds := [.data, .pinned, .pinned], laidTests := true, laidLooks := .later }
def FnExactStatementsOfCardSaid : Prop := Claim7.holds Tryd.pinned (.plain (OpenSpec.ofChange fnExactStatementsOfSpec)) fnExactStatementsOfCard

/-- THE SECOND FORM's CARD OF 'laws.FnExactSequentialProduct'. -/
def fnExactSequentialProductUptoCard : Claim7 := { stood := { row := fnExactSequentialProductUptoRow, standIns := [], harness := (true, "b0bd96f291a5bf0911231b3c30ff7d9c68ac90cc9db3b5bf165bee1305dff6be"), looks := true }, kinds := [], alts := [], laidByText := true, laidKinds := [.data, .pinned, .pinned], laidTests := true, laidLooks := .later }
def FnExactSequentialProductUptoCardSaid : Prop := Claim7.holds Tryd.pinned (.plain (OpenSpec.upto fnExactSequentialProductSpec)) fnExactSequentialProductUptoCard

/-- THE SECOND FORM's CARD OF 'laws.FnExactLockstepProduct'. -/
def fnExactLockstepProductUptoCard : Claim7 := { stood := { row := fnExactLockstepProductUptoRow, standIns := [], harness := (true, "b0bd96f291a5bf0911231b3c30ff7d9c68ac90cc9db3b5bf165bee1305dff6be"), looks := true }, kinds := [], alts := [], laidByText := true, laidKinds := [.data, .pinned, .pinned], laidTests := true, laidLooks := .later }
def FnExactLockstepProductUptoCardSaid : Prop := Claim7.holds Tryd.pinned (.plain (OpenSpec.upto fnExactLockstepProductSpec)) fnExactLockstepProductUptoCard

/-- THE SECOND FORM's CARD OF 'laws.FnExactRightOf'. -/
def fnExactRightOfUptoCard : Claim7 := { stood := { row := fnExactRightOfUptoRow, standIns := [], harness := (true, "b0bd96f291a5bf0911231b3c30ff7d9c68ac90cc9db3b5bf165bee1305dff6be"), looks := true }, kinds := [], alts := [], laidByText := true, laidKinds := [.data, .pinned, .pinned], laidTests := true, laidLooks := .later }
def FnExactRightOfUptoCardSaid : Prop := Claim7.holds Tryd.pinned (.plain (OpenSpec.upto fnExactRightOfSpec)) fnExactRightOfUptoCard

/-- THE SECOND FORM's CARD OF 'laws.FnExactMirrorWide'. -/
def fnExactMirrorWideUptoCard : Claim7 := { stood := { row := fnExactMirrorWideUptoRow, standIns := [], harness := (true, "b0bd96f291a5bf0911231b3c30ff7d9c68ac90cc9db3b5bf165bee1305dff6be"), looks := true }, kinds := [], alts := [], laidByText := true, laidKinds := [.data, .pinned, .pinned], laidTests := true, laidLooks := .later }
def FnExactMirrorWideUptoCardSaid : Prop := Claim7.holds Tryd.pinned (.plain (OpenSpec.upto fnExactMirrorWideSpec)) fnExactMirrorWideUptoCard

/-- THE SECOND FORM's CARD OF 'laws.FnExactShowWide'. -/
def fnExactShowWideUptoCard : Claim7 := { stood := { row := fnExactShowWideUptoRow, standIns := [], harness := (true, "b0bd96f291a5bf0911231b3c30ff7d9c68ac90cc9db3b5bf165bee1305dff6be"), looks := true }, kinds := [], alts := [], laidByText := true, laidKinds := [.data, .pinned, .pinned], laidTests := true, laidLooks := .later }
def FnExactShowWideUptoCardSaid : Prop := Claim7.holds Tryd.pinned (.plain (OpenSpec.upto fnExactShowWideSpec)) fnExactShowWideUptoCard

/-- THE SECOND FORM's CARD OF 'laws.FnExactWideProgramValid'. -/
def fnExactWideProgramValidUptoCard : Claim7 := { stood := { row := fnExactWideProgramValidUptoRow, standIns := [], harness := (true, "b0bd96f291a5bf0911231b3c30ff7d9c68ac90cc9db3b5bf165bee1305dff6be"), looks := true }, kinds := [], alts := [], laidByText := true, laidKinds := [.data, .pinned, .pinned], laidTests := true, laidLooks := .later }
def FnExactWideProgramValidUptoCardSaid : Prop := Claim7.holds Tryd.pinned (.plain (OpenSpec.upto fnExactWideProgramValidSpec)) fnExactWideProgramValidUptoCard

/-- THE SECOND FORM's CARD OF 'laws.FnExactWideValid'. -/
def fnExactWideValidUptoCard : Claim7 := { stood := { row := fnExactWideValidUptoRow, standIns := [], harness := (true, "b0bd96f291a5bf0911231b3c30ff7d9c68ac90cc9db3b5bf165bee1305dff6be"), looks := true }, kinds := [], alts := [], laidByText := true, laidKinds := [.data, .pinned, .pinned], laidTests := true, laidLooks := .later }
def FnExactWideValidUptoCardSaid : Prop := Claim7.holds Tryd.pinned (.plain (OpenSpec.upto fnExactWideValidSpec)) fnExactWideValidUptoCard

/-- THE SECOND FORM's CARD OF 'laws.FnExactEvalWide'. -/
def fnExactEvalWideUptoCard : Claim7 := { stood := { row := fnExactEvalWideUptoRow, standIns := [], harness := (true, "b0bd96f291a5bf0911231b3c30ff7d9c68ac90cc9db3b5bf165bee1305dff6be"), looks := true }, kinds := [], alts := [], laidByText := true, laidKinds := [.data, .pinned, .pinned], laidTests := true, laidLooks := .later }
def FnExactEvalWideUptoCardSaid : Prop := Claim7.holds Tryd.pinned (.plain (OpenSpec.upto fnExactEvalWideSpec)) fnExactEvalWideUptoCard

/-- THE SECOND FORM's CARD OF 'laws.FnExactRelOf'. -/
def fnExactRelOfUptoCard : Claim7 := { stood := { row := fnExactRelOfUptoRow, standIns := [], harness := (true, "b0bd96f291a5bf0911231b3c30ff7d9c68ac90cc9db3b5bf165bee1305dff6be"), looks := true }, kinds := [], alts := [], laidByText := true, laidKinds := [.data, .pinned, .pinned], laidTests := true, laidLooks := .later }
def FnExactRelOfUptoCardSaid : Prop := Claim7.holds Tryd.pinned (.plain (OpenSpec.upto fnExactRelOfSpec)) fnExactRelOfUptoCard

/-- THE SECOND FORM's CARD OF 'laws.FnExactFirstPair'. -/
def fnExactFirstPairUptoCard : Claim7 := { stood := { row := fnExactFirstPairUptoRow, standIns := [], harness := (true, "b0bd96f291a5bf0911231b3c30ff7d9c68ac90cc9db3b5bf165bee1305dff6be"), looks := true }, kinds := [], alts := [], laidByText := true, laidKinds := [.data], laidTests := true, laidLooks := .later }
def FnExactFirstPairUptoCardSaid : Prop := Claim7.holds Tryd.pinned (.plain (OpenSpec.upto fnExactFirstPairSpec)) fnExactFirstPairUptoCard

/-- THE SECOND FORM's CARD OF 'laws.FnExactStatementsOf'. -/
def fnExactStatementsOfUptoCard : Claim7 := { stood := { row := fnExactStatementsOfUptoRow, standIns := [], harness := (true, "b0bd96f291a5bf0911231b3c30ff7d9c68ac90cc9db3b5bf165bee1305dff6be"), looks := true }, kinds := [], alts := [], laidByText := true, laidKinds := [.data, .pinned, .pinned], laidTests := true, laidLooks := .later }
def FnExactStatementsOfUptoCardSaid : Prop := Claim7.holds Tryd.pinned (.plain (OpenSpec.upto fnExactStatementsOfSpec)) fnExactStatementsOfUptoCard
end Rows
end Go.Proofs.YtinillnccfgooaaDoor
