/-
  DERIVED. GIVEN WITH THE SEED: THE CARDS: each row of YtopbkkmplgllkaaGreatDoorRows.lean that lists a variable, with what it lists TIED to the program's text (the seventh form; the later family's looks); each row that meets fmt, with fmt's text TOLD by the authors' own Lean function (tested against real Go, not proved from fmt's source: count such statements apart). THE CARD IS WHAT COUNTS. Prove the row's statement (the work); the ties are given (YtopbkkmplgllkaaGreatDoorTie.lean); close each card by the builder's one call (the guide's Derived/Test/ToyasCard.lean, 'card_holds'). Laid BY PROGRAM, IN A SANDBOX (cutbox-door.mjs). By AI agents, Wed Nov 11 2026. No macro, syntax, notation, axiom, sorry.
-/
import Derived.Test.YtopbkkmplgllkaaGreatDoorRows
import GoSem.ClaimSeven
namespace Go.Proofs.YtopbkkmplgllkaaGreatDoor
namespace Rows

/-- THE TIED CARD OF 'laws.FnContext'. -/
def fnContextCard : Claim7 := { stood := { row := fnContextRow, standIns := [], harness := (true, "477f142e1da593f07d6938889b024f6fac0107b99fc5a28539900475056466a9"), looks := true }, kinds := [], alts := [], laidByText := true, laidKinds := [.data, .pinned, .pinned], laidTests := true, laidLooks := .later }
def FnContextCardSaid : Prop := Claim7.holds Tryz.pinned (.plain (OpenSpec.ofChange fnContextSpec)) fnContextCard

/-- THE TIED CARD OF 'laws.FnRefines'. -/
def fnRefinesCard : Claim7 := { stood := { row := fnRefinesRow, standIns := [], harness := (true, "477f142e1da593f07d6938889b024f6fac0107b99fc5a28539900475056466a9"), looks := true }, kinds := [], alts := [], laidByText := true, laidKinds := [.data, .pinned, .pinned], laidTests := true, laidLooks := .later }
def FnRefinesCardSaid : Prop := Claim7.holds Tryz.pinned (.plain (OpenSpec.ofChange fnRefinesSpec)) fnRefinesCard

/-- THE TIED CARD OF 'laws.FnSamePrograms'. -/
def fnSameProgramsCard : Claim7 := { stood := { row := fnSameProgramsRow, standIns := [], harness := (true, "477f142e1da593f07d6938889b024f6fac0107b99fc5a28539900475056466a9"), looks := true }, kinds := [], alts := [], laidByText := true, laidKinds := [.data, .pinned, .pinned], laidTests := true, laidLooks := .later }
def FnSameProgramsCardSaid : Prop := Claim7.holds Tryz.pinned (.plain (OpenSpec.ofChange fnSameProgramsSpec)) fnSameProgramsCard

/-- THE TIED CARD OF 'laws.FnExactSymmetricIn'. -/
def fnExactSymmetricInCard : Claim7 := { stood := { row := fnExactSymmetricInRow, standIns := [], harness := (true, "477f142e1da593f07d6938889b024f6fac0107b99fc5a28539900475056466a9"), looks := true }, kinds := [], alts := [], laidByText := true, laidKinds := [.data, .pinned, .pinned], laidTests := true, laidLooks := .later }
def FnExactSymmetricInCardSaid : Prop := Claim7.holds Tryz.pinned (.plain (OpenSpec.ofChange fnExactSymmetricInSpec)) fnExactSymmetricInCard

/-- THE SECOND FORM's CARD OF 'laws.FnContext'. -/
def fnContextUptoCard : Claim7 := { stood := { row := fnContextUptoRow, standIns := [], harness := (true, "477f142e1da593f07d6938889b024f6fac0107b99fc5a28539900475056466a9"), looks := true }, kinds := [], alts := [], laidByText := true, laidKinds := [.data, .pinned, .pinned], laidTests := true, laidLooks := .later }
def FnContextUptoCardSaid : Prop := Claim7.holds Tryz.pinned (.plain (OpenSpec.upto fnContextSpec)) fnContextUptoCard

/-- THE SECOND FORM's CARD OF 'laws.FnRefines'. -/
def fnRefinesUptoCard : Claim7 := { stood := { row := fnRefinesUptoRow, standIns := [], harness := (true, "477f142e1da593f07d6938889b024f6fac0107b99fc5a28539900475056466a9"), looks := true }, kinds := [], alts := [], laidByText := true, laidKinds := [.data, .pinned, .pinned], laidTests := true, laidLooks := .later }
def FnRefinesUptoCardSaid : Prop := Claim7.holds Tryz.pinned (.plain (OpenSpec.upto fnRefinesSpec)) fnRefinesUptoCard

/-- THE SECOND FORM's CARD OF 'laws.FnSamePrograms'. -/
def fnSameProgramsUptoCard : Claim7 := { stood := { row := fnSameProgramsUptoRow, standIns := [], harness := (true, "477f142e1da593f07d6938889b024f6fac0107b99fc5a28539900475056466a9"), looks := true }, kinds := [], alts := [], laidByText := true, laidKinds := [.data, .pinned, .pinned], laidTests := true, laidLooks := .later }
def FnSameProgramsUptoCardSaid : Prop := Claim7.holds Tryz.pinned (.plain (OpenSpec.upto fnSameProgramsSpec)) fnSameProgramsUptoCard

/-- THE SECOND FORM's CARD OF 'laws.FnExactSymmetricIn'. -/
def fnExactSymmetricInUptoCard : Claim7 := { stood := { row := fnExactSymmetricInUptoRow, standIns := [], harness := (true, "477f142e1da593f07d6938889b024f6fac0107b99fc5a28539900475056466a9"), looks := true }, kinds := [], alts := [], laidByText := true, laidKinds := [.data, .pinned, .pinned], laidTests := true, laidLooks := .later }
def FnExactSymmetricInUptoCardSaid : Prop := Claim7.holds Tryz.pinned (.plain (OpenSpec.upto fnExactSymmetricInSpec)) fnExactSymmetricInUptoCard
end Rows
end Go.Proofs.YtopbkkmplgllkaaGreatDoor
