/-
  DERIVED. GIVEN WITH THE SEED: THE CARDS: each row of YthmikeldlbjblaaGreatDoorRows.lean that lists a variable, with what it lists TIED to the program's text (the seventh form; the later family's looks); each row that meets fmt, with fmt's text TOLD by the authors' own Lean function (tested against real Go, not proved from fmt's source: count such statements apart). THE CARD IS WHAT COUNTS. Prove the row's statement (the work); the ties are given (YthmikeldlbjblaaGreatDoorTie.lean); close each card by the builder's one call (the guide's Derived/Test/ToyasCard.lean, 'card_holds'). Laid BY PROGRAM, IN A SANDBOX (cutbox-door.mjs). By AI agents, Wed Nov 11 2026. No macro, syntax, notation, axiom, sorry.
-/
import Derived.Test.YthmikeldlbjblaaGreatDoorRows
import GoSem.ClaimSeven
namespace Go.Proofs.YthmikeldlbjblaaGreatDoor
namespace Rows

/-- THE TIED CARD OF 'laws.FnExactSamePrograms'. -/
def fnExactSameProgramsCard : Claim7 := { stood := { row := fnExactSameProgramsRow, standIns := [], harness := (true, "1cfc93dc385aa57edd9af13c37fbc9f3a61e131bb2d4111f0a77092089273748"), looks := true }, kinds := [], alts := [], laidByText := true, laidKinds := [.data, .pinned, .pinned], laidTests := true, laidLooks := .later }
def FnExactSameProgramsCardSaid : Prop := Claim7.holds Tryz.pinned (.plain (OpenSpec.ofChange fnExactSameProgramsSpec)) fnExactSameProgramsCard

/-- THE TIED CARD OF 'laws.FnExactRefinesProgram'. -/
def fnExactRefinesProgramCard : Claim7 := { stood := { row := fnExactRefinesProgramRow, standIns := [], harness := (true, "1cfc93dc385aa57edd9af13c37fbc9f3a61e131bb2d4111f0a77092089273748"), looks := true }, kinds := [], alts := [], laidByText := true, laidKinds := [.data, .pinned, .pinned], laidTests := true, laidLooks := .later }
def FnExactRefinesProgramCardSaid : Prop := Claim7.holds Tryz.pinned (.plain (OpenSpec.ofChange fnExactRefinesProgramSpec)) fnExactRefinesProgramCard

/-- THE TIED CARD OF 'laws.FnExactFirstDifference'. -/
def fnExactFirstDifferenceCard : Claim7 := { stood := { row := fnExactFirstDifferenceRow, standIns := [], harness := (true, "1cfc93dc385aa57edd9af13c37fbc9f3a61e131bb2d4111f0a77092089273748"), looks := true }, kinds := [], alts := [], laidByText := true, laidKinds := [.data, .pinned, .pinned], laidTests := true, laidLooks := .later }
def FnExactFirstDifferenceCardSaid : Prop := Claim7.holds Tryz.pinned (.plain (OpenSpec.ofChange fnExactFirstDifferenceSpec)) fnExactFirstDifferenceCard

/-- THE TIED CARD OF 'laws.FnExactCommutePrograms'. -/
def fnExactCommuteProgramsCard : Claim7 := { stood := { row := fnExactCommuteProgramsRow, standIns := [], harness := (true, "1cfc93dc385aa57edd9af13c37fbc9f3a61e131bb2d4111f0a77092089273748"), looks := true }, kinds := [], alts := [], laidByText := true, laidKinds := [.data, .pinned, .pinned], laidTests := true, laidLooks := .later }
def FnExactCommuteProgramsCardSaid : Prop := Claim7.holds Tryz.pinned (.plain (OpenSpec.ofChange fnExactCommuteProgramsSpec)) fnExactCommuteProgramsCard

/-- THE TIED CARD OF 'laws.FnExactIdempotentProgram'. -/
def fnExactIdempotentProgramCard : Claim7 := { stood := { row := fnExactIdempotentProgramRow, standIns := [], harness := (true, "1cfc93dc385aa57edd9af13c37fbc9f3a61e131bb2d4111f0a77092089273748"), looks := true }, kinds := [], alts := [], laidByText := true, laidKinds := [.data, .pinned, .pinned], laidTests := true, laidLooks := .later }
def FnExactIdempotentProgramCardSaid : Prop := Claim7.holds Tryz.pinned (.plain (OpenSpec.ofChange fnExactIdempotentProgramSpec)) fnExactIdempotentProgramCard

/-- THE TIED CARD OF 'laws.FnExactUndoesProgram'. -/
def fnExactUndoesProgramCard : Claim7 := { stood := { row := fnExactUndoesProgramRow, standIns := [], harness := (true, "1cfc93dc385aa57edd9af13c37fbc9f3a61e131bb2d4111f0a77092089273748"), looks := true }, kinds := [], alts := [], laidByText := true, laidKinds := [.data, .pinned, .pinned], laidTests := true, laidLooks := .later }
def FnExactUndoesProgramCardSaid : Prop := Claim7.holds Tryz.pinned (.plain (OpenSpec.ofChange fnExactUndoesProgramSpec)) fnExactUndoesProgramCard

/-- THE TIED CARD OF 'laws.FnExactRunsFrom'. -/
def fnExactRunsFromCard : Claim7 := { stood := { row := fnExactRunsFromRow, standIns := [], harness := (true, "1cfc93dc385aa57edd9af13c37fbc9f3a61e131bb2d4111f0a77092089273748"), looks := true }, kinds := [], alts := [], laidByText := true, laidKinds := [.data, .pinned, .pinned], laidTests := true, laidLooks := .later }
def FnExactRunsFromCardSaid : Prop := Claim7.holds Tryz.pinned (.plain (OpenSpec.ofChange fnExactRunsFromSpec)) fnExactRunsFromCard

/-- THE TIED CARD OF 'laws.FnExactEndTogether'. -/
def fnExactEndTogetherCard : Claim7 := { stood := { row := fnExactEndTogetherRow, standIns := [], harness := (true, "1cfc93dc385aa57edd9af13c37fbc9f3a61e131bb2d4111f0a77092089273748"), looks := true }, kinds := [], alts := [], laidByText := true, laidKinds := [.data, .pinned, .pinned], laidTests := true, laidLooks := .later }
def FnExactEndTogetherCardSaid : Prop := Claim7.holds Tryz.pinned (.plain (OpenSpec.ofChange fnExactEndTogetherSpec)) fnExactEndTogetherCard

/-- THE TIED CARD OF 'laws.FnExactRelOfProgram'. -/
def fnExactRelOfProgramCard : Claim7 := { stood := { row := fnExactRelOfProgramRow, standIns := [], harness := (true, "1cfc93dc385aa57edd9af13c37fbc9f3a61e131bb2d4111f0a77092089273748"), looks := true }, kinds := [], alts := [], laidByText := true, laidKinds := [.data, .pinned, .pinned], laidTests := true, laidLooks := .later }
def FnExactRelOfProgramCardSaid : Prop := Claim7.holds Tryz.pinned (.plain (OpenSpec.ofChange fnExactRelOfProgramSpec)) fnExactRelOfProgramCard

/-- THE TIED CARD OF 'laws.FnExactLineValid'. -/
def fnExactLineValidCard : Claim7 := { stood := { row := fnExactLineValidRow, standIns := [], harness := (true, "1cfc93dc385aa57edd9af13c37fbc9f3a61e131bb2d4111f0a77092089273748"), looks := true }, kinds := [], alts := [], laidByText := true, laidKinds := [.data, .pinned, .pinned], laidTests := true, laidLooks := .later }
def FnExactLineValidCardSaid : Prop := Claim7.holds Tryz.pinned (.plain (OpenSpec.ofChange fnExactLineValidSpec)) fnExactLineValidCard

/-- THE SECOND FORM's CARD OF 'laws.FnExactSamePrograms'. -/
def fnExactSameProgramsUptoCard : Claim7 := { stood := { row := fnExactSameProgramsUptoRow, standIns := [], harness := (true, "1cfc93dc385aa57edd9af13c37fbc9f3a61e131bb2d4111f0a77092089273748"), looks := true }, kinds := [], alts := [], laidByText := true, laidKinds := [.data, .pinned, .pinned], laidTests := true, laidLooks := .later }
def FnExactSameProgramsUptoCardSaid : Prop := Claim7.holds Tryz.pinned (.plain (OpenSpec.upto fnExactSameProgramsSpec)) fnExactSameProgramsUptoCard

/-- THE SECOND FORM's CARD OF 'laws.FnExactRefinesProgram'. -/
def fnExactRefinesProgramUptoCard : Claim7 := { stood := { row := fnExactRefinesProgramUptoRow, standIns := [], harness := (true, "1cfc93dc385aa57edd9af13c37fbc9f3a61e131bb2d4111f0a77092089273748"), looks := true }, kinds := [], alts := [], laidByText := true, laidKinds := [.data, .pinned, .pinned], laidTests := true, laidLooks := .later }
def FnExactRefinesProgramUptoCardSaid : Prop := Claim7.holds Tryz.pinned (.plain (OpenSpec.upto fnExactRefinesProgramSpec)) fnExactRefinesProgramUptoCard

/-- THE SECOND FORM's CARD OF 'laws.FnExactFirstDifference'. -/
def fnExactFirstDifferenceUptoCard : Claim7 := { stood := { row := fnExactFirstDifferenceUptoRow, standIns := [], harness := (true, "1cfc93dc385aa57edd9af13c37fbc9f3a61e131bb2d4111f0a77092089273748"), looks := true }, kinds := [], alts := [], laidByText := true, laidKinds := [.data, .pinned, .pinned], laidTests := true, laidLooks := .later }
def FnExactFirstDifferenceUptoCardSaid : Prop := Claim7.holds Tryz.pinned (.plain (OpenSpec.upto fnExactFirstDifferenceSpec)) fnExactFirstDifferenceUptoCard

/-- THE SECOND FORM's CARD OF 'laws.FnExactCommutePrograms'. -/
def fnExactCommuteProgramsUptoCard : Claim7 := { stood := { row := fnExactCommuteProgramsUptoRow, standIns := [], harness := (true, "1cfc93dc385aa57edd9af13c37fbc9f3a61e131bb2d4111f0a77092089273748"), looks := true }, kinds := [], alts := [], laidByText := true, laidKinds := [.data, .pinned, .pinned], laidTests := true, laidLooks := .later }
def FnExactCommuteProgramsUptoCardSaid : Prop := Claim7.holds Tryz.pinned (.plain (OpenSpec.upto fnExactCommuteProgramsSpec)) fnExactCommuteProgramsUptoCard

/-- THE SECOND FORM's CARD OF 'laws.FnExactIdempotentProgram'. -/
def fnExactIdempotentProgramUptoCard : Claim7 := { stood := { row := fnExactIdempotentProgramUptoRow, standIns := [], harness := (true, "1cfc93dc385aa57edd9af13c37fbc9f3a61e131bb2d4111f0a77092089273748"), looks := true }, kinds := [], alts := [], laidByText := true, laidKinds := [.data, .pinned, .pinned], laidTests := true, laidLooks := .later }
def FnExactIdempotentProgramUptoCardSaid : Prop := Claim7.holds Tryz.pinned (.plain (OpenSpec.upto fnExactIdempotentProgramSpec)) fnExactIdempotentProgramUptoCard

/-- THE SECOND FORM's CARD OF 'laws.FnExactUndoesProgram'. -/
def fnExactUndoesProgramUptoCard : Claim7 := { stood := { row := fnExactUndoesProgramUptoRow, standIns := [], harness := (true, "1cfc93dc385aa57edd9af13c37fbc9f3a61e131bb2d4111f0a77092089273748"), looks := true }, kinds := [], alts := [], laidByText := true, laidKinds := [.data, .pinned, .pinned], laidTests := true, laidLooks := .later }
def FnExactUndoesProgramUptoCardSaid : Prop := Claim7.holds Tryz.pinned (.plain (OpenSpec.upto fnExactUndoesProgramSpec)) fnExactUndoesProgramUptoCard

/-- THE SECOND FORM's CARD OF 'laws.FnExactRunsFrom'. -/
def fnExactRunsFromUptoCard : Claim7 := { stood := { row := fnExactRunsFromUptoRow, standIns := [], harness := (true, "1cfc93dc385aa57edd9af13c37fbc9f3a61e131bb2d4111f0a77092089273748"), looks := true }, kinds := [], alts := [], laidByText := true, laidKinds := [.data, .pinned, .pinned], laidTests := true, laidLooks := .later }
def FnExactRunsFromUptoCardSaid : Prop := Claim7.holds Tryz.pinned (.plain (OpenSpec.upto fnExactRunsFromSpec)) fnExactRunsFromUptoCard

/-- THE SECOND FORM's CARD OF 'laws.FnExactEndTogether'. -/
def fnExactEndTogetherUptoCard : Claim7 := { stood := { row := fnExactEndTogetherUptoRow, standIns := [], harness := (true, "1cfc93dc385aa57edd9af13c37fbc9f3a61e131bb2d4111f0a77092089273748"), looks := true }, kinds := [], alts := [], laidByText := true, laidKinds := [.data, .pinned, .pinned], laidTests := true, laidLooks := .later }
def FnExactEndTogetherUptoCardSaid : Prop := Claim7.holds Tryz.pinned (.plain (OpenSpec.upto fnExactEndTogetherSpec)) fnExactEndTogetherUptoCard

/-- THE SECOND FORM's CARD OF 'laws.FnExactRelOfProgram'. -/
def fnExactRelOfProgramUptoCard : Claim7 := { stood := { row := fnExactRelOfProgramUptoRow, standIns := [], harness := (true, "1cfc93dc385aa57edd9af13c37fbc9f3a61e131bb2d4111f0a77092089273748"), looks := true }, kinds := [], alts := [], laidByText := true, laidKinds := [.data, .pinned, .pinned], laidTests := true, laidLooks := .later }
def FnExactRelOfProgramUptoCardSaid : Prop := Claim7.holds Tryz.pinned (.plain (OpenSpec.upto fnExactRelOfProgramSpec)) fnExactRelOfProgramUptoCard

/-- THE SECOND FORM's CARD OF 'laws.FnExactLineValid'. -/
def fnExactLineValidUptoCard : Claim7 := { stood := { row := fnExactLineValidUptoRow, standIns := [], harness := (true, "1cfc93dc385aa57edd9af13c37fbc9f3a61e131bb2d4111f0a77092089273748"), looks := true }, kinds := [], alts := [], laidByText := true, laidKinds := [.data, .pinned, .pinned], laidTests := true, laidLooks := .later }
def FnExactLineValidUptoCardSaid : Prop := Claim7.holds Tryz.pinned (.plain (OpenSpec.upto fnExactLineValidSpec)) fnExactLineValidUptoCard
end Rows
end Go.Proofs.YthmikeldlbjblaaGreatDoor
