/-
  DERIVED. GIVEN WITH THE SEED: THE CARDS: each row of YtpdepihggpfmiabDoorRows.lean that lists a variable, with what it lists TIED to the program's text (the seventh form; the later family's looks); each row that meets fmt, with fmt's text TOLD by the authors' own Lean function (tested against real Go, not proved from fmt's source: count such statements apart). THE CARD IS WHAT COUNTS. Prove the row's statement (the work); the ties are given (YtpdepihggpfmiabDoorTie.lean); close each card by the builder's one call (the guide's Derived/Test/ToyasCard.lean, 'card_holds'). Laid BY PROGRAM, IN A SANDBOX (cutbox-door.mjs). By AI agents, Wed Nov 11 2026. No macro, syntax, notation, axiom, sorry.
-/
import Derived.Test.YtpdepihggpfmiabDoorRows
import GoSem.ClaimSeven
namespace Go.Proofs.YtpdepihggpfmiabDoor
namespace Rows

/-- THE TIED CARD OF 'laws.FnExactProgramValid'. -/
def fnExactProgramValidCard : Claim7 := { stood := { row := fnExactProgramValidRow, standIns := [], harness := (true, "c94730c1935793b70c540e9ac3869f552e145059882333d770c34ce7a6a0571a"), looks := true }, kinds := [], alts := [], laidByText := true, laidKinds := [.data, .pinned, .pinned], laidTests := true, laidLooks := .later }
def FnExactProgramValidCardSaid : Prop := Claim7.holds Tryd.pinned (.plain (OpenSpec.ofChange fnExactProgramValidSpec)) fnExactProgramValidCard

/-- THE TIED CARD OF 'laws.FnExactSizeOf'. -/
def fnExactSizeOfCard : Claim7 := { stood := { row := fnExactSizeOfRow, standIns := [], harness := (true, "c94730c1935793b70c540e9ac3869f552e145059882333d770c34ce7a6a0571a"), looks := true }, kinds := [], alts := [], laidByText := true, laidKinds := [.data, .pinned, .pinned], laidTests := true, laidLooks := .later }
def FnExactSizeOfCardSaid : Prop := Claim7.holds Tryd.pinned (.plain (OpenSpec.ofChange fnExactSizeOfSpec)) fnExactSizeOfCard

/-- THE TIED CARD OF 'laws.FnExactDepthOf'. -/
def fnExactDepthOfCard : Claim7 := { stood := { row := fnExactDepthOfRow, standIns := [], harness := (true, "c94730c1935793b70c540e9ac3869f552e145059882333d770c34ce7a6a0571a"), looks := true }, kinds := [], alts := [], laidByText := true, laidKinds := [.data, .pinned, .pinned], laidTests := true, laidLooks := .later }
def FnExactDepthOfCardSaid : Prop := Claim7.holds Tryd.pinned (.plain (OpenSpec.ofChange fnExactDepthOfSpec)) fnExactDepthOfCard

/-- THE TIED CARD OF 'laws.FnExactLoopCount'. -/
def fnExactLoopCountCard : Claim7 := { stood := { row := fnExactLoopCountRow, standIns := [], harness := (true, "c94730c1935793b70c540e9ac3869f552e145059882333d770c34ce7a6a0571a"), looks := true }, kinds := [], alts := [], laidByText := true, laidKinds := [.data, .pinned, .pinned], laidTests := true, laidLooks := .later }
def FnExactLoopCountCardSaid : Prop := Claim7.holds Tryd.pinned (.plain (OpenSpec.ofChange fnExactLoopCountSpec)) fnExactLoopCountCard

/-- THE TIED CARD OF 'laws.FnExactIsPlain'. -/
def fnExactIsPlainCard : Claim7 := { stood := { row := fnExactIsPlainRow, standIns := [], harness := (true, "c94730c1935793b70c540e9ac3869f552e145059882333d770c34ce7a6a0571a"), looks := true }, kinds := [], alts := [], laidByText := true, laidKinds := [.data, .pinned, .pinned], laidTests := true, laidLooks := .later }
def FnExactIsPlainCardSaid : Prop := Claim7.holds Tryd.pinned (.plain (OpenSpec.ofChange fnExactIsPlainSpec)) fnExactIsPlainCard

/-- THE TIED CARD OF 'laws.FnExactJoinPrograms'. -/
def fnExactJoinProgramsCard : Claim7 := { stood := { row := fnExactJoinProgramsRow, standIns := [], harness := (true, "c94730c1935793b70c540e9ac3869f552e145059882333d770c34ce7a6a0571a"), looks := true }, kinds := [], alts := [], laidByText := true, laidKinds := [.data, .pinned, .pinned], laidTests := true, laidLooks := .later }
def FnExactJoinProgramsCardSaid : Prop := Claim7.holds Tryd.pinned (.plain (OpenSpec.ofChange fnExactJoinProgramsSpec)) fnExactJoinProgramsCard

/-- THE TIED CARD OF 'laws.FnExactHeadOf'. -/
def fnExactHeadOfCard : Claim7 := { stood := { row := fnExactHeadOfRow, standIns := [], harness := (true, "c94730c1935793b70c540e9ac3869f552e145059882333d770c34ce7a6a0571a"), looks := true }, kinds := [], alts := [], laidByText := true, laidKinds := [.data, .pinned, .pinned], laidTests := true, laidLooks := .later }
def FnExactHeadOfCardSaid : Prop := Claim7.holds Tryd.pinned (.plain (OpenSpec.ofChange fnExactHeadOfSpec)) fnExactHeadOfCard

/-- THE TIED CARD OF 'laws.FnExactPartsOf'. -/
def fnExactPartsOfCard : Claim7 := { stood := { row := fnExactPartsOfRow, standIns := [], harness := (true, "c94730c1935793b70c540e9ac3869f552e145059882333d770c34ce7a6a0571a"), looks := true }, kinds := [], alts := [], laidByText := true, laidKinds := [.data, .pinned, .pinned], laidTests := true, laidLooks := .later }
def FnExactPartsOfCardSaid : Prop := Claim7.holds Tryd.pinned (.plain (OpenSpec.ofChange fnExactPartsOfSpec)) fnExactPartsOfCard

/-- THE TIED CARD OF 'laws.FnExactReadsOf'. -/
def fnExactReadsOfCard : Claim7 := { stood := { row := fnExactReadsOfRow, standIns := [], harness := (true, "c94730c1935793b70c540e9ac3869f552e145059882333d770c34ce7a6a0571a"), looks := true }, kinds := [], alts := [], laidByText := true, laidKinds := [.data, .pinned, .pinned], laidTests := true, laidLooks := .later }
def FnExactReadsOfCardSaid : Prop := Claim7.holds Tryd.pinned (.plain (OpenSpec.ofChange fnExactReadsOfSpec)) fnExactReadsOfCard

/-- THE TIED CARD OF 'laws.FnExactWritesOf'. -/
def fnExactWritesOfCard : Claim7 := { stood := { row := fnExactWritesOfRow, standIns := [], harness := (true, "c94730c1935793b70c540e9ac3869f552e145059882333d770c34ce7a6a0571a"), looks := true }, kinds := [], alts := [], laidByText := true, laidKinds := [.data, .pinned, .pinned], laidTests := true, laidLooks := .later }
def FnExactWritesOfCardSaid : Prop := Claim7.holds Tryd.pinned (.plain (OpenSpec.ofChange fnExactWritesOfSpec)) fnExactWritesOfCard

/-- THE TIED CARD OF 'laws.FnExactShowProgram'. -/
def fnExactShowProgramCard : Claim7 := { stood := { row := fnExactShowProgramRow, standIns := [], harness := (true, "c94730c1935793b70c540e9ac3869f552e145059882333d770c34ce7a6a0571a"), looks := true }, kinds := [], alts := [], laidByText := true, laidKinds := [.data, .pinned, .pinned], laidTests := true, laidLooks := .later }
def FnExactShowProgramCardSaid : Prop := Claim7.holds Tryd.pinned (.plain (OpenSpec.ofChange fnExactShowProgramSpec)) fnExactShowProgramCard

/-- THE TIED CARD OF 'laws.FnExactSwapProgram'. -/
def fnExactSwapProgramCard : Claim7 := { stood := { row := fnExactSwapProgramRow, standIns := [], harness := (true, "c94730c1935793b70c540e9ac3869f552e145059882333d770c34ce7a6a0571a"), looks := true }, kinds := [], alts := [], laidByText := true, laidKinds := [.data, .pinned, .pinned], laidTests := true, laidLooks := .later }
def FnExactSwapProgramCardSaid : Prop := Claim7.holds Tryd.pinned (.plain (OpenSpec.ofChange fnExactSwapProgramSpec)) fnExactSwapProgramCard

/-- THE SECOND FORM's CARD OF 'laws.FnExactProgramValid'. -/
def fnExactProgramValidUptoCard : Claim7 := { stood := { row := fnExactProgramValidUptoRow, standIns := [], harness := (true, "c94730c1935793b70c540e9ac3869f552e145059882333d770c34ce7a6a0571a"), looks := true }, kinds := [], alts := [], laidByText := true, laidKinds := [.data, .pinned, .pinned], laidTests := true, laidLooks := .later }
def FnExactProgramValidUptoCardSaid : Prop := Claim7.holds Tryd.pinned (.plain (OpenSpec.upto fnExactProgramValidSpec)) fnExactProgramValidUptoCard

/-- THE SECOND FORM's CARD OF 'laws.FnExactSizeOf'. -/
def fnExactSizeOfUptoCard : Claim7 := { stood := { row := fnExactSizeOfUptoRow, standIns := [], harness := (true, "c94730c1935793b70c540e9ac3869f552e145059882333d770c34ce7a6a0571a"), looks := true }, kinds := [], alts := [], laidByText := true, laidKinds := [.data, .pinned, .pinned], laidTests := true, laidLooks := .later }
def FnExactSizeOfUptoCardSaid : Prop := Claim7.holds Tryd.pinned (.plain (OpenSpec.upto fnExactSizeOfSpec)) fnExactSizeOfUptoCard

/-- THE SECOND FORM's CARD OF 'laws.FnExactDepthOf'. -/
def fnExactDepthOfUptoCard : Claim7 := { stood := { row := fnExactDepthOfUptoRow, standIns := [], harness := (true, "c94730c1935793b70c540e9ac3869f552e145059882333d770c34ce7a6a0571a"), looks := true }, kinds := [], alts := [], laidByText := true, laidKinds := [.data, .pinned, .pinned], laidTests := true, laidLooks := .later }
def FnExactDepthOfUptoCardSaid : Prop := Claim7.holds Tryd.pinned (.plain (OpenSpec.upto fnExactDepthOfSpec)) fnExactDepthOfUptoCard

/-- THE SECOND FORM's CARD OF 'laws.FnExactLoopCount'. -/
def fnExactLoopCountUptoCard : Claim7 := { stood := { row := fnExactLoopCountUptoRow, standIns := [], harness := (true, "c94730c1935793b70c540e9ac3869f552e145059882333d770c34ce7a6a0571a"), looks := true }, kinds := [], alts := [], laidByText := true, laidKinds := [.data, .pinned, .pinned], laidTests := true, laidLooks := .later }
def FnExactLoopCountUptoCardSaid : Prop := Claim7.holds Tryd.pinned (.plain (OpenSpec.upto fnExactLoopCountSpec)) fnExactLoopCountUptoCard

/-- THE SECOND FORM's CARD OF 'laws.FnExactIsPlain'. -/
def fnExactIsPlainUptoCard : Claim7 := { stood := { row := fnExactIsPlainUptoRow, standIns := [], harness := (true, "c94730c1935793b70c540e9ac3869f552e145059882333d770c34ce7a6a0571a"), looks := true }, kinds := [], alts := [], laidByText := true, laidKinds := [.data, .pinned, .pinned], laidTests := true, laidLooks := .later }
def FnExactIsPlainUptoCardSaid : Prop := Claim7.holds Tryd.pinned (.plain (OpenSpec.upto fnExactIsPlainSpec)) fnExactIsPlainUptoCard

/-- THE SECOND FORM's CARD OF 'laws.FnExactJoinPrograms'. -/
def fnExactJoinProgramsUptoCard : Claim7 := { stood := { row := fnExactJoinProgramsUptoRow, standIns := [], harness := (true, "c94730c1935793b70c540e9ac3869f552e145059882333d770c34ce7a6a0571a"), looks := true }, kinds := [], alts := [], laidByText := true, laidKinds := [.data, .pinned, .pinned], laidTests := true, laidLooks := .later }
def FnExactJoinProgramsUptoCardSaid : Prop := Claim7.holds Tryd.pinned (.plain (OpenSpec.upto fnExactJoinProgramsSpec)) fnExactJoinProgramsUptoCard

/-- THE SECOND FORM's CARD OF 'laws.FnExactHeadOf'. -/
def fnExactHeadOfUptoCard : Claim7 := { stood := { row := fnExactHeadOfUptoRow, standIns := [], harness := (true, "c94730c1935793b70c540e9ac3869f552e145059882333d770c34ce7a6a0571a"), looks := true }, kinds := [], alts := [], laidByText := true, laidKinds := [.data, .pinned, .pinned], laidTests := true, laidLooks := .later }
def FnExactHeadOfUptoCardSaid : Prop := Claim7.holds Tryd.pinned (.plain (OpenSpec.upto fnExactHeadOfSpec)) fnExactHeadOfUptoCard

/-- THE SECOND FORM's CARD OF 'laws.FnExactPartsOf'. -/
def fnExactPartsOfUptoCard : Claim7 := { stood := { row := fnExactPartsOfUptoRow, standIns := [], harness := (true, "c94730c1935793b70c540e9ac3869f552e145059882333d770c34ce7a6a0571a"), looks := true }, kinds := [], alts := [], laidByText := true, laidKinds := [.data, .pinned, .pinned], laidTests := true, laidLooks := .later }
def FnExactPartsOfUptoCardSaid : Prop := Claim7.holds Tryd.pinned (.plain (OpenSpec.upto fnExactPartsOfSpec)) fnExactPartsOfUptoCard

/-- THE SECOND FORM's CARD OF 'laws.FnExactReadsOf'. -/
def fnExactReadsOfUptoCard : Claim7 := { stood := { row := fnExactReadsOfUptoRow, standIns := [], harness := (true, "c94730c1935793b70c540e9ac3869f552e145059882333d770c34ce7a6a0571a"), looks := true }, kinds := [], alts := [], laidByText := true, laidKinds := [.data, .pinned, .pinned], laidTests := true, laidLooks := .later }
def FnExactReadsOfUptoCardSaid : Prop := Claim7.holds Tryd.pinned (.plain (OpenSpec.upto fnExactReadsOfSpec)) fnExactReadsOfUptoCard

/-- THE SECOND FORM's CARD OF 'laws.FnExactWritesOf'. -/
def fnExactWritesOfUptoCard : Claim7 := { stood := { row := fnExactWritesOfUptoRow, standIns := [], harness := (true, "c94730c1935793b70c540e9ac3869f552e145059882333d770c34ce7a6a0571a"), looks := true }, kinds := [], alts := [], laidByText := true, laidKinds := [.data, .pinned, .pinned], laidTests := true, laidLooks := .later }
def FnExactWritesOfUptoCardSaid : Prop := Claim7.holds Tryd.pinned (.plain (OpenSpec.upto fnExactWritesOfSpec)) fnExactWritesOfUptoCard

/-- THE SECOND FORM's CARD OF 'laws.FnExactShowProgram'. -/
def fnExactShowProgramUptoCard : Claim7 := { stood := { row := fnExactShowProgramUptoRow, standIns := [], harness := (true, "c94730c1935793b70c540e9ac3869f552e145059882333d770c34ce7a6a0571a"), looks := true }, kinds := [], alts := [], laidByText := true, laidKinds := [.data, .pinned, .pinned], laidTests := true, laidLooks := .later }
def FnExactShowProgramUptoCardSaid : Prop := Claim7.holds Tryd.pinned (.plain (OpenSpec.upto fnExactShowProgramSpec)) fnExactShowProgramUptoCard

/-- THE SECOND FORM's CARD OF 'laws.FnExactSwapProgram'. -/
def fnExactSwapProgramUptoCard : Claim7 := { stood := { row := fnExactSwapProgramUptoRow, standIns := [], harness := (true, "c94730c1935793b70c540e9ac3869f552e145059882333d770c34ce7a6a0571a"), looks := true }, kinds := [], alts := [], laidByText := true, laidKinds := [.data, .pinned, .pinned], laidTests := true, laidLooks := .later }
def FnExactSwapProgramUptoCardSaid : Prop := Claim7.holds Tryd.pinned (.plain (OpenSpec.upto fnExactSwapProgramSpec)) fnExactSwapProgramUptoCard
end Rows
end Go.Proofs.YtpdepihggpfmiabDoor
