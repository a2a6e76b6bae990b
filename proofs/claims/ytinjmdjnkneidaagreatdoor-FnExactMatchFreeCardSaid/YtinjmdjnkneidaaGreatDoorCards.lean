/-
  DERIVED. GIVEN WITH THE SEED: THE CARDS: each row of YtinjmdjnkneidaaGreatDoorRows.lean that lists a variable, with what it lists TIED to the program's text (the seventh form; the later family's looks); each row that meets fmt, with fmt's text TOLD by the authors' own Lean function (tested against real Go, not proved from fmt's source: count such statements apart). THE CARD IS WHAT COUNTS. Prove the row's statement (the work); the ties are given (YtinjmdjnkneidaaGreatDoorTie.lean); close each card by the builder's one call (the guide's Derived/Test/ToyasCard.lean, 'card_holds'). Laid BY PROGRAM, IN A SANDBOX (cutbox-door.mjs). By AI agents, Wed Nov 11 2026. No macro, syntax, notation, axiom, sorry.
-/
import Derived.Test.YtinjmdjnkneidaaGreatDoorRows
import GoSem.ClaimSeven
namespace Go.Proofs.YtinjmdjnkneidaaGreatDoor
namespace Rows

/-- THE TIED CARD OF 'laws.FnExactEndTogether'. -/
def fnExactEndTogetherCard : Claim7 := { stood := { row := fnExactEndTogetherRow, standIns := [], harness := (true, "f2353b9607aacee2ceff4efba008cc200b877e0d91baa97acba455b2eecccac2"), looks := true }, kinds := [], alts := [], laidByText := true, laidKinds := [.data, .pinned, .pinned], laidTests := true, laidLooks := .later }
def FnExactEndTogetherCardSaid : Prop := Claim7.holds Tryz.pinned (.plain (OpenSpec.ofChange fnExactEndTogetherSpec)) fnExactEndTogetherCard

/-- THE TIED CARD OF 'laws.FnExactPairFree'. -/
def fnExactPairFreeCard : Claim7 := { stood := { row := fnExactPairFreeRow, standIns := [], harness := (true, "f2353b9607aacee2ceff4efba008cc200b877e0d91baa97acba455b2eecccac2"), looks := true }, kinds := [], alts := [], laidByText := true, laidKinds := [.data, .pinned, .pinned], laidTests := true, laidLooks := .later }
def FnExactPairFreeCardSaid : Prop := Claim7.holds Tryz.pinned (.plain (OpenSpec.ofChange fnExactPairFreeSpec)) fnExactPairFreeCard

/-- THE TIED CARD OF 'laws.FnExactPairPost'. -/
def fnExactPairPostCard : Claim7 := { stood := { row := fnExactPairPostRow, standIns := [], harness := (true, "f2353b9607aacee2ceff4efba008cc200b877e0d91baa97acba455b2eecccac2"), looks := true }, kinds := [], alts := [], laidByText := true, laidKinds := [.data, .pinned, .pinned], laidTests := true, laidLooks := .later }
def FnExactPairPostCardSaid : Prop := Claim7.holds Tryz.pinned (.plain (OpenSpec.ofChange fnExactPairPostSpec)) fnExactPairPostCard

/-- THE TIED CARD OF 'laws.FnExactPairHolds'. -/
def fnExactPairHoldsCard : Claim7 := { stood := { row := fnExactPairHoldsRow, standIns := [], harness := (true, "f2353b9607aacee2ceff4efba008cc200b877e0d91baa97acba455b2eecccac2"), looks := true }, kinds := [], alts := [], laidByText := true, laidKinds := [.data, .pinned, .pinned], laidTests := true, laidLooks := .later }
def FnExactPairHoldsCardSaid : Prop := Claim7.holds Tryz.pinned (.plain (OpenSpec.ofChange fnExactPairHoldsSpec)) fnExactPairHoldsCard

/-- THE TIED CARD OF 'laws.FnExactCounterPair'. -/
def fnExactCounterPairCard : Claim7 := { stood := { row := fnExactCounterPairRow, standIns := [], harness := (true, "f2353b9607aacee2ceff4efba008cc200b877e0d91baa97acba455b2eecccac2"), looks := true }, kinds := [], alts := [], laidByText := true, laidKinds := [.data, .data, .pinned, .pinned], laidTests := true, laidLooks := .later }
def FnExactCounterPairCardSaid : Prop := Claim7.holds Tryz.pinned (.plain (OpenSpec.ofChange fnExactCounterPairSpec)) fnExactCounterPairCard

/-- THE TIED CARD OF 'laws.FnExactMatchFree'. -/
def fnExactMatchFreeCard : Claim7 := { stood := { row := fnExactMatchFreeRow, standIns := [], harness := (true, "f2353b9607aacee2ceff4efba008cc200b877e0d91baa97acba455b2eecccac2"), looks := true }, kinds := [], alts := [], laidByText := true, laidKinds := [.data, .pinned, .pinned], laidTests := true, laidLooks := .later }
def FnExactMatchFreeCardSaid : Prop := Claim7.holds Tryz.pinned (.plain (OpenSpec.ofChange fnExactMatchFreeSpec)) fnExactMatchFreeCard

/-- THE TIED CARD OF 'laws.FnExactMatchHolds'. -/
def fnExactMatchHoldsCard : Claim7 := { stood := { row := fnExactMatchHoldsRow, standIns := [], harness := (true, "f2353b9607aacee2ceff4efba008cc200b877e0d91baa97acba455b2eecccac2"), looks := true }, kinds := [], alts := [], laidByText := true, laidKinds := [.data, .pinned, .pinned], laidTests := true, laidLooks := .later }
def FnExactMatchHoldsCardSaid : Prop := Claim7.holds Tryz.pinned (.plain (OpenSpec.ofChange fnExactMatchHoldsSpec)) fnExactMatchHoldsCard

/-- THE TIED CARD OF 'laws.FnExactJoinedFree'. -/
def fnExactJoinedFreeCard : Claim7 := { stood := { row := fnExactJoinedFreeRow, standIns := [], harness := (true, "f2353b9607aacee2ceff4efba008cc200b877e0d91baa97acba455b2eecccac2"), looks := true }, kinds := [], alts := [], laidByText := true, laidKinds := [.data, .pinned, .pinned], laidTests := true, laidLooks := .later }
def FnExactJoinedFreeCardSaid : Prop := Claim7.holds Tryz.pinned (.plain (OpenSpec.ofChange fnExactJoinedFreeSpec)) fnExactJoinedFreeCard

/-- THE TIED CARD OF 'laws.FnExactSameOn'. -/
def fnExactSameOnCard : Claim7 := { stood := { row := fnExactSameOnRow, standIns := [], harness := (true, "f2353b9607aacee2ceff4efba008cc200b877e0d91baa97acba455b2eecccac2"), looks := true }, kinds := [], alts := [], laidByText := true, laidKinds := [.data, .pinned, .pinned], laidTests := true, laidLooks := .later }
def FnExactSameOnCardSaid : Prop := Claim7.holds Tryz.pinned (.plain (OpenSpec.ofChange fnExactSameOnSpec)) fnExactSameOnCard

/-- THE TIED CARD OF 'laws.FnExactAffectedVars'. -/
def fnExactAffectedVarsCard : Claim7 := { stood := { row := fnExactAffectedVarsRow, standIns := [], harness := (true, "f2353b9607aacee2ceff4efba008cc200b877e0d91baa97acba455b2eecccac2"), looks := true }, kinds := [], alts := [], laidByText := true, laidKinds := [.data, .pinned, .pinned], laidTests := true, laidLooks := .later }
def FnExactAffectedVarsCardSaid : Prop := Claim7.holds Tryz.pinned (.plain (OpenSpec.ofChange fnExactAffectedVarsSpec)) fnExactAffectedVarsCard

/-- THE TIED CARD OF 'laws.FnExactMonotoneIn'. -/
def fnExactMonotoneInCard : Claim7 := { stood := { row := fnExactMonotoneInRow, standIns := [], harness := (true, "f2353b9607aacee2ceff4efba008cc200b877e0d91baa97acba455b2eecccac2"), looks := true }, kinds := [], alts := [], laidByText := true, laidKinds := [.data, .pinned, .pinned], laidTests := true, laidLooks := .later }
def FnExactMonotoneInCardSaid : Prop := Claim7.holds Tryz.pinned (.plain (OpenSpec.ofChange fnExactMonotoneInSpec)) fnExactMonotoneInCard

/-- THE TIED CARD OF 'laws.FnExactDeterministicProgram'. -/
def fnExactDeterministicProgramCard : Claim7 := { stood := { row := fnExactDeterministicProgramRow, standIns := [], harness := (true, "f2353b9607aacee2ceff4efba008cc200b877e0d91baa97acba455b2eecccac2"), looks := true }, kinds := [], alts := [], laidByText := true, laidKinds := [.data, .pinned, .pinned], laidTests := true, laidLooks := .later }
def FnExactDeterministicProgramCardSaid : Prop := Claim7.holds Tryz.pinned (.plain (OpenSpec.ofChange fnExactDeterministicProgramSpec)) fnExactDeterministicProgramCard

/-- THE SECOND FORM's CARD OF 'laws.FnExactEndTogether'. -/
def fnExactEndTogetherUptoCard : Claim7 := { stood := { row := fnExactEndTogetherUptoRow, standIns := [], harness := (true, "f2353b9607aacee2ceff4efba008cc200b877e0d91baa97acba455b2eecccac2"), looks := true }, kinds := [], alts := [], laidByText := true, laidKinds := [.data, .pinned, .pinned], laidTests := true, laidLooks := .later }
def FnExactEndTogetherUptoCardSaid : Prop := Claim7.holds Tryz.pinned (.plain (OpenSpec.upto fnExactEndTogetherSpec)) fnExactEndTogetherUptoCard

/-- THE SECOND FORM's CARD OF 'laws.FnExactPairFree'. -/
def fnExactPairFreeUptoCard : Claim7 := { stood := { row := fnExactPairFreeUptoRow, standIns := [], harness := (true, "f2353b9607aacee2ceff4efba008cc200b877e0d91baa97acba455b2eecccac2"), looks := true }, kinds := [], alts := [], laidByText := true, laidKinds := [.data, .pinned, .pinned], laidTests := true, laidLooks := .later }
def FnExactPairFreeUptoCardSaid : Prop := Claim7.holds Tryz.pinned (.plain (OpenSpec.upto fnExactPairFreeSpec)) fnExactPairFreeUptoCard

/-- THE SECOND FORM's CARD OF 'laws.FnExactPairPost'. -/
def fnExactPairPostUptoCard : Claim7 := { stood := { row := fnExactPairPostUptoRow, standIns := [], harness := (true, "f2353b9607aacee2ceff4efba008cc200b877e0d91baa97acba455b2eecccac2"), looks := true }, kinds := [], alts := [], laidByText := true, laidKinds := [.data, .pinned, .pinned], laidTests := true, laidLooks := .later }
def FnExactPairPostUptoCardSaid : Prop := Claim7.holds Tryz.pinned (.plain (OpenSpec.upto fnExactPairPostSpec)) fnExactPairPostUptoCard

/-- THE SECOND FORM's CARD OF 'laws.FnExactPairHolds'. -/
def fnExactPairHoldsUptoCard : Claim7 := { stood := { row := fnExactPairHoldsUptoRow, standIns := [], harness := (true, "f2353b9607aacee2ceff4efba008cc200b877e0d91baa97acba455b2eecccac2"), looks := true }, kinds := [], alts := [], laidByText := true, laidKinds := [.data, .pinned, .pinned], laidTests := true, laidLooks := .later }
def FnExactPairHoldsUptoCardSaid : Prop := Claim7.holds Tryz.pinned (.plain (OpenSpec.upto fnExactPairHoldsSpec)) fnExactPairHoldsUptoCard

/-- THE SECOND FORM's CARD OF 'laws.FnExactCounterPair'. -/
def fnExactCounterPairUptoCard : Claim7 := { stood := { row := fnExactCounterPairUptoRow, standIns := [], harness := (true, "f2353b9607aacee2ceff4efba008cc200b877e0d91baa97acba455b2eecccac2"), looks := true }, kinds := [], alts := [], laidByText := true, laidKinds := [.data, .data, .pinned, .pinned], laidTests := true, laidLooks := .later }
def FnExactCounterPairUptoCardSaid : Prop := Claim7.holds Tryz.pinned (.plain (OpenSpec.upto fnExactCounterPairSpec)) fnExactCounterPairUptoCard

/-- THE SECOND FORM's CARD OF 'laws.FnExactMatchFree'. -/
def fnExactMatchFreeUptoCard : Claim7 := { stood := { row := fnExactMatchFreeUptoRow, standIns := [], harness := (true, "f2353b9607aacee2ceff4efba008cc200b877e0d91baa97acba455b2eecccac2"), looks := true }, kinds := [], alts := [], laidByText := true, laidKinds := [.data, .pinned, .pinned], laidTests := true, laidLooks := .later }
def FnExactMatchFreeUptoCardSaid : Prop := Claim7.holds Tryz.pinned (.plain (OpenSpec.upto fnExactMatchFreeSpec)) fnExactMatchFreeUptoCard

/-- THE SECOND FORM's CARD OF 'laws.FnExactMatchHolds'. -/
def fnExactMatchHoldsUptoCard : Claim7 := { stood := { row := fnExactMatchHoldsUptoRow, standIns := [], harness := (true, "f2353b9607aacee2ceff4efba008cc200b877e0d91baa97acba455b2eecccac2"), looks := true }, kinds := [], alts := [], laidByText := true, laidKinds := [.data, .pinned, .pinned], laidTests := true, laidLooks := .later }
def FnExactMatchHoldsUptoCardSaid : Prop := Claim7.holds Tryz.pinned (.plain (OpenSpec.upto fnExactMatchHoldsSpec)) fnExactMatchHoldsUptoCard

/-- THE SECOND FORM's CARD OF 'laws.FnExactJoinedFree'. -/
def fnExactJoinedFreeUptoCard : Claim7 := { stood := { row := fnExactJoinedFreeUptoRow, standIns := [], harness := (true, "f2353b9607aacee2ceff4efba008cc200b877e0d91baa97acba455b2eecccac2"), looks := true }, kinds := [], alts := [], laidByText := true, laidKinds := [.data, .pinned, .pinned], laidTests := true, laidLooks := .later }
def FnExactJoinedFreeUptoCardSaid : Prop := Claim7.holds Tryz.pinned (.plain (OpenSpec.upto fnExactJoinedFreeSpec)) fnExactJoinedFreeUptoCard

/-- THE SECOND FORM's CARD OF 'laws.FnExactSameOn'. -/
def fnExactSameOnUptoCard : Claim7 := { stood := { row := fnExactSameOnUptoRow, standIns := [], harness := (true, "f2353b9607aacee2ceff4efba008cc200b877e0d91baa97acba455b2eecccac2"), looks := true }, kinds := [], alts := [], laidByText := true, laidKinds := [.data, .pinned, .pinned], laidTests := true, laidLooks := .later }
def FnExactSameOnUptoCardSaid : Prop := Claim7.holds Tryz.pinned (.plain (OpenSpec.upto fnExactSameOnSpec)) fnExactSameOnUptoCard

/-- THE SECOND FORM's CARD OF 'laws.FnExactAffectedVars'. -/
def fnExactAffectedVarsUptoCard : Claim7 := { stood := { row := fnExactAffectedVarsUptoRow, standIns := [], harness := (true, "f2353b9607aacee2ceff4efba008cc200b877e0d91baa97acba455b2eecccac2"), looks := true }, kinds := [], alts := [], laidByText := true, laidKinds := [.data, .pinned, .pinned], laidTests := true, laidLooks := .later }
def FnExactAffectedVarsUptoCardSaid : Prop := Claim7.holds Tryz.pinned (.plain (OpenSpec.upto fnExactAffectedVarsSpec)) fnExactAffectedVarsUptoCard

/-- THE SECOND FORM's CARD OF 'laws.FnExactMonotoneIn'. -/
def fnExactMonotoneInUptoCard : Claim7 := { stood := { row := fnExactMonotoneInUptoRow, standIns := [], harness := (true, "f2353b9607aacee2ceff4efba008cc200b877e0d91baa97acba455b2eecccac2"), looks := true }, kinds := [], alts := [], laidByText := true, laidKinds := [.data, .pinned, .pinned], laidTests := true, laidLooks := .later }
def FnExactMonotoneInUptoCardSaid : Prop := Claim7.holds Tryz.pinned (.plain (OpenSpec.upto fnExactMonotoneInSpec)) fnExactMonotoneInUptoCard

/-- THE SECOND FORM's CARD OF 'laws.FnExactDeterministicProgram'. -/
def fnExactDeterministicProgramUptoCard : Claim7 := { stood := { row := fnExactDeterministicProgramUptoRow, standIns := [], harness := (true, "f2353b9607aacee2ceff4efba008cc200b877e0d91baa97acba455b2eecccac2"), looks := true }, kinds := [], alts := [], laidByText := true, laidKinds := [.data, .pinned, .pinned], laidTests := true, laidLooks := .later }
def FnExactDeterministicProgramUptoCardSaid : Prop := Claim7.holds Tryz.pinned (.plain (OpenSpec.upto fnExactDeterministicProgramSpec)) fnExactDeterministicProgramUptoCard
end Rows
end Go.Proofs.YtinjmdjnkneidaaGreatDoor
