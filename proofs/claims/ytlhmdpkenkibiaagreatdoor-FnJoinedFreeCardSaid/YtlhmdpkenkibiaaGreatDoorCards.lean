/-
  DERIVED. GIVEN WITH THE SEED: THE CARDS: each row of YtlhmdpkenkibiaaGreatDoorRows.lean that lists a variable, with what it lists TIED to the program's text (the seventh form; the later family's looks); each row that meets fmt, with fmt's text TOLD by the authors' own Lean function (tested against real Go, not proved from fmt's source: count such statements apart). THE CARD IS WHAT COUNTS. Prove the row's statement (the work); the ties are given (YtlhmdpkenkibiaaGreatDoorTie.lean); close each card by the builder's one call (the guide's Derived/Test/ToyasCard.lean, 'card_holds'). Laid BY PROGRAM, IN A SANDBOX (cutbox-door.mjs). By AI agents, Wed Nov 11 2026. No macro, syntax, notation, axiom, sorry.
-/
import Derived.Test.YtlhmdpkenkibiaaGreatDoorRows
import GoSem.ClaimSeven
namespace Go.Proofs.YtlhmdpkenkibiaaGreatDoor
namespace Rows

/-- THE TIED CARD OF 'laws.FnExactMatchHolds'. -/
def fnExactMatchHoldsCard : Claim7 := { stood := { row := fnExactMatchHoldsRow, standIns := [], harness := (true, "084616ed52ea8b4028d042da4fb88779e0fc6cfa64bd19875e3bf0241c810723"), looks := true }, kinds := [], alts := [], laidByText := true, laidKinds := [.data, .pinned, .pinned], laidTests := true, laidLooks := .later }
def FnExactMatchHoldsCardSaid : Prop := Claim7.holds Tryz.pinned (.plain (OpenSpec.ofChange fnExactMatchHoldsSpec)) fnExactMatchHoldsCard

/-- THE TIED CARD OF 'laws.FnExactCounterPair'. -/
def fnExactCounterPairCard : Claim7 := { stood := { row := fnExactCounterPairRow, standIns := [], harness := (true, "084616ed52ea8b4028d042da4fb88779e0fc6cfa64bd19875e3bf0241c810723"), looks := true }, kinds := [], alts := [], laidByText := true, laidKinds := [.data, .data, .pinned, .pinned], laidTests := true, laidLooks := .later }
def FnExactCounterPairCardSaid : Prop := Claim7.holds Tryz.pinned (.plain (OpenSpec.ofChange fnExactCounterPairSpec)) fnExactCounterPairCard

/-- THE TIED CARD OF 'laws.FnExactSameOn'. -/
def fnExactSameOnCard : Claim7 := { stood := { row := fnExactSameOnRow, standIns := [], harness := (true, "084616ed52ea8b4028d042da4fb88779e0fc6cfa64bd19875e3bf0241c810723"), looks := true }, kinds := [], alts := [], laidByText := true, laidKinds := [.data, .pinned, .pinned], laidTests := true, laidLooks := .later }
def FnExactSameOnCardSaid : Prop := Claim7.holds Tryz.pinned (.plain (OpenSpec.ofChange fnExactSameOnSpec)) fnExactSameOnCard

/-- THE TIED CARD OF 'laws.FnExactAffectedVars'. -/
def fnExactAffectedVarsCard : Claim7 := { stood := { row := fnExactAffectedVarsRow, standIns := [], harness := (true, "084616ed52ea8b4028d042da4fb88779e0fc6cfa64bd19875e3bf0241c810723"), looks := true }, kinds := [], alts := [], laidByText := true, laidKinds := [.data, .pinned, .pinned], laidTests := true, laidLooks := .later }
def FnExactAffectedVarsCardSaid : Prop := Claim7.holds Tryz.pinned (.plain (OpenSpec.ofChange fnExactAffectedVarsSpec)) fnExactAffectedVarsCard

/-- THE TIED CARD OF 'laws.FnExactMonotoneIn'. -/
def fnExactMonotoneInCard : Claim7 := { stood := { row := fnExactMonotoneInRow, standIns := [], harness := (true, "084616ed52ea8b4028d042da4fb88779e0fc6cfa64bd19875e3bf0241c810723"), looks := true }, kinds := [], alts := [], laidByText := true, laidKinds := [.data, .pinned, .pinned], laidTests := true, laidLooks := .later }
def FnExactMonotoneInCardSaid : Prop := Claim7.holds Tryz.pinned (.plain (OpenSpec.ofChange fnExactMonotoneInSpec)) fnExactMonotoneInCard

/-- THE TIED CARD OF 'laws.FnExactDeterministicProgram'. -/
def fnExactDeterministicProgramCard : Claim7 := { stood := { row := fnExactDeterministicProgramRow, standIns := [], harness := (true, "084616ed52ea8b4028d042da4fb88779e0fc6cfa64bd19875e3bf0241c810723"), looks := true }, kinds := [], alts := [], laidByText := true, laidKinds := [.data, .pinned, .pinned], laidTests := true, laidLooks := .later }
def FnExactDeterministicProgramCardSaid : Prop := Claim7.holds Tryz.pinned (.plain (OpenSpec.ofChange fnExactDeterministicProgramSpec)) fnExactDeterministicProgramCard

/-- THE TIED CARD OF 'laws.FnPairFree'. -/
def fnPairFreeCard : Claim7 := { stood := { row := fnPairFreeRow, standIns := [], harness := (true, "084616ed52ea8b4028d042da4fb88779e0fc6cfa64bd19875e3bf0241c810723"), looks := true }, kinds := [], alts := [], laidByText := true, laidKinds := [.data, .pinned, .pinned], laidTests := true, laidLooks := .later }
def FnPairFreeCardSaid : Prop := Claim7.holds Tryz.pinned (.plain (OpenSpec.ofChange fnPairFreeSpec)) fnPairFreeCard

/-- THE TIED CARD OF 'laws.FnMatchHolds'. -/
def fnMatchHoldsCard : Claim7 := { stood := { row := fnMatchHoldsRow, standIns := [], harness := (true, "084616ed52ea8b4028d042da4fb88779e0fc6cfa64bd19875e3bf0241c810723"), looks := true }, kinds := [], alts := [], laidByText := true, laidKinds := [.data, .pinned, .pinned], laidTests := true, laidLooks := .later }
def FnMatchHoldsCardSaid : Prop := Claim7.holds Tryz.pinned (.plain (OpenSpec.ofChange fnMatchHoldsSpec)) fnMatchHoldsCard

/-- THE TIED CARD OF 'laws.FnEndTogether'. -/
def fnEndTogetherCard : Claim7 := { stood := { row := fnEndTogetherRow, standIns := [], harness := (true, "084616ed52ea8b4028d042da4fb88779e0fc6cfa64bd19875e3bf0241c810723"), looks := true }, kinds := [], alts := [], laidByText := true, laidKinds := [.data, .pinned, .pinned], laidTests := true, laidLooks := .later }
def FnEndTogetherCardSaid : Prop := Claim7.holds Tryz.pinned (.plain (OpenSpec.ofChange fnEndTogetherSpec)) fnEndTogetherCard

/-- THE TIED CARD OF 'laws.FnJoinedFree'. -/
def fnJoinedFreeCard : Claim7 := { stood := { row := fnJoinedFreeRow, standIns := [], harness := (true, "084616ed52ea8b4028d042da4fb88779e0fc6cfa64bd19875e3bf0241c810723"), looks := true }, kinds := [], alts := [], laidByText := true, laidKinds := [.data, .pinned, .pinned], laidTests := true, laidLooks := .later }
def FnJoinedFreeCardSaid : Prop := Claim7.holds Tryz.pinned (.plain (OpenSpec.ofChange fnJoinedFreeSpec)) fnJoinedFreeCard

/-- THE TIED CARD OF 'laws.FnPairComposed'. -/
def fnPairComposedCard : Claim7 := { stood := { row := fnPairComposedRow, standIns := [], harness := (true, "084616ed52ea8b4028d042da4fb88779e0fc6cfa64bd19875e3bf0241c810723"), looks := true }, kinds := [], alts := [], laidByText := true, laidKinds := [.data, .pinned, .pinned], laidTests := true, laidLooks := .later }
def FnPairComposedCardSaid : Prop := Claim7.holds Tryz.pinned (.plain (OpenSpec.ofChange fnPairComposedSpec)) fnPairComposedCard

/-- THE TIED CARD OF 'laws.FnPairTriple'. -/
def fnPairTripleCard : Claim7 := { stood := { row := fnPairTripleRow, standIns := [], harness := (true, "084616ed52ea8b4028d042da4fb88779e0fc6cfa64bd19875e3bf0241c810723"), looks := true }, kinds := [], alts := [], laidByText := true, laidKinds := [.data, .data, .pinned, .pinned], laidTests := true, laidLooks := .later }
def FnPairTripleCardSaid : Prop := Claim7.holds Tryz.pinned (.plain (OpenSpec.ofChange fnPairTripleSpec)) fnPairTripleCard

/-- THE SECOND FORM's CARD OF 'laws.FnExactMatchHolds'. -/
def fnExactMatchHoldsUptoCard : Claim7 := { stood := { row := fnExactMatchHoldsUptoRow, standIns := [], harness := (true, "084616ed52ea8b4028d042da4fb88779e0fc6cfa64bd19875e3bf0241c810723"), looks := true }, kinds := [], alts := [], laidByText := true, laidKinds := [.data, .pinned, .pinned], laidTests := true, laidLooks := .later }
def FnExactMatchHoldsUptoCardSaid : Prop := Claim7.holds Tryz.pinned (.plain (OpenSpec.upto fnExactMatchHoldsSpec)) fnExactMatchHoldsUptoCard

/-- THE SECOND FORM's CARD OF 'laws.FnExactCounterPair'. -/
def fnExactCounterPairUptoCard : Claim7 := { stood := { row := fnExactCounterPairUptoRow, standIns := [], harness := (true, "084616ed52ea8b4028d042da4fb88779e0fc6cfa64bd19875e3bf0241c810723"), looks := true }, kinds := [], alts := [], laidByText := true, laidKinds := [.data, .data, .pinned, .pinned], laidTests := true, laidLooks := .later }
def FnExactCounterPairUptoCardSaid : Prop := Claim7.holds Tryz.pinned (.plain (OpenSpec.upto fnExactCounterPairSpec)) fnExactCounterPairUptoCard

/-- THE SECOND FORM's CARD OF 'laws.FnExactSameOn'. -/
def fnExactSameOnUptoCard : Claim7 := { stood := { row := fnExactSameOnUptoRow, standIns := [], harness := (true, "084616ed52ea8b4028d042da4fb88779e0fc6cfa64bd19875e3bf0241c810723"), looks := true }, kinds := [], alts := [], laidByText := true, laidKinds := [.data, .pinned, .pinned], laidTests := true, laidLooks := .later }
def FnExactSameOnUptoCardSaid : Prop := Claim7.holds Tryz.pinned (.plain (OpenSpec.upto fnExactSameOnSpec)) fnExactSameOnUptoCard

/-- THE SECOND FORM's CARD OF 'laws.FnExactAffectedVars'. -/
def fnExactAffectedVarsUptoCard : Claim7 := { stood := { row := fnExactAffectedVarsUptoRow, standIns := [], harness := (true, "084616ed52ea8b4028d042da4fb88779e0fc6cfa64bd19875e3bf0241c810723"), looks := true }, kinds := [], alts := [], laidByText := true, laidKinds := [.data, .pinned, .pinned], laidTests := true, laidLooks := .later }
def FnExactAffectedVarsUptoCardSaid : Prop := Claim7.holds Tryz.pinned (.plain (OpenSpec.upto fnExactAffectedVarsSpec)) fnExactAffectedVarsUptoCard

/-- THE SECOND FORM's CARD OF 'laws.FnExactMonotoneIn'. -/
def fnExactMonotoneInUptoCard : Claim7 := { stood := { row := fnExactMonotoneInUptoRow, standIns := [], harness := (true, "084616ed52ea8b4028d042da4fb88779e0fc6cfa64bd19875e3bf0241c810723"), looks := true }, kinds := [], alts := [], laidByText := true, laidKinds := [.data, .pinned, .pinned], laidTests := true, laidLooks := .later }
def FnExactMonotoneInUptoCardSaid : Prop := Claim7.holds Tryz.pinned (.plain (OpenSpec.upto fnExactMonotoneInSpec)) fnExactMonotoneInUptoCard

/-- THE SECOND FORM's CARD OF 'laws.FnExactDeterministicProgram'. -/
def fnExactDeterministicProgramUptoCard : Claim7 := { stood := { row := fnExactDeterministicProgramUptoRow, standIns := [], harness := (true, "084616ed52ea8b4028d042da4fb88779e0fc6cfa64bd19875e3bf0241c810723"), looks := true }, kinds := [], alts := [], laidByText := true, laidKinds := [.data, .pinned, .pinned], laidTests := true, laidLooks := .later }
def FnExactDeterministicProgramUptoCardSaid : Prop := Claim7.holds Tryz.pinned (.plain (OpenSpec.upto fnExactDeterministicProgramSpec)) fnExactDeterministicProgramUptoCard

/-- THE SECOND FORM's CARD OF 'laws.FnPairFree'. -/
def fnPairFreeUptoCard : Claim7 := { stood := { row := fnPairFreeUptoRow, standIns := [], harness := (true, "084616ed52ea8b4028d042da4fb88779e0fc6cfa64bd19875e3bf0241c810723"), looks := true }, kinds := [], alts := [], laidByText := true, laidKinds := [.data, .pinned, .pinned], laidTests := true, laidLooks := .later }
def FnPairFreeUptoCardSaid : Prop := Claim7.holds Tryz.pinned (.plain (OpenSpec.upto fnPairFreeSpec)) fnPairFreeUptoCard

/-- THE SECOND FORM's CARD OF 'laws.FnMatchHolds'. -/
def fnMatchHoldsUptoCard : Claim7 := { stood := { row := fnMatchHoldsUptoRow, standIns := [], harness := (true, "084616ed52ea8b4028d042da4fb88779e0fc6cfa64bd19875e3bf0241c810723"), looks := true }, kinds := [], alts := [], laidByText := true, laidKinds := [.data, .pinned, .pinned], laidTests := true, laidLooks := .later }
def FnMatchHoldsUptoCardSaid : Prop := Claim7.holds Tryz.pinned (.plain (OpenSpec.upto fnMatchHoldsSpec)) fnMatchHoldsUptoCard

/-- THE SECOND FORM's CARD OF 'laws.FnEndTogether'. -/
def fnEndTogetherUptoCard : Claim7 := { stood := { row := fnEndTogetherUptoRow, standIns := [], harness := (true, "084616ed52ea8b4028d042da4fb88779e0fc6cfa64bd19875e3bf0241c810723"), looks := true }, kinds := [], alts := [], laidByText := true, laidKinds := [.data, .pinned, .pinned], laidTests := true, laidLooks := .later }
def FnEndTogetherUptoCardSaid : Prop := Claim7.holds Tryz.pinned (.plain (OpenSpec.upto fnEndTogetherSpec)) fnEndTogetherUptoCard

/-- THE SECOND FORM's CARD OF 'laws.FnJoinedFree'. -/
def fnJoinedFreeUptoCard : Claim7 := { stood := { row := fnJoinedFreeUptoRow, standIns := [], harness := (true, "084616ed52ea8b4028d042da4fb88779e0fc6cfa64bd19875e3bf0241c810723"), looks := true }, kinds := [], alts := [], laidByText := true, laidKinds := [.data, .pinned, .pinned], laidTests := true, laidLooks := .later }
def FnJoinedFreeUptoCardSaid : Prop := Claim7.holds Tryz.pinned (.plain (OpenSpec.upto fnJoinedFreeSpec)) fnJoinedFreeUptoCard

/-- THE SECOND FORM's CARD OF 'laws.FnPairComposed'. -/
def fnPairComposedUptoCard : Claim7 := { stood := { row := fnPairComposedUptoRow, standIns := [], harness := (true, "084616ed52ea8b4028d042da4fb88779e0fc6cfa64bd19875e3bf0241c810723"), looks := true }, kinds := [], alts := [], laidByText := true, laidKinds := [.data, .pinned, .pinned], laidTests := true, laidLooks := .later }
def FnPairComposedUptoCardSaid : Prop := Claim7.holds Tryz.pinned (.plain (OpenSpec.upto fnPairComposedSpec)) fnPairComposedUptoCard

/-- THE SECOND FORM's CARD OF 'laws.FnPairTriple'. -/
def fnPairTripleUptoCard : Claim7 := { stood := { row := fnPairTripleUptoRow, standIns := [], harness := (true, "084616ed52ea8b4028d042da4fb88779e0fc6cfa64bd19875e3bf0241c810723"), looks := true }, kinds := [], alts := [], laidByText := true, laidKinds := [.data, .data, .pinned, .pinned], laidTests := true, laidLooks := .later }
def FnPairTripleUptoCardSaid : Prop := Claim7.holds Tryz.pinned (.plain (OpenSpec.upto fnPairTripleSpec)) fnPairTripleUptoCard
end Rows
end Go.Proofs.YtlhmdpkenkibiaaGreatDoor
