/-
  DERIVED. GIVEN WITH THE SEED: THE CARDS: each row of YtgkoljphndgoeaaGreatDoorRows.lean that lists a variable, with what it lists TIED to the program's text (the seventh form; the later family's looks); each row that meets fmt, with fmt's text TOLD by the authors' own Lean function (tested against real Go, not proved from fmt's source: count such statements apart). THE CARD IS WHAT COUNTS. Prove the row's statement (the work); the ties are given (YtgkoljphndgoeaaGreatDoorTie.lean); close each card by the builder's one call (the guide's Derived/Test/ToyasCard.lean, 'card_holds'). Laid BY PROGRAM, IN A SANDBOX (cutbox-door.mjs). By AI agents, Wed Nov 11 2026. No macro, syntax, notation, axiom, sorry.
-/
import Derived.Test.YtgkoljphndgoeaaGreatDoorRows
import GoSem.ClaimSeven
namespace Go.Proofs.YtgkoljphndgoeaaGreatDoor
namespace Rows

/-- THE TIED CARD OF 'laws.FnSameOn'. -/
def fnSameOnCard : Claim7 := { stood := { row := fnSameOnRow, standIns := [], harness := (true, "4277611ab3eb827e5914724d19ac7fab44e530fb4cdeb19a12103011be7872ac"), looks := true }, kinds := [], alts := [], laidByText := true, laidKinds := [.data, .pinned, .pinned], laidTests := true, laidLooks := .later }
def FnSameOnCardSaid : Prop := Claim7.holds Tryz.pinned (.plain (OpenSpec.ofChange fnSameOnSpec)) fnSameOnCard

/-- THE TIED CARD OF 'laws.FnMatchCompose'. -/
def fnMatchComposeCard : Claim7 := { stood := { row := fnMatchComposeRow, standIns := [], harness := (true, "4277611ab3eb827e5914724d19ac7fab44e530fb4cdeb19a12103011be7872ac"), looks := true }, kinds := [], alts := [], laidByText := true, laidKinds := [.data, .pinned, .pinned], laidTests := true, laidLooks := .later }
def FnMatchComposeCardSaid : Prop := Claim7.holds Tryz.pinned (.plain (OpenSpec.ofChange fnMatchComposeSpec)) fnMatchComposeCard

/-- THE TIED CARD OF 'laws.FnIdempotent'. -/
def fnIdempotentCard : Claim7 := { stood := { row := fnIdempotentRow, standIns := [], harness := (true, "4277611ab3eb827e5914724d19ac7fab44e530fb4cdeb19a12103011be7872ac"), looks := true }, kinds := [], alts := [], laidByText := true, laidKinds := [.data, .pinned, .pinned], laidTests := true, laidLooks := .later }
def FnIdempotentCardSaid : Prop := Claim7.holds Tryz.pinned (.plain (OpenSpec.ofChange fnIdempotentSpec)) fnIdempotentCard

/-- THE TIED CARD OF 'laws.FnSymmetric'. -/
def fnSymmetricCard : Claim7 := { stood := { row := fnSymmetricRow, standIns := [], harness := (true, "4277611ab3eb827e5914724d19ac7fab44e530fb4cdeb19a12103011be7872ac"), looks := true }, kinds := [], alts := [], laidByText := true, laidKinds := [.data, .pinned, .pinned], laidTests := true, laidLooks := .later }
def FnSymmetricCardSaid : Prop := Claim7.holds Tryz.pinned (.plain (OpenSpec.ofChange fnSymmetricSpec)) fnSymmetricCard

/-- THE TIED CARD OF 'laws.FnAffected'. -/
def fnAffectedCard : Claim7 := { stood := { row := fnAffectedRow, standIns := [], harness := (true, "4277611ab3eb827e5914724d19ac7fab44e530fb4cdeb19a12103011be7872ac"), looks := true }, kinds := [], alts := [], laidByText := true, laidKinds := [.data, .pinned, .pinned], laidTests := true, laidLooks := .later }
def FnAffectedCardSaid : Prop := Claim7.holds Tryz.pinned (.plain (OpenSpec.ofChange fnAffectedSpec)) fnAffectedCard

/-- THE TIED CARD OF 'laws.FnFirstDifference'. -/
def fnFirstDifferenceCard : Claim7 := { stood := { row := fnFirstDifferenceRow, standIns := [], harness := (true, "4277611ab3eb827e5914724d19ac7fab44e530fb4cdeb19a12103011be7872ac"), looks := true }, kinds := [], alts := [], laidByText := true, laidKinds := [.data, .pinned, .pinned], laidTests := true, laidLooks := .later }
def FnFirstDifferenceCardSaid : Prop := Claim7.holds Tryz.pinned (.plain (OpenSpec.ofChange fnFirstDifferenceSpec)) fnFirstDifferenceCard

/-- THE TIED CARD OF 'laws.FnUndoes'. -/
def fnUndoesCard : Claim7 := { stood := { row := fnUndoesRow, standIns := [], harness := (true, "4277611ab3eb827e5914724d19ac7fab44e530fb4cdeb19a12103011be7872ac"), looks := true }, kinds := [], alts := [], laidByText := true, laidKinds := [.data, .pinned, .pinned], laidTests := true, laidLooks := .later }
def FnUndoesCardSaid : Prop := Claim7.holds Tryz.pinned (.plain (OpenSpec.ofChange fnUndoesSpec)) fnUndoesCard

/-- THE TIED CARD OF 'laws.FnCommute'. -/
def fnCommuteCard : Claim7 := { stood := { row := fnCommuteRow, standIns := [], harness := (true, "4277611ab3eb827e5914724d19ac7fab44e530fb4cdeb19a12103011be7872ac"), looks := true }, kinds := [], alts := [], laidByText := true, laidKinds := [.data, .pinned, .pinned], laidTests := true, laidLooks := .later }
def FnCommuteCardSaid : Prop := Claim7.holds Tryz.pinned (.plain (OpenSpec.ofChange fnCommuteSpec)) fnCommuteCard

/-- THE TIED CARD OF 'laws.FnFormatDerivation'. -/
def fnFormatDerivationCard : Claim7 := { stood := { row := fnFormatDerivationRow, standIns := [], harness := (true, "4277611ab3eb827e5914724d19ac7fab44e530fb4cdeb19a12103011be7872ac"), looks := true }, kinds := [], alts := [], laidByText := true, laidKinds := [.data, .data, .data], laidTests := true, laidLooks := .later }
def FnFormatDerivationCardSaid : Prop := Claim7.holds Tryz.pinned (.plain (OpenSpec.ofChange fnFormatDerivationSpec)) fnFormatDerivationCard

/-- THE SECOND FORM's CARD OF 'laws.FnSameOn'. -/
def fnSameOnUptoCard : Claim7 := { stood := { row := fnSameOnUptoRow, standIns := [], harness := (true, "4277611ab3eb827e5914724d19ac7fab44e530fb4cdeb19a12103011be7872ac"), looks := true }, kinds := [], alts := [], laidByText := true, laidKinds := [.data, .pinned, .pinned], laidTests := true, laidLooks := .later }
def FnSameOnUptoCardSaid : Prop := Claim7.holds Tryz.pinned (.plain (OpenSpec.upto fnSameOnSpec)) fnSameOnUptoCard

/-- THE SECOND FORM's CARD OF 'laws.FnMatchCompose'. -/
def fnMatchComposeUptoCard : Claim7 := { stood := { row := fnMatchComposeUptoRow, standIns := [], harness := (true, "4277611ab3eb827e5914724d19ac7fab44e530fb4cdeb19a12103011be7872ac"), looks := true }, kinds := [], alts := [], laidByText := true, laidKinds := [.data, .pinned, .pinned], laidTests := true, laidLooks := .later }
def FnMatchComposeUptoCardSaid : Prop := Claim7.holds Tryz.pinned (.plain (OpenSpec.upto fnMatchComposeSpec)) fnMatchComposeUptoCard

/-- THE SECOND FORM's CARD OF 'laws.FnIdempotent'. -/
def fnIdempotentUptoCard : Claim7 := { stood := { row := fnIdempotentUptoRow, standIns := [], harness := (true, "4277611ab3eb827e5914724d19ac7fab44e530fb4cdeb19a12103011be7872ac"), looks := true }, kinds := [], alts := [], laidByText := true, laidKinds := [.data, .pinned, .pinned], laidTests := true, laidLooks := .later }
def FnIdempotentUptoCardSaid : Prop := Claim7.holds Tryz.pinned (.plain (OpenSpec.upto fnIdempotentSpec)) fnIdempotentUptoCard

/-- THE SECOND FORM's CARD OF 'laws.FnSymmetric'. -/
def fnSymmetricUptoCard : Claim7 := { stood := { row := fnSymmetricUptoRow, standIns := [], harness := (true, "4277611ab3eb827e5914724d19ac7fab44e530fb4cdeb19a12103011be7872ac"), looks := true }, kinds := [], alts := [], laidByText := true, laidKinds := [.data, .pinned, .pinned], laidTests := true, laidLooks := .later }
def FnSymmetricUptoCardSaid : Prop := Claim7.holds Tryz.pinned (.plain (OpenSpec.upto fnSymmetricSpec)) fnSymmetricUptoCard

/-- THE SECOND FORM's CARD OF 'laws.FnAffected'. -/
def fnAffectedUptoCard : Claim7 := { stood := { row := fnAffectedUptoRow, standIns := [], harness := (true, "4277611ab3eb827e5914724d19ac7fab44e530fb4cdeb19a12103011be7872ac"), looks := true }, kinds := [], alts := [], laidByText := true, laidKinds := [.data, .pinned, .pinned], laidTests := true, laidLooks := .later }
def FnAffectedUptoCardSaid : Prop := Claim7.holds Tryz.pinned (.plain (OpenSpec.upto fnAffectedSpec)) fnAffectedUptoCard

/-- THE SECOND FORM's CARD OF 'laws.FnFirstDifference'. -/
def fnFirstDifferenceUptoCard : Claim7 := { stood := { row := fnFirstDifferenceUptoRow, standIns := [], harness := (true, "4277611ab3eb827e5914724d19ac7fab44e530fb4cdeb19a12103011be7872ac"), looks := true }, kinds := [], alts := [], laidByText := true, laidKinds := [.data, .pinned, .pinned], laidTests := true, laidLooks := .later }
def FnFirstDifferenceUptoCardSaid : Prop := Claim7.holds Tryz.pinned (.plain (OpenSpec.upto fnFirstDifferenceSpec)) fnFirstDifferenceUptoCard

/-- THE SECOND FORM's CARD OF 'laws.FnUndoes'. -/
def fnUndoesUptoCard : Claim7 := { stood := { row := fnUndoesUptoRow, standIns := [], harness := (true, "4277611ab3eb827e5914724d19ac7fab44e530fb4cdeb19a12103011be7872ac"), looks := true }, kinds := [], alts := [], laidByText := true, laidKinds := [.data, .pinned, .pinned], laidTests := true, laidLooks := .later }
def FnUndoesUptoCardSaid : Prop := Claim7.holds Tryz.pinned (.plain (OpenSpec.upto fnUndoesSpec)) fnUndoesUptoCard

/-- THE SECOND FORM's CARD OF 'laws.FnCommute'. -/
def fnCommuteUptoCard : Claim7 := { stood := { row := fnCommuteUptoRow, standIns := [], harness := (true, "4277611ab3eb827e5914724d19ac7fab44e530fb4cdeb19a12103011be7872ac"), looks := true }, kinds := [], alts := [], laidByText := true, laidKinds := [.data, .pinned, .pinned], laidTests := true, laidLooks := .later }
def FnCommuteUptoCardSaid : Prop := Claim7.holds Tryz.pinned (.plain (OpenSpec.upto fnCommuteSpec)) fnCommuteUptoCard

/-- THE SECOND FORM's CARD OF 'laws.FnFormatDerivation'. -/
def fnFormatDerivationUptoCard : Claim7 := { stood := { row := fnFormatDerivationUptoRow, standIns := [], harness := (true, "4277611ab3eb827e5914724d19ac7fab44e530fb4cdeb19a12103011be7872ac"), looks := true }, kinds := [], alts := [], laidByText := true, laidKinds := [.data, .data, .data], laidTests := true, laidLooks := .later }
def FnFormatDerivationUptoCardSaid : Prop := Claim7.holds Tryz.pinned (.plain (OpenSpec.upto fnFormatDerivationSpec)) fnFormatDerivationUptoCard
end Rows
end Go.Proofs.YtgkoljphndgoeaaGreatDoor
