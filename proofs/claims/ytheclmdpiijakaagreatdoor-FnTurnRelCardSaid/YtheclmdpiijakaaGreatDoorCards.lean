/-
  DERIVED. GIVEN WITH THE SEED: THE CARDS: each row of YtheclmdpiijakaaGreatDoorRows.lean that lists a variable, with what it lists TIED to the program's text (the seventh form; the later family's looks); each row that meets fmt, with fmt's text TOLD by the authors' own Lean function (tested against real Go, not proved from fmt's source: count such statements apart). THE CARD IS WHAT COUNTS. Prove the row's statement (the work); the ties are given (YtheclmdpiijakaaGreatDoorTie.lean); close each card by the builder's one call (the guide's Derived/Test/ToyasCard.lean, 'card_holds'). Laid BY PROGRAM, IN A SANDBOX (cutbox-door.mjs). By AI agents, Wed Nov 11 2026. No macro, syntax, notation, axiom, sorry.
-/
import Derived.Test.YtheclmdpiijakaaGreatDoorRows
import GoSem.ClaimSeven
namespace Go.Proofs.YtheclmdpiijakaaGreatDoor
namespace Rows

/-- THE TIED CARD OF 'laws.FnTurnRel'. -/
def fnTurnRelCard : Claim7 := { stood := { row := fnTurnRelRow, standIns := [], harness := (true, "7da9d608d6b91fbf7bed0fe59702bd43a3df9fc3205456df33374be6c6e97e5c"), looks := true }, kinds := [], alts := [], laidByText := true, laidKinds := [.data, .pinned, .pinned], laidTests := true, laidLooks := .later }
def FnTurnRelCardSaid : Prop := Claim7.holds Tryz.pinned (.plain (OpenSpec.ofChange fnTurnRelSpec)) fnTurnRelCard

/-- THE TIED CARD OF 'laws.FnCloseRel'. -/
def fnCloseRelCard : Claim7 := { stood := { row := fnCloseRelRow, standIns := [], harness := (true, "7da9d608d6b91fbf7bed0fe59702bd43a3df9fc3205456df33374be6c6e97e5c"), looks := true }, kinds := [], alts := [], laidByText := true, laidKinds := [.data, .pinned, .pinned], laidTests := true, laidLooks := .later }
def FnCloseRelCardSaid : Prop := Claim7.holds Tryz.pinned (.plain (OpenSpec.ofChange fnCloseRelSpec)) fnCloseRelCard

/-- THE TIED CARD OF 'laws.FnAgreeOn'. -/
def fnAgreeOnCard : Claim7 := { stood := { row := fnAgreeOnRow, standIns := [], harness := (true, "7da9d608d6b91fbf7bed0fe59702bd43a3df9fc3205456df33374be6c6e97e5c"), looks := true }, kinds := [], alts := [], laidByText := true, laidKinds := [.data, .pinned, .pinned], laidTests := true, laidLooks := .later }
def FnAgreeOnCardSaid : Prop := Claim7.holds Tryz.pinned (.plain (OpenSpec.ofChange fnAgreeOnSpec)) fnAgreeOnCard

/-- THE TIED CARD OF 'laws.FnExactLineValid'. -/
def fnExactLineValidCard : Claim7 := { stood := { row := fnExactLineValidRow, standIns := [], harness := (true, "7da9d608d6b91fbf7bed0fe59702bd43a3df9fc3205456df33374be6c6e97e5c"), looks := true }, kinds := [], alts := [], laidByText := true, laidKinds := [.data, .pinned, .pinned], laidTests := true, laidLooks := .later }
def FnExactLineValidCardSaid : Prop := Claim7.holds Tryz.pinned (.plain (OpenSpec.ofChange fnExactLineValidSpec)) fnExactLineValidCard

/-- THE SECOND FORM's CARD OF 'laws.FnTurnRel'. -/
def fnTurnRelUptoCard : Claim7 := { stood := { row := fnTurnRelUptoRow, standIns := [], harness := (true, "7da9d608d6b91fbf7bed0fe59702bd43a3df9fc3205456df33374be6c6e97e5c"), looks := true }, kinds := [], alts := [], laidByText := true, laidKinds := [.data, .pinned, .pinned], laidTests := true, laidLooks := .later }
def FnTurnRelUptoCardSaid : Prop := Claim7.holds Tryz.pinned (.plain (OpenSpec.upto fnTurnRelSpec)) fnTurnRelUptoCard

/-- THE SECOND FORM's CARD OF 'laws.FnCloseRel'. -/
def fnCloseRelUptoCard : Claim7 := { stood := { row := fnCloseRelUptoRow, standIns := [], harness := (true, "7da9d608d6b91fbf7bed0fe59702bd43a3df9fc3205456df33374be6c6e97e5c"), looks := true }, kinds := [], alts := [], laidByText := true, laidKinds := [.data, .pinned, .pinned], laidTests := true, laidLooks := .later }
def FnCloseRelUptoCardSaid : Prop := Claim7.holds Tryz.pinned (.plain (OpenSpec.upto fnCloseRelSpec)) fnCloseRelUptoCard

/-- THE SECOND FORM's CARD OF 'laws.FnAgreeOn'. -/
def fnAgreeOnUptoCard : Claim7 := { stood := { row := fnAgreeOnUptoRow, standIns := [], harness := (true, "7da9d608d6b91fbf7bed0fe59702bd43a3df9fc3205456df33374be6c6e97e5c"), looks := true }, kinds := [], alts := [], laidByText := true, laidKinds := [.data, .pinned, .pinned], laidTests := true, laidLooks := .later }
def FnAgreeOnUptoCardSaid : Prop := Claim7.holds Tryz.pinned (.plain (OpenSpec.upto fnAgreeOnSpec)) fnAgreeOnUptoCard

/-- THE SECOND FORM's CARD OF 'laws.FnExactLineValid'. -/
def fnExactLineValidUptoCard : Claim7 := { stood := { row := fnExactLineValidUptoRow, standIns := [], harness := (true, "7da9d608d6b91fbf7bed0fe59702bd43a3df9fc3205456df33374be6c6e97e5c"), looks := true }, kinds := [], alts := [], laidByText := true, laidKinds := [.data, .pinned, .pinned], laidTests := true, laidLooks := .later }
def FnExactLineValidUptoCardSaid : Prop := Claim7.holds Tryz.pinned (.plain (OpenSpec.upto fnExactLineValidSpec)) fnExactLineValidUptoCard
end Rows
end Go.Proofs.YtheclmdpiijakaaGreatDoor
