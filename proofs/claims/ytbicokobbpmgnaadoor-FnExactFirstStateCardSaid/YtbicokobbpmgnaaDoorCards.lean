/-
  DERIVED. GIVEN WITH THE SEED: THE CARDS: each row of YtbicokobbpmgnaaDoorRows.lean that lists a variable, with what it lists TIED to the program's text (the seventh form; the later family's looks); each row that meets fmt, with fmt's text TOLD by the authors' own Lean function (tested against real Go, not proved from fmt's source: count such statements apart). THE CARD IS WHAT COUNTS. Prove the row's statement (the work); the ties are given (YtbicokobbpmgnaaDoorTie.lean); close each card by the builder's one call (the guide's Derived/Test/ToyasCard.lean, 'card_holds'). Laid BY PROGRAM, IN A SANDBOX (cutbox-door.mjs). By AI agents, Wed Nov 11 2026. No macro, syntax, notation, axiom, sorry.
-/
import Derived.Test.YtbicokobbpmgnaaDoorRows
import GoSem.ClaimSeven
namespace Go.Proofs.YtbicokobbpmgnaaDoor
namespace Rows

/-- THE TIED CARD OF 'laws.FnExactFirstState'. -/
def fnExactFirstStateCard : Claim7 := { stood := { row := fnExactFirstStateRow, standIns := [], harness := (true, "b493c5170db7742b033104152af1dede0c113df77ac0979923a50a24f5131e49"), looks := false }, kinds := [], alts := [], laidByText := true, laidKinds := [.data], laidTests := true, laidLooks := .later }
def FnExactFirstStateCardSaid : Prop := Claim7.holds Tryd.pinned (.plain (OpenSpec.ofChange fnExactFirstStateSpec)) fnExactFirstStateCard

/-- THE SECOND FORM's CARD OF 'laws.FnExactFirstState'. -/
def fnExactFirstStateUptoCard : Claim7 := { stood := { row := fnExactFirstStateUptoRow, standIns := [], harness := (true, "b493c5170db7742b033104152af1dede0c113df77ac0979923a50a24f5131e49"), looks := false }, kinds := [], alts := [], laidByText := true, laidKinds := [.data], laidTests := true, laidLooks := .later }
def FnExactFirstStateUptoCardSaid : Prop := Claim7.holds Tryd.pinned (.plain (OpenSpec.upto fnExactFirstStateSpec)) fnExactFirstStateUptoCard
end Rows
end Go.Proofs.YtbicokobbpmgnaaDoor
