/-
  DERIVED. GIVEN WITH THE SEED: THE CARDS: each row of YtbkdappgmcebaaaGreatDoorRows.lean that lists a variable, with what it lists TIED to the program's text (the seventh form; the later family's looks); each row that meets fmt, with fmt's text TOLD by the authors' own Lean function (tested against real Go, not proved from fmt's source: count such statements apart). THE CARD IS WHAT COUNTS. Prove the row's statement (the work); the ties are given (YtbkdappgmcebaaaGreatDoorTie.lean); close each card by the builder's one call (the guide's Derived/Test/ToyasCard.lean, 'card_holds'). Laid BY PROGRAM, IN A SANDBOX (cutbox-door.mjs). By AI agents, Wed Nov 11 2026. No macro, syntax, notation, axiom, sorry.
-/
import Derived.Test.YtbkdappgmcebaaaGreatDoorRows
import GoSem.ClaimSeven
namespace Go.Proofs.YtbkdappgmcebaaaGreatDoor
namespace Rows

/-- THE TIED CARD OF 'trothlaw05.ParseTells'. -/
def parseTellsCard : Claim7 := { stood := { row := parseTellsRow, standIns := [], harness := (true, "34015aec1e0d99a619cebdb29185926d21d4cb11567e1c450d2a1ea3a5edcc20"), looks := true }, kinds := [], alts := [], laidByText := true, laidKinds := [.data, .data, .data, .data, .data], laidTests := true, laidLooks := .later }
def ParseTellsCardSaid : Prop := Claim7.holds Tryz.pinned (.plain (OpenSpec.ofChange parseTellsSpec)) parseTellsCard

/-- THE TIED CARD OF 'trothlaw06.CheckTells'. -/
def checkTellsCard : Claim7 := { stood := { row := checkTellsRow, standIns := [], harness := (true, "34015aec1e0d99a619cebdb29185926d21d4cb11567e1c450d2a1ea3a5edcc20"), looks := true }, kinds := [], alts := [], laidByText := true, laidKinds := [.data, .data, .data], laidTests := true, laidLooks := .later }
def CheckTellsCardSaid : Prop := Claim7.holds Tryz.pinned (.plain (OpenSpec.ofChange checkTellsSpec)) checkTellsCard

/-- THE TIED CARD OF 'trothlaw06.CheckParsed'. -/
def checkParsedCard : Claim7 := { stood := { row := checkParsedRow, standIns := [], harness := (true, "34015aec1e0d99a619cebdb29185926d21d4cb11567e1c450d2a1ea3a5edcc20"), looks := true }, kinds := [], alts := [], laidByText := true, laidKinds := [.data, .data, .data, .data, .data, .data], laidTests := true, laidLooks := .later }
def CheckParsedCardSaid : Prop := Claim7.holds Tryz.pinned (.plain (OpenSpec.ofChange checkParsedSpec)) checkParsedCard

/-- THE SECOND FORM's CARD OF 'trothlaw05.ParseTells'. -/
def parseTellsUptoCard : Claim7 := { stood := { row := parseTellsUptoRow, standIns := [], harness := (true, "34015aec1e0d99a619cebdb29185926d21d4cb11567e1c450d2a1ea3a5edcc20"), looks := true }, kinds := [], alts := [], laidByText := true, laidKinds := [.data, .data, .data, .data, .data], laidTests := true, laidLooks := .later }
def ParseTellsUptoCardSaid : Prop := Claim7.holds Tryz.pinned (.plain (OpenSpec.upto parseTellsSpec)) parseTellsUptoCard

/-- THE SECOND FORM's CARD OF 'trothlaw06.CheckTells'. -/
def checkTellsUptoCard : Claim7 := { stood := { row := checkTellsUptoRow, standIns := [], harness := (true, "34015aec1e0d99a619cebdb29185926d21d4cb11567e1c450d2a1ea3a5edcc20"), looks := true }, kinds := [], alts := [], laidByText := true, laidKinds := [.data, .data, .data], laidTests := true, laidLooks := .later }
def CheckTellsUptoCardSaid : Prop := Claim7.holds Tryz.pinned (.plain (OpenSpec.upto checkTellsSpec)) checkTellsUptoCard

/-- THE SECOND FORM's CARD OF 'trothlaw06.CheckParsed'. -/
def checkParsedUptoCard : Claim7 := { stood := { row := checkParsedUptoRow, standIns := [], harness := (true, "34015aec1e0d99a619cebdb29185926d21d4cb11567e1c450d2a1ea3a5edcc20"), looks := true }, kinds := [], alts := [], laidByText := true, laidKinds := [.data, .data, .data, .data, .data, .data], laidTests := true, laidLooks := .later }
def CheckParsedUptoCardSaid : Prop := Claim7.holds Tryz.pinned (.plain (OpenSpec.upto checkParsedSpec)) checkParsedUptoCard
end Rows
end Go.Proofs.YtbkdappgmcebaaaGreatDoor
