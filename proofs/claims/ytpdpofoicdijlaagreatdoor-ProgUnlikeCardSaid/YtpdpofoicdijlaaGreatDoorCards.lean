/-
  DERIVED. GIVEN WITH THE SEED: THE CARDS: each row of YtpdpofoicdijlaaGreatDoorRows.lean that lists a variable, with what it lists TIED to the program's text (the seventh form; the later family's looks); each row that meets fmt, with fmt's text TOLD by the authors' own Lean function (tested against real Go, not proved from fmt's source: count such statements apart). THE CARD IS WHAT COUNTS. Prove the row's statement (the work); the ties are given (YtpdpofoicdijlaaGreatDoorTie.lean); close each card by the builder's one call (the guide's Derived/Test/ToyasCard.lean, 'card_holds'). Laid BY PROGRAM, IN A SANDBOX (cutbox-door.mjs). By AI agents, Wed Nov 11 2026. No macro, syntax, notation, axiom, sorry.
-/
import Derived.Test.YtpdpofoicdijlaaGreatDoorRows
import GoSem.ClaimSeven
namespace Go.Proofs.YtpdpofoicdijlaaGreatDoor
namespace Rows

/-- THE TIED CARD OF 'trothlaw04.ProgUnlike'. -/
def progUnlikeCard : Claim7 := { stood := { row := progUnlikeRow, standIns := [], harness := (true, "7e1f6a46262b8a73cb0117958686fe6b5423416cbf7b12fa910291483dea92db"), looks := true }, kinds := [], alts := [], laidByText := true, laidKinds := [.data, .data, .data, .data, .data], laidTests := true, laidLooks := .later }
def ProgUnlikeCardSaid : Prop := Claim7.holds Tryz.pinned (.plain (OpenSpec.ofChange progUnlikeSpec)) progUnlikeCard

/-- THE TIED CARD OF 'trothlaw05.ParseTells'. -/
def parseTellsCard : Claim7 := { stood := { row := parseTellsRow, standIns := [], harness := (true, "7e1f6a46262b8a73cb0117958686fe6b5423416cbf7b12fa910291483dea92db"), looks := true }, kinds := [], alts := [], laidByText := true, laidKinds := [.data, .data, .data, .data, .data], laidTests := true, laidLooks := .later }
def ParseTellsCardSaid : Prop := Claim7.holds Tryz.pinned (.plain (OpenSpec.ofChange parseTellsSpec)) parseTellsCard

/-- THE TIED CARD OF 'trothlaw05.ParseBack'. -/
def parseBackCard : Claim7 := { stood := { row := parseBackRow, standIns := [], harness := (true, "7e1f6a46262b8a73cb0117958686fe6b5423416cbf7b12fa910291483dea92db"), looks := true }, kinds := [], alts := [], laidByText := true, laidKinds := [.data, .data, .data, .data, .data], laidTests := true, laidLooks := .later }
def ParseBackCardSaid : Prop := Claim7.holds Tryz.pinned (.plain (OpenSpec.ofChange parseBackSpec)) parseBackCard

/-- THE SECOND FORM's CARD OF 'trothlaw04.ProgUnlike'. -/
def progUnlikeUptoCard : Claim7 := { stood := { row := progUnlikeUptoRow, standIns := [], harness := (true, "7e1f6a46262b8a73cb0117958686fe6b5423416cbf7b12fa910291483dea92db"), looks := true }, kinds := [], alts := [], laidByText := true, laidKinds := [.data, .data, .data, .data, .data], laidTests := true, laidLooks := .later }
def ProgUnlikeUptoCardSaid : Prop := Claim7.holds Tryz.pinned (.plain (OpenSpec.upto progUnlikeSpec)) progUnlikeUptoCard

/-- THE SECOND FORM's CARD OF 'trothlaw05.ParseTells'. -/
def parseTellsUptoCard : Claim7 := { stood := { row := parseTellsUptoRow, standIns := [], harness := (true, "7e1f6a46262b8a73cb0117958686fe6b5423416cbf7b12fa910291483dea92db"), looks := true }, kinds := [], alts := [], laidByText := true, laidKinds := [.data, .data, .data, .data, .data], laidTests := true, laidLooks := .later }
def ParseTellsUptoCardSaid : Prop := Claim7.holds Tryz.pinned (.plain (OpenSpec.upto parseTellsSpec)) parseTellsUptoCard

/-- THE SECOND FORM's CARD OF 'trothlaw05.ParseBack'. -/
def parseBackUptoCard : Claim7 := { stood := { row := parseBackUptoRow, standIns := [], harness := (true, "7e1f6a46262b8a73cb0117958686fe6b5423416cbf7b12fa910291483dea92db"), looks := true }, kinds := [], alts := [], laidByText := true, laidKinds := [.data, .data, .data, .data, .data], laidTests := true, laidLooks := .later }
def ParseBackUptoCardSaid : Prop := Claim7.holds Tryz.pinned (.plain (OpenSpec.upto parseBackSpec)) parseBackUptoCard
end Rows
end Go.Proofs.YtpdpofoicdijlaaGreatDoor
