/-
  DERIVED. GIVEN WITH THE SEED: THE CARDS: each row of YtppdbnccinfegaaGreatDoorRows.lean that lists a variable, with what it lists TIED to the program's text (the seventh form; the later family's looks); each row that meets fmt, with fmt's text TOLD by the authors' own Lean function (tested against real Go, not proved from fmt's source: count such statements apart). THE CARD IS WHAT COUNTS. Prove the row's statement (the work); the ties are given (YtppdbnccinfegaaGreatDoorTie.lean); close each card by the builder's one call (the guide's Derived/Test/ToyasCard.lean, 'card_holds'). Laid BY PROGRAM, IN A SANDBOX (cutbox-door.mjs). By AI agents, Wed Nov 11 2026. No macro, syntax, notation, axiom, sorry.
-/
import Derived.Test.YtppdbnccinfegaaGreatDoorRows
import GoSem.ClaimSeven
namespace Go.Proofs.YtppdbnccinfegaaGreatDoor
namespace Rows

/-- THE TIED CARD OF 'trothlaw05.ParseTells'. -/
def parseTellsCard : Claim7 := { stood := { row := parseTellsRow, standIns := [], harness := (true, "91916ed57cc2129255f3e6e7caff26434b2316e6d9bcc389ce906affe616559c"), looks := true }, kinds := [], alts := [], laidByText := true, laidKinds := [.data, .data, .data, .data, .data], laidTests := true, laidLooks := .later }
def ParseTellsCardSaid : Prop := Claim7.holds Tryz.pinned (.plain (OpenSpec.ofChange parseTellsSpec)) parseTellsCard

/-- THE TIED CARD OF 'trothlaw05.ParseBack'. -/
def parseBackCard : Claim7 := { stood := { row := parseBackRow, standIns := [], harness := (true, "91916ed57cc2129255f3e6e7caff26434b2316e6d9bcc389ce906affe616559c"), looks := true }, kinds := [], alts := [], laidByText := true, laidKinds := [.data, .data, .data, .data, .data], laidTests := true, laidLooks := .later }
def ParseBackCardSaid : Prop := Claim7.holds Tryz.pinned (.plain (OpenSpec.ofChange parseBackSpec)) parseBackCard

/-- THE TIED CARD OF 'trothlaw06.CheckTells'. -/
def checkTellsCard : Claim7 := { stood := { row := checkTellsRow, standIns := [], harness := (true, "91916ed57cc2129255f3e6e7caff26434b2316e6d9bcc389ce906affe616559c"), looks := true }, kinds := [], alts := [], laidByText := true, laidKinds := [.data, .data, .data], laidTests := true, laidLooks := .later }
def CheckTellsCardSaid : Prop := Claim7.holds Tryz.pinned (.plain (OpenSpec.ofChange checkTellsSpec)) checkTellsCard

/-- THE TIED CARD OF 'trothlaw06.CheckParsed'. -/
def checkParsedCard : Claim7 := { stood := { row := checkParsedRow, standIns := [], harness := (true, "91916ed57cc2129255f3e6e7caff26434b2316e6d9bcc389ce906affe616559c"), looks := true }, kinds := [], alts := [], laidByText := true, laidKinds := [.data, .data, .data, .data, .data, .data], laidTests := true, laidLooks := .later }
def CheckParsedCardSaid : Prop := Claim7.holds Tryz.pinned (.plain (OpenSpec.ofChange checkParsedSpec)) checkParsedCard

/-- THE TIED CARD OF 'trothlaw08.ThreadRuns'. -/
def threadRunsCard : Claim7 := { stood := { row := threadRunsRow, standIns := [], harness := (true, "91916ed57cc2129255f3e6e7caff26434b2316e6d9bcc389ce906affe616559c"), looks := true }, kinds := [], alts := [], laidByText := true, laidKinds := [.data, .data, .data], laidTests := true, laidLooks := .later }
def ThreadRunsCardSaid : Prop := Claim7.holds Tryz.pinned (.plain (OpenSpec.ofChange threadRunsSpec)) threadRunsCard

/-- THE TIED CARD OF 'trothlaw08.ThreadModes'. -/
def threadModesCard : Claim7 := { stood := { row := threadModesRow, standIns := [], harness := (true, "91916ed57cc2129255f3e6e7caff26434b2316e6d9bcc389ce906affe616559c"), looks := true }, kinds := [], alts := [], laidByText := true, laidKinds := [.data, .data, .data], laidTests := true, laidLooks := .later }
def ThreadModesCardSaid : Prop := Claim7.holds Tryz.pinned (.plain (OpenSpec.ofChange threadModesSpec)) threadModesCard

/-- THE TIED CARD OF 'trothlaw08.ThreadEnds'. -/
def threadEndsCard : Claim7 := { stood := { row := threadEndsRow, standIns := [], harness := (true, "91916ed57cc2129255f3e6e7caff26434b2316e6d9bcc389ce906affe616559c"), looks := true }, kinds := [], alts := [], laidByText := true, laidKinds := [.data, .data, .data], laidTests := true, laidLooks := .later }
def ThreadEndsCardSaid : Prop := Claim7.holds Tryz.pinned (.plain (OpenSpec.ofChange threadEndsSpec)) threadEndsCard

/-- THE TIED CARD OF 'trothlaw14.ConfigBegins'. -/
def configBeginsCard : Claim7 := { stood := { row := configBeginsRow, standIns := [], harness := (true, "91916ed57cc2129255f3e6e7caff26434b2316e6d9bcc389ce906affe616559c"), looks := true }, kinds := [], alts := [], laidByText := true, laidKinds := [.data, .data, .data, .data, .data, .data], laidTests := true, laidLooks := .later }
def ConfigBeginsCardSaid : Prop := Claim7.holds Tryz.pinned (.plain (OpenSpec.ofChange configBeginsSpec)) configBeginsCard

/-- THE SECOND FORM's CARD OF 'trothlaw05.ParseTells'. -/
def parseTellsUptoCard : Claim7 := { stood := { row := parseTellsUptoRow, standIns := [], harness := (true, "91916ed57cc2129255f3e6e7caff26434b2316e6d9bcc389ce906affe616559c"), looks := true }, kinds := [], alts := [], laidByText := true, laidKinds := [.data, .data, .data, .data, .data], laidTests := true, laidLooks := .later }
def ParseTellsUptoCardSaid : Prop := Claim7.holds Tryz.pinned (.plain (OpenSpec.upto parseTellsSpec)) parseTellsUptoCard

/-- THE SECOND FORM's CARD OF 'trothlaw05.ParseBack'. -/
def parseBackUptoCard : Claim7 := { stood := { row := parseBackUptoRow, standIns := [], harness := (true, "91916ed57cc2129255f3e6e7caff26434b2316e6d9bcc389ce906affe616559c"), looks := true }, kinds := [], alts := [], laidByText := true, laidKinds := [.data, .data, .data, .data, .data], laidTests := true, laidLooks := .later }
def ParseBackUptoCardSaid : Prop := Claim7.holds Tryz.pinned (.plain (OpenSpec.upto parseBackSpec)) parseBackUptoCard

/-- THE SECOND FORM's CARD OF 'trothlaw06.CheckTells'. -/
def checkTellsUptoCard : Claim7 := { stood := { row := checkTellsUptoRow, standIns := [], harness := (true, "91916ed57cc2129255f3e6e7caff26434b2316e6d9bcc389ce906affe616559c"), looks := true }, kinds := [], alts := [], laidByText := true, laidKinds := [.data, .data, .data], laidTests := true, laidLooks := .later }
def CheckTellsUptoCardSaid : Prop := Claim7.holds Tryz.pinned (.plain (OpenSpec.upto checkTellsSpec)) checkTellsUptoCard

/-- THE SECOND FORM's CARD OF 'trothlaw06.CheckParsed'. -/
def checkParsedUptoCard : Claim7 := { stood := { row := checkParsedUptoRow, standIns := [], harness := (true, "91916ed57cc2129255f3e6e7caff26434b2316e6d9bcc389ce906affe616559c"), looks := true }, kinds := [], alts := [], laidByText := true, laidKinds := [.data, .data, .data, .data, .data, .data], laidTests := true, laidLooks := .later }
def CheckParsedUptoCardSaid : Prop := Claim7.holds Tryz.pinned (.plain (OpenSpec.upto checkParsedSpec)) checkParsedUptoCard

/-- THE SECOND FORM's CARD OF 'trothlaw08.ThreadRuns'. -/
def threadRunsUptoCard : Claim7 := { stood := { row := threadRunsUptoRow, standIns := [], harness := (true, "91916ed57cc2129255f3e6e7caff26434b2316e6d9bcc389ce906affe616559c"), looks := true }, kinds := [], alts := [], laidByText := true, laidKinds := [.data, .data, .data], laidTests := true, laidLooks := .later }
def ThreadRunsUptoCardSaid : Prop := Claim7.holds Tryz.pinned (.plain (OpenSpec.upto threadRunsSpec)) threadRunsUptoCard

/-- THE SECOND FORM's CARD OF 'trothlaw08.ThreadModes'. -/
def threadModesUptoCard : Claim7 := { stood := { row := threadModesUptoRow, standIns := [], harness := (true, "91916ed57cc2129255f3e6e7caff26434b2316e6d9bcc389ce906affe616559c"), looks := true }, kinds := [], alts := [], laidByText := true, laidKinds := [.data, .data, .data], laidTests := true, laidLooks := .later }
def ThreadModesUptoCardSaid : Prop := Claim7.holds Tryz.pinned (.plain (OpenSpec.upto threadModesSpec)) threadModesUptoCard

/-- THE SECOND FORM's CARD OF 'trothlaw08.ThreadEnds'. -/
def threadEndsUptoCard : Claim7 := { stood := { row := threadEndsUptoRow, standIns := [], harness := (true, "91916ed57cc2129255f3e6e7caff26434b2316e6d9bcc389ce906affe616559c"), looks := true }, kinds := [], alts := [], laidByText := true, laidKinds := [.data, .data, .data], laidTests := true, laidLooks := .later }
def ThreadEndsUptoCardSaid : Prop := Claim7.holds Tryz.pinned (.plain (OpenSpec.upto threadEndsSpec)) threadEndsUptoCard

/-- THE SECOND FORM's CARD OF 'trothlaw14.ConfigBegins'. -/
def configBeginsUptoCard : Claim7 := { stood := { row := configBeginsUptoRow, standIns := [], harness := (true, "91916ed57cc2129255f3e6e7caff26434b2316e6d9bcc389ce906affe616559c"), looks := true }, kinds := [], alts := [], laidByText := true, laidKinds := [.data, .data, .data, .data, .data, .data], laidTests := true, laidLooks := .later }
def ConfigBeginsUptoCardSaid : Prop := Claim7.holds Tryz.pinned (.plain (OpenSpec.upto configBeginsSpec)) configBeginsUptoCard
end Rows
end Go.Proofs.YtppdbnccinfegaaGreatDoor
