/-
  DERIVED. GIVEN WITH THE SEED: THE CARDS: each row of YtagebkachdmnbaaGreatDoorRows.lean that lists a variable, with what it lists TIED to the program's text (the seventh form; the later family's looks); each row that meets fmt, with fmt's text TOLD by the authors' own Lean function (tested against real Go, not proved from fmt's source: count such statements apart). THE CARD IS WHAT COUNTS. Prove the row's statement (the work); the ties are given (YtagebkachdmnbaaGreatDoorTie.lean); close each card by the builder's one call (the guide's Derived/Test/ToyasCard.lean, 'card_holds'). Laid BY PROGRAM, IN A SANDBOX (cutbox-door.mjs). By AI agents, Wed Nov 11 2026. No macro, syntax, notation, axiom, sorry.
-/
import Derived.Test.YtagebkachdmnbaaGreatDoorRows
import GoSem.ClaimSeven
namespace Go.Proofs.YtagebkachdmnbaaGreatDoor
namespace Rows

/-- THE TIED CARD OF 'trothlaw08.ThreadRuns'. -/
def threadRunsCard : Claim7 := { stood := { row := threadRunsRow, standIns := [], harness := (true, "8c7fe805ff001a25179832ed7744d6eb802ccdb35ae208df5a77c8ffe7a9689f"), looks := true }, kinds := [], alts := [], laidByText := true, laidKinds := [.data, .data, .data], laidTests := true, laidLooks := .later }
def ThreadRunsCardSaid : Prop := Claim7.holds Tryz.pinned (.plain (OpenSpec.ofChange threadRunsSpec)) threadRunsCard

/-- THE TIED CARD OF 'trothlaw08.ThreadModes'. -/
def threadModesCard : Claim7 := { stood := { row := threadModesRow, standIns := [], harness := (true, "8c7fe805ff001a25179832ed7744d6eb802ccdb35ae208df5a77c8ffe7a9689f"), looks := true }, kinds := [], alts := [], laidByText := true, laidKinds := [.data, .data, .data], laidTests := true, laidLooks := .later }
def ThreadModesCardSaid : Prop := Claim7.holds Tryz.pinned (.plain (OpenSpec.ofChange threadModesSpec)) threadModesCard

/-- THE TIED CARD OF 'trothlaw08.ThreadEnds'. -/
def threadEndsCard : Claim7 := { stood := { row := threadEndsRow, standIns := [], harness := (true, "8c7fe805ff001a25179832ed7744d6eb802ccdb35ae208df5a77c8ffe7a9689f"), looks := true }, kinds := [], alts := [], laidByText := true, laidKinds := [.data, .data, .data], laidTests := true, laidLooks := .later }
def ThreadEndsCardSaid : Prop := Claim7.holds Tryz.pinned (.plain (OpenSpec.ofChange threadEndsSpec)) threadEndsCard

/-- THE TIED CARD OF 'trothlaw14.ConfigBegins'. -/
def configBeginsCard : Claim7 := { stood := { row := configBeginsRow, standIns := [], harness := (true, "8c7fe805ff001a25179832ed7744d6eb802ccdb35ae208df5a77c8ffe7a9689f"), looks := true }, kinds := [], alts := [], laidByText := true, laidKinds := [.data, .data, .data, .data, .data, .data], laidTests := true, laidLooks := .later }
def ConfigBeginsCardSaid : Prop := Claim7.holds Tryz.pinned (.plain (OpenSpec.ofChange configBeginsSpec)) configBeginsCard

/-- THE SECOND FORM's CARD OF 'trothlaw08.ThreadRuns'. -/
def threadRunsUptoCard : Claim7 := { stood := { row := threadRunsUptoRow, standIns := [], harness := (true, "8c7fe805ff001a25179832ed7744d6eb802ccdb35ae208df5a77c8ffe7a9689f"), looks := true }, kinds := [], alts := [], laidByText := true, laidKinds := [.data, .data, .data], laidTests := true, laidLooks := .later }
def ThreadRunsUptoCardSaid : Prop := Claim7.holds Tryz.pinned (.plain (OpenSpec.upto threadRunsSpec)) threadRunsUptoCard

/-- THE SECOND FORM's CARD OF 'trothlaw08.ThreadModes'. -/
def threadModesUptoCard : Claim7 := { stood := { row := threadModesUptoRow, standIns := [], harness := (true, "8c7fe805ff001a25179832ed7744d6eb802ccdb35ae208df5a77c8ffe7a9689f"), looks := true }, kinds := [], alts := [], laidByText := true, laidKinds := [.data, .data, .data], laidTests := true, laidLooks := .later }
def ThreadModesUptoCardSaid : Prop := Claim7.holds Tryz.pinned (.plain (OpenSpec.upto threadModesSpec)) threadModesUptoCard

/-- THE SECOND FORM's CARD OF 'trothlaw08.ThreadEnds'. -/
def threadEndsUptoCard : Claim7 := { stood := { row := threadEndsUptoRow, standIns := [], harness := (true, "8c7fe805ff001a25179832ed7744d6eb802ccdb35ae208df5a77c8ffe7a9689f"), looks := true }, kinds := [], alts := [], laidByText := true, laidKinds := [.data, .data, .data], laidTests := true, laidLooks := .later }
def ThreadEndsUptoCardSaid : Prop := Claim7.holds Tryz.pinned (.plain (OpenSpec.upto threadEndsSpec)) threadEndsUptoCard

/-- THE SECOND FORM's CARD OF 'trothlaw14.ConfigBegins'. -/
def configBeginsUptoCard : Claim7 := { stood := { row := configBeginsUptoRow, standIns := [], harness := (true, "8c7fe805ff001a25179832ed7744d6eb802ccdb35ae208df5a77c8ffe7a9689f"), looks := true }, kinds := [], alts := [], laidByText := true, laidKinds := [.data, .data, .data, .data, .data, .data], laidTests := true, laidLooks := .later }
def ConfigBeginsUptoCardSaid : Prop := Claim7.holds Tryz.pinned (.plain (OpenSpec.upto configBeginsSpec)) configBeginsUptoCard
end Rows
end Go.Proofs.YtagebkachdmnbaaGreatDoor
