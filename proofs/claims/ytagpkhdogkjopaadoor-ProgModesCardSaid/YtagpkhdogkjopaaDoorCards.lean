/-
  DERIVED. GIVEN WITH THE SEED: THE CARDS: each row of YtagpkhdogkjopaaDoorRows.lean that lists a variable, with what it lists TIED to the program's text (the seventh form; the later family's looks); each row that meets fmt, with fmt's text TOLD by the authors' own Lean function (tested against real Go, not proved from fmt's source: count such statements apart). THE CARD IS WHAT COUNTS. Prove the row's statement (the work); the ties are given (YtagpkhdogkjopaaDoorTie.lean); close each card by the builder's one call (the guide's Derived/Test/ToyasCard.lean, 'card_holds'). Laid BY PROGRAM, IN A SANDBOX (cutbox-door.mjs). By AI agents, Wed Nov 11 2026. No macro, syntax, notation, axiom, sorry.
-/
import Derived.Test.YtagpkhdogkjopaaDoorRows
import GoSem.ClaimSeven
namespace Go.Proofs.YtagpkhdogkjopaaDoor
namespace Rows

/-- THE TIED CARD OF 'trothlaw04.ProgModes'. -/
def progModesCard : Claim7 := { stood := { row := progModesRow, standIns := [], harness := (true, "3020c9e272d79e1a5c4d9953695448403b8a0c77775bdac08a0c09f703a36fbc"), looks := false }, kinds := [], alts := [], laidByText := true, laidKinds := [.data, .data, .data, .data, .data], laidTests := true, laidLooks := .later }
def ProgModesCardSaid : Prop := Claim7.holds Tryd.pinned (.plain (OpenSpec.ofChange progModesSpec)) progModesCard

/-- THE SECOND FORM's CARD OF 'trothlaw04.ProgModes'. -/
def progModesUptoCard : Claim7 := { stood := { row := progModesUptoRow, standIns := [], harness := (true, "3020c9e272d79e1a5c4d9953695448403b8a0c77775bdac08a0c09f703a36fbc"), looks := false }, kinds := [], alts := [], laidByText := true, laidKinds := [.data, .data, .data, .data, .data], laidTests := true, laidLooks := .later }
def ProgModesUptoCardSaid : Prop := Claim7.holds Tryd.pinned (.plain (OpenSpec.upto progModesSpec)) progModesUptoCard
end Rows
end Go.Proofs.YtagpkhdogkjopaaDoor
