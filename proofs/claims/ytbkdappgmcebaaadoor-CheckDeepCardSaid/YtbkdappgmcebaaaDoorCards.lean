/-
  DERIVED. GIVEN WITH THE SEED: THE CARDS: each row of YtbkdappgmcebaaaDoorRows.lean that lists a variable, with what it lists TIED to the program's text (the seventh form; the later family's looks); each row that meets fmt, with fmt's text TOLD by the authors' own Lean function (tested against real Go, not proved from fmt's source: count such statements apart). THE CARD IS WHAT COUNTS. Prove the row's statement (the work); the ties are given (YtbkdappgmcebaaaDoorTie.lean); close each card by the builder's one call (the guide's Derived/Test/ToyasCard.lean, 'card_holds'). Laid BY PROGRAM, IN A SANDBOX (cutbox-door.mjs). By AI agents, Wed Nov 11 2026. No macro, syntax, notation, axiom, sorry.
-/
import Derived.Test.YtbkdappgmcebaaaDoorRows
import GoSem.ClaimSeven
namespace Go.Proofs.YtbkdappgmcebaaaDoor
namespace Rows

/-- THE TIED CARD OF 'trothlaw06.CheckDeep'. -/
def checkDeepCard : Claim7 := { stood := { row := checkDeepRow, standIns := [], harness := (true, "fe956ff7e9644a88679511112fd310eb73b88f17ff739a266cb0635331975ab3"), looks := true }, kinds := [], alts := [], laidByText := true, laidKinds := [.data, .data, .data], laidTests := true, laidLooks := .later }
def CheckDeepCardSaid : Prop := Claim7.holds Tryd.pinned (.plain (OpenSpec.ofChange checkDeepSpec)) checkDeepCard

/-- THE SECOND FORM's CARD OF 'trothlaw06.CheckDeep'. -/
def checkDeepUptoCard : Claim7 := { stood := { row := checkDeepUptoRow, standIns := [], harness := (true, "fe956ff7e9644a88679511112fd310eb73b88f17ff739a266cb0635331975ab3"), looks := true }, kinds := [], alts := [], laidByText := true, laidKinds := [.data, .data, .data], laidTests := true, laidLooks := .later }
def CheckDeepUptoCardSaid : Prop := Claim7.holds Tryd.pinned (.plain (OpenSpec.upto checkDeepSpec)) checkDeepUptoCard
end Rows
end Go.Proofs.YtbkdappgmcebaaaDoor
