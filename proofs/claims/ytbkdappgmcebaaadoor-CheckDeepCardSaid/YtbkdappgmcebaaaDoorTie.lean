/-
  DERIVED. GIVEN WITH THE SEED: THE PROGRAM's TIES (one call each: nine closed facts by the kernel) AND EACH ROW's TIE, after the 31st guide's Derived/Test/Toyas{Tie, Card}.lean. No idea stands in it: it is a product of the set-up. Laid BY PROGRAM, IN A SANDBOX (cutbox-door.mjs). By AI agents, Wed Nov 11 2026. No macro, syntax, notation, axiom, sorry.
-/
import Derived.Test.YtbkdappgmcebaaaDoorRows
import Derived.LaidByTextLater
import Derived.SevenTiedAt
import Derived.LaidSub
import Derived.LaidOnce
namespace Go.Proofs.YtbkdappgmcebaaaDoor
open Go
set_option maxRecDepth 100000
theorem seatTie1 : Tryd.prog.laidByTextLater [("troth/num.texts", Rows.laid_troth_num_texts), ("troth/prog.modeTexts", Rows.laid_troth_prog_modeTexts), ("troth/check.kinds", Rows.laid_troth_check_kinds)] [.data, .data, .data] true :=
  Program.laidByTextLater_by_one 33 8 71 (by kernel_rfl) (by kernel_rfl) (by kernel_rfl) (by kernel_rfl) (by kernel_rfl) (by kernel_rfl) (fun _ _ => by kernel_rfl)
theorem noOwnUnsafe : Tryd.pinned.checked.prog.headLifts.contains "ownunsafe" = false := by kernel_rfl
theorem tie : Tryd.prog.laidByTextLater [("troth/num.texts", Rows.laid_troth_num_texts), ("troth/prog.modeTexts", Rows.laid_troth_prog_modeTexts), ("troth/check.kinds", Rows.laid_troth_check_kinds)] [.data, .data, .data] true :=
  Program.laidByTextLater.sub seatTie1 ["troth/num.texts", "troth/prog.modeTexts", "troth/check.kinds"] (by kernel_rfl) (by kernel_rfl)
theorem checkDeep_row_tie : Rows.checkDeepRow.laidByTextAt .later Tryd.pinned [.data, .data, .data] true :=
  OpenClaim.laidByTextAt_later rfl rfl tie noOwnUnsafe
theorem checkDeepUpto_row_tie : Rows.checkDeepUptoRow.laidByTextAt .later Tryd.pinned [.data, .data, .data] true :=
  OpenClaim.laidByTextAt_later rfl rfl tie noOwnUnsafe
end Go.Proofs.YtbkdappgmcebaaaDoor
