/- Part 43 of the proof: what is used of the texts ExprP. -/
import Derived.Test.YtbkdappgmcebaaaGreatDoorKD5
import Derived.Test.YtbkdappgmcebaaaGreatDoorKA4
section
namespace Go.Proofs.YtbkdappgmcebaaaGreatDoor.Expr
open Go.RowKit Go.ChangeShapes Go.WideShapes Go.ChangeAt Go.Proofs.YtbkdappgmcebaaaGreatDoor.Card
theorem own:ownKnob Tryz.prog.godebug=none:=by kernel_rfl
theorem gTexts : Tryz.prog.globalNamed "troth/num.texts" = some 3 := by kernel_rfl
theorem gTextsType:(Tryz.prog.globals[3]?).map (·.type)=some 259:=by kernel_rfl
theorem gPow : Tryz.prog.globalNamed "internal/strconv.uint64pow10" = some 2 := by kernel_rfl
theorem gPowType:(Tryz.prog.globals[2]?).map (·.type)=some 256:=by kernel_rfl
theorem textsAt_of {w : World} (h : Num.StrIs Tryz.prog w "troth/num.texts" Num.texts) : Num.TextsAt w := by
  have hc:=fun (i:Nat) (hi:i<15)=>h.cell gTexts i (by simpa [Num.texts] using hi)
  refine ⟨?_,hc⟩
  have h0:=hc 0 (by omega)
  apply Nat.lt_of_not_le
  intro hle
  have hn:w.heap[3]? = none:=Array.getElem?_eq_none hle
  simp [World.cell?,hn] at h0
end Go.Proofs.YtbkdappgmcebaaaGreatDoor.Expr
end
