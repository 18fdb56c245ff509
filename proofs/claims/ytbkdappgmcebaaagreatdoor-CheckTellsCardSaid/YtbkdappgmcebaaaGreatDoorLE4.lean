/- Part 45 of the proof: what is used of the texts TelU. -/
import Derived.Test.YtbkdappgmcebaaaGreatDoorLD1
section
namespace Go.Proofs.YtbkdappgmcebaaaGreatDoor.CheckTells
open Go.RowKit Go.ChangeShapes Go.WideShapes Go.ChangeAt Go.Proofs.YtbkdappgmcebaaaGreatDoor.Card
theorem and_t {a b:Bool} (ha:a=true) (hb:b=true):(a && b)=true:=by rw [ha,hb];rfl
set_option maxHeartbeats 4000000 in
/-- The closed facts of the row, each by itself. -/
theorem said_joined:joinedFacts Tryz.pinned.checked.prog 4 Tryz.f4 (OpenSpec.ofChange Rows.checkTellsSpec).bare Rows.checkTellsRow=true:=by
  unfold joinedFacts
  repeat' (with_reducible refine and_t ?_ ?_)
  all_goals as_aux_lemma=>kernel_rfl
theorem said_named : Tryz.pinned.checked.prog.funcNamed "troth/trothlaw06.CheckTells" = some 4 := by kernel_rfl
theorem said_inst:Tryz.f4.isInstance Tryz.pinned.checked.prog Rows.checkTellsRow.origin Rows.checkTellsRow.targs:=of_decide_eq_true (by kernel_rfl)
theorem said_wrap:Tryz.f4.isWrapper Tryz.pinned.checked.prog Rows.checkTellsRow.wrapper Rows.checkTellsRow.mainSum:=by unfold Func.isWrapper;first | (rw [if_pos (by decide +kernel)];kernel_rfl) | (rw [if_neg (by decide +kernel)];exact ⟨rfl,rfl⟩)
end Go.Proofs.YtbkdappgmcebaaaGreatDoor.CheckTells
end
