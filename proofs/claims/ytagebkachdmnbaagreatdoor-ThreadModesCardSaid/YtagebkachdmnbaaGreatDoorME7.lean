/- Part 48 of the proof: what is used of the texts ThrO. -/
import Derived.Test.YtagebkachdmnbaaGreatDoorMD3
section
namespace Go.Proofs.YtagebkachdmnbaaGreatDoor.ThreadModes
open Go.RowKit Go.ChangeShapes Go.WideShapes Go.ChangeAt Go.Proofs.YtagebkachdmnbaaGreatDoor.Card
theorem and_t {a b:Bool} (ha:a=true) (hb:b=true):(a && b)=true:=by rw [ha,hb];rfl
set_option maxHeartbeats 4000000 in
/-- The closed facts of the row, each by itself. -/
theorem said_joined:joinedFacts Tryz.pinned.checked.prog 4 Tryz.f4 (OpenSpec.ofChange Rows.threadModesSpec).bare Rows.threadModesRow=true:=by
  unfold joinedFacts
  repeat' (with_reducible refine and_t ?_ ?_)
  all_goals as_aux_lemma=>kernel_rfl
theorem said_named : Tryz.pinned.checked.prog.funcNamed "troth/trothlaw08.ThreadModes" = some 4 := by kernel_rfl
theorem said_inst:Tryz.f4.isInstance Tryz.pinned.checked.prog Rows.threadModesRow.origin Rows.threadModesRow.targs:=of_decide_eq_true (by kernel_rfl)
theorem said_wrap:Tryz.f4.isWrapper Tryz.pinned.checked.prog Rows.threadModesRow.wrapper Rows.threadModesRow.mainSum:=by unfold Func.isWrapper;first | (rw [if_pos (by decide +kernel)];kernel_rfl) | (rw [if_neg (by decide +kernel)];exact ⟨rfl,rfl⟩)
end Go.Proofs.YtagebkachdmnbaaGreatDoor.ThreadModes
end
