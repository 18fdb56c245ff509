/- Part 48 of the proof: what is used of the texts ThrV. -/
import Derived.Test.YtagebkachdmnbaaGreatDoorEA5
section
namespace Go.Proofs.YtagebkachdmnbaaGreatDoor.ThreadEnds
open Go.RowKit Go.ChangeShapes Go.WideShapes Go.ChangeAt Go.Proofs.YtagebkachdmnbaaGreatDoor.Card
theorem and_t {a b:Bool} (ha:a=true) (hb:b=true):(a && b)=true:=by rw [ha,hb];rfl
set_option maxHeartbeats 4000000 in
/-- The closed facts of the row, each by itself. -/
theorem said_joined:joinedFacts Tryz.pinned.checked.prog 5 Tryz.f5 (OpenSpec.ofChange Rows.threadEndsSpec).bare Rows.threadEndsRow=true:=by
  unfold joinedFacts
  repeat' (with_reducible refine and_t ?_ ?_)
  all_goals as_aux_lemma=>kernel_rfl
theorem said_named : Tryz.pinned.checked.prog.funcNamed "troth/trothlaw08.ThreadEnds" = some 5 := by kernel_rfl
theorem said_inst:Tryz.f5.isInstance Tryz.pinned.checked.prog Rows.threadEndsRow.origin Rows.threadEndsRow.targs:=of_decide_eq_true (by kernel_rfl)
theorem said_wrap:Tryz.f5.isWrapper Tryz.pinned.checked.prog Rows.threadEndsRow.wrapper Rows.threadEndsRow.mainSum:=by unfold Func.isWrapper;first | (rw [if_pos (by decide +kernel)];kernel_rfl) | (rw [if_neg (by decide +kernel)];exact ⟨rfl,rfl⟩)
end Go.Proofs.YtagebkachdmnbaaGreatDoor.ThreadEnds
end
