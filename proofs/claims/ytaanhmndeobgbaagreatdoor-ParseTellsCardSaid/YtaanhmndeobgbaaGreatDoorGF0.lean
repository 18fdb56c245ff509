/- Part 51 of the proof: what is used of the texts PtlZA. -/
import Derived.Test.YtaanhmndeobgbaaGreatDoorGA8
set_option maxHeartbeats 4000000
namespace Go.Proofs.YtaanhmndeobgbaaGreatDoor.ParseTells
open Go.RowKit Go.ChangeShapes Go.WideShapes Go.ChangeAt Card
theorem XN {a b:Bool} (ha:a=true) (hb:b=true):(a && b)=true:=by rw [ha,hb];rfl
/-- The closed facts of the row, each by itself. -/
theorem F7:joinedFacts Tryz.pinned.checked.prog 3 Tryz.f3 (OpenSpec.ofChange Rows.parseTellsSpec).bare Rows.parseTellsRow=true:=by
 unfold joinedFacts
 repeat' (with_reducible refine XN ?_ ?_)
 all_goals as_aux_lemma=>kernel_rfl
theorem IV : Tryz.pinned.checked.prog.funcNamed "troth/trothlaw05.ParseTells" = some 3 := by kernel_rfl
theorem LG:Tryz.f3.isInstance Tryz.pinned.checked.prog Rows.parseTellsRow.origin Rows.parseTellsRow.targs:=of_decide_eq_true (by kernel_rfl)
theorem LH:Tryz.f3.isWrapper Tryz.pinned.checked.prog Rows.parseTellsRow.wrapper Rows.parseTellsRow.mainSum:=by unfold Func.isWrapper;first | (rw [if_pos (by decide +kernel)];kernel_rfl) | (rw [if_neg (by decide +kernel)];exact ⟨rfl,rfl⟩)
end Go.Proofs.YtaanhmndeobgbaaGreatDoor.ParseTells
