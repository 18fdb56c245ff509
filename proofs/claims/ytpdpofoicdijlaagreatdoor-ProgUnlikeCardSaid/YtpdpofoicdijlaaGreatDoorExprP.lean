/- Layer 3 (expr): what the rows list, and a world for their witnesses. -/
import Derived.Test.YtpdpofoicdijlaaGreatDoorCard
import Derived.Test.YtpdpofoicdijlaaGreatDoorExprA
namespace Go.Proofs.YtpdpofoicdijlaaGreatDoor.Expr
open Go.RowKit Go.ChangeShapes Go.WideShapes Go.ChangeAt Go.Proofs.YtpdpofoicdijlaaGreatDoor.Card

theorem own : ownKnob Tryz.prog.godebug = none := by kernel_rfl
theorem gTexts : Tryz.prog.globalNamed "troth/num.texts" = some 2 := by kernel_rfl
theorem gTextsType : (Tryz.prog.globals[2]?).map (·.type) = some 222 := by kernel_rfl
theorem gPow : Tryz.prog.globalNamed "internal/strconv.uint64pow10" = some 1 := by kernel_rfl
theorem gPowType : (Tryz.prog.globals[1]?).map (·.type) = some 219 := by kernel_rfl
/-- What the three rows list. -/
def listed : List (String × DataW Unit) := [("math/bits.deBruijn32tab", Rows.laid_math_bits_deBruijn32tab), ("math/bits.deBruijn64tab", Rows.laid_math_bits_deBruijn64tab), ("internal/strconv.uint64pow10", Rows.laid_internal_strconv_uint64pow10), ("troth/num.texts", Rows.laid_troth_num_texts)]
theorem textsAt_of {w : World} (h : Num.StrIs Tryz.prog w "troth/num.texts" Num.texts) : Num.TextsAt w := by
  have hc := fun (i : Nat) (hi : i < 15) => h.cell gTexts i (by simpa [Num.texts] using hi)
  refine ⟨?_, hc⟩
  have h0 := hc 0 (by omega)
  apply Nat.lt_of_not_le
  intro hle
  have hn : w.heap[2]? = none := Array.getElem?_eq_none hle
  simp [World.cell?, hn] at h0
theorem tabs_of {W : World} (h : laidMetH Tryz.prog listed W) : Tabs W := by
  have h' : laidMet Tryz.prog listed W := h
  refine ⟨textsAt_of (strs_of_reads gTexts gTextsType Tryz.underlying222 Tryz.underlying9 (by kernel_rfl) (by kernel_rfl) (Lib.laidMet.reads h' ?_)), tab_of_reads gPow gPowType Tryz.underlying219 Tryz.underlying52 (by kernel_rfl) (by kernel_rfl) (Lib.laidMet.reads h' ?_)⟩
  · exact .tail _ (.tail _ (.tail _ (.head _)))
  · exact .tail _ (.tail _ (.head _))

/-- A world for the witness: the settled one, with the tables as their initialisers lay them. -/
noncomputable def laidWorld (os : Os) : World :=
  { World.holding Tryz.prog os ⟨#[], #[], []⟩ with heap := ((((World.holding Tryz.prog os ⟨#[], #[], []⟩).heap.modify 2 (layOne Rows.laid_troth_num_texts)).modify 1 (layOne Rows.laid_internal_strconv_uint64pow10)).modify
      4 (layOne Rows.laid_math_bits_deBruijn32tab)).modify 5 (layOne Rows.laid_math_bits_deBruijn64tab) }
end Go.Proofs.YtpdpofoicdijlaaGreatDoor.Expr
