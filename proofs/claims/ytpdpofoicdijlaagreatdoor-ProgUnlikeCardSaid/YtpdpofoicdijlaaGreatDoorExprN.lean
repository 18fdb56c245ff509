/- Layer 3 (expr): the expressions that are known. -/
import Derived.Test.YtpdpofoicdijlaaGreatDoorExprM
namespace Go.Proofs.YtpdpofoicdijlaaGreatDoor.Expr
open Go.RowKit Go.Proofs.YtpdpofoicdijlaaGreatDoor.Mem Go.Lib

def wakeAll : Ex := .two 9 (.two 5 (.num 1) (.reg 0)) (.num 2)
def wakeSum : Ex := .two 5 (.num 1) (.reg 0)
def at_ (g : Nat) : Value := .pointer (some ⟨g, 0, none⟩)
def box (a : It) (l r : Value) : Obj := .cells (exprCells a l r) 58
def wakeW (w : World) : World :=
  ((((w.alloc (box ⟨0, 0, 1, 0, 0, 0⟩ (.pointer none) (.pointer none))).alloc (box ⟨1, 0, 0, 0, 0, 0⟩ (.pointer none) (.pointer none))).alloc (box ⟨5, 5, 0, 0, 0, 0⟩ (at_ w.heap.size) (at_ (w.heap.size + 1)))).alloc
    (box ⟨0, 0, 2, 0, 0, 0⟩ (.pointer none) (.pointer none))).alloc (box ⟨5, 9, 0, 0, 0, 0⟩ (at_ (w.heap.size + 2)) (at_ (w.heap.size + 3)))
theorem sits_box (w : World) (g : Nat) (hg : g = w.heap.size) (a : It) (l r : Value) : Sits (w.alloc (box a l r)) g 58 (exprCells a l r) := Sits.made hg _ _
theorem wake_low (w : World) : Below w.heap.size w (wakeW w) :=
  (((((Below.refl _ w).alloc (Nat.le_refl _) _).alloc (by simp) _).alloc (by simp; omega) _).alloc (by simp; omega) _).alloc (by simp; omega) _
theorem wake_size (w : World) : (wakeW w).heap.size = w.heap.size + 5 := by simp [wakeW]
theorem wake_sum (w : World) : Tree (wakeW w) (treeOf wakeSum) (at_ (w.heap.size + 2)) :=
  ⟨_, _, _, rfl, (((sits_box _ (w.heap.size + 2) (by simp) _ _ _).alloc _).alloc _),
    ⟨_, _, _, rfl, (((((sits_box _ w.heap.size (by simp) _ _ _).alloc _).alloc _).alloc _).alloc _), rfl, rfl⟩,
    ⟨_, _, _, rfl, ((((sits_box _ (w.heap.size + 1) (by simp) _ _ _).alloc _).alloc _).alloc _), rfl, rfl⟩⟩
theorem wake_all (w : World) : Tree (wakeW w) (treeOf wakeAll) (at_ (w.heap.size + 4)) :=
  ⟨_, _, _, rfl, sits_box _ (w.heap.size + 4) (by simp) _ _ _, wake_sum w, ⟨_, _, _, rfl, ((sits_box _ (w.heap.size + 3) (by simp) _ _ _).alloc _), rfl, rfl⟩⟩
theorem wake_text : str wakeAll.text = ⟨#[40, 49, 32, 43, 32, 114, 48, 41, 32, 42, 32, 50]⟩ := by kernel_rfl
def wakeLf : Unit → Ex → Int × Unit := fun _ _ => (20, ())
theorem wake_value : (wakeAll.value wakeLf ()).1 = 42 := by kernel_rfl
theorem wake_ok : wakeAll.ok := ⟨by decide, by decide, ⟨by decide, by decide, by show 1 < 18446744073709551616; decide, by show 0 < 8; decide⟩, by show 2 < 18446744073709551616; decide⟩
end Go.Proofs.YtpdpofoicdijlaaGreatDoor.Expr
