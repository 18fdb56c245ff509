/- Layer 11 (memory): the document's Last, Owned. -/
import Derived.Test.YtgkgpehjedmejaaMmrYB
namespace Go.Proofs.Ytgkgpehjedmejaa.Mmr
open Go.RowKit Go.Proofs.Ytgkgpehjedmejaa.Mem Go.Proofs.Ytgkgpehjedmejaa.Flow

theorem rev_find_hit {φ : It → Bool} {l : List It} {k : Nat} {x : It} (hx : l[k]? = some x) (h : φ x = true) (hb : ∀ j y, k < j → l[j]? = some y → φ y = false) : l.reverse.find? φ = some x := by
  have hk := (List.getElem?_eq_some_iff.1 hx).1
  refine find_hitD (k := l.length - 1 - k) ?_ h fun j y hj hy => ?_
  · rw [List.getElem?_reverse (by omega), show l.length - 1 - (l.length - 1 - k) = k by omega]; exact hx
  · rw [List.getElem?_reverse (by omega)] at hy
    exact hb _ y (by omega) hy
theorem rev_find_off {φ : It → Bool} {l : List It} (hb : ∀ (j : Nat) y, l[j]? = some y → φ y = false) : l.reverse.find? φ = none :=
  List.find?_eq_none.2 fun x hx => by
    obtain ⟨j, hj⟩ := List.mem_iff_getElem?.1 (List.mem_reverse.1 hx)
    rw [hb j x hj]; simp
theorem dlist_len (m : Dm) (loc : Int) : (dList m loc).length ≤ m.l.length := by rw [← outF_all]; exact outF_len m loc _
/-! ### What is an owner's -/
def ofL (owner : Int) (l : List It) : List It := l.filter fun y => decide (y.owner = owner)
def upO (m : Dm) (owner : Int) (j : Nat) : List It := ofL owner ((List.range j).flatMap fun (i : Nat) => dList m (i : Int))
theorem upO_all (m : Dm) (owner : Int) : upO m owner m.n = dOwned m owner := rfl
theorem upO_succ (m : Dm) (owner : Int) (j : Nat) : upO m owner (j + 1) = upO m owner j ++ ofL owner (dList m (j : Int)) := by
  unfold upO ofL
  rw [List.range_succ, List.flatMap_append, List.filter_append]
  simp
theorem ofL_yes {owner : Int} {l : List It} {k : Nat} {x : It} (h : l[k]? = some x) (hx : x.owner = owner) : ofL owner (l.take (k + 1)) = ofL owner (l.take k) ++ [x] := by
  unfold ofL
  rw [List.take_add_one, h, Option.toList_some, List.filter_append]
  congr 1
  simp [hx]
theorem ofL_no {owner : Int} {l : List It} {k : Nat} {x : It} (h : l[k]? = some x) (hx : x.owner ≠ owner) : ofL owner (l.take (k + 1)) = ofL owner (l.take k) := by
  unfold ofL
  rw [List.take_add_one, h, Option.toList_some, List.filter_append]
  simp [hx]
theorem ofL_len (owner : Int) (l : List It) : (ofL owner l).length ≤ l.length := List.length_filter_le _ _
theorem upO_len (m : Dm) (owner : Int) (j : Nat) : (upO m owner j).length ≤ j * m.l.length := by
  induction j with
  | zero => simp [upO, ofL]
  | succ j ih =>
    rw [upO_succ, List.length_append, Nat.add_mul]
    have := ofL_len owner (dList m (j : Int))
    have := dlist_len m (j : Int)
    omega
end Go.Proofs.Ytgkgpehjedmejaa.Mmr
