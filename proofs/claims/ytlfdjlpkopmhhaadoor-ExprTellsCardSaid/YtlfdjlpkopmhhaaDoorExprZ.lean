/- Layer 3 (expr): the row of leaves that ExprTells makes. -/
import Derived.Test.YtlfdjlpkopmhhaaDoorExprY
namespace Go.Proofs.YtlfdjlpkopmhhaaDoor.Expr
open Go.RowKit Go.Proofs.YtlfdjlpkopmhhaaDoor.Mem Go.Lib

/-! ### The leaves of a row, plain -/
theorem Sp.leafs {l : List It} {k m : Nat} {e : Ex} (h : Sp l k e m) : ∀ j a, k ≤ j → j < m → l[j]? = some a → a.kind < 4 → leafOk a = true := by
  induction h with
  | @num k b h hk =>
    intro j a h1 h2 ha h4
    obtain rfl : j = k := by omega
    rw [h] at ha; cases ha
    unfold leafOk; rw [if_pos hk]
  | @reg k b h hk hi =>
    intro j a h1 h2 ha h4
    obtain rfl : j = k := by omega
    rw [h] at ha; cases ha
    unfold leafOk; rw [if_neg (by omega), if_pos hk]; exact decide_eq_true hi
  | @of k b h hk ht hi =>
    intro j a h1 h2 ha h4
    obtain rfl : j = k := by omega
    rw [h] at ha; cases ha
    unfold leafOk; rw [if_neg (by omega), if_neg (by omega), if_pos hk]; simp [ht, hi]
  | @loc k b h hk h3 h5 h6 =>
    intro j a h1 h2 ha h4
    obtain rfl : j = k := by omega
    rw [h] at ha; cases ha
    unfold leafOk; rw [if_neg (by omega), if_neg (by omega), if_neg (by omega), if_pos hk]; simp [h3, h5, h6]
  | @one k b e m h hk ho hs ih =>
    intro j a h1 h2 ha h4
    by_cases hj : j = k
    · subst hj; rw [h] at ha; cases ha; omega
    · exact ih j a (by omega) h2 ha h4
  | @two k b e f m n h hk _ _ hs1 hs2 ih1 ih2 =>
    intro j a h1 h2 ha h4
    have := hs1.le
    have := hs2.le
    by_cases hj : j = k
    · subst hj; rw [h] at ha; cases ha; omega
    · by_cases hm : j < m
      · exact ih1 j a (by omega) hm ha h4
      · exact ih2 j a (by omega) h2 ha h4
/-- The items of lesser kinds among the first m. -/
def its (l : List It) (m : Nat) : List It := (l.take m).filter fun a => decide (a.kind < 4)
theorem its_zero (l : List It) : its l 0 = [] := rfl
theorem its_in {l : List It} {i : Nat} {a : It} (h : l[i]? = some a) (hk : a.kind < 4) : its l (i + 1) = its l i ++ [a] := by
  unfold its
  rw [List.take_add_one, h, List.filter_append]
  simp [hk]
theorem its_out {l : List It} {i : Nat} {a : It} (h : l[i]? = some a) (hk : ¬ a.kind < 4) : its l (i + 1) = its l i := by
  unfold its
  rw [List.take_add_one, h, List.filter_append]
  simp [hk]
theorem its_len (l : List It) (m : Nat) : (its l m).length ≤ m := by
  unfold its
  exact Nat.le_trans (List.length_filter_le _ _) (by rw [List.length_take]; omega)
theorem its_map {l : List It} {m : Nat} {e : Ex} (h : Sp l 0 e m) : (its l m).map leafE = e.leaves := by
  have := h.leaves
  rwa [List.drop_zero] at this
theorem its_ok {l : List It} {m : Nat} {e : Ex} (h : Sp l 0 e m) {j : Nat} {a : It} (ha : (its l m)[j]? = some a) : leafOk a = true := by
  have hm := List.mem_of_getElem? ha
  unfold its at hm
  rw [List.mem_filter] at hm
  obtain ⟨h1, h2⟩ := hm
  obtain ⟨i, hi⟩ := List.mem_iff_getElem?.1 h1
  have hlt := (List.getElem?_eq_some_iff.1 hi).1
  rw [List.length_take] at hlt
  rw [List.getElem?_take] at hi
  split at hi
  · exact h.leafs i a (Nat.zero_le _) (by omega) hi (of_decide_eq_true h2)
  · cases hi

/-! ### The row in memory -/
def itCells (a : It) : List Value := [.int .u8 a.kind, .int .u8 a.op, .int .u64 a.n, .int .u8 a.t, .int .u8 a.i, .int .u8 a.x]
def itemCells (l : List It) : List Value := l.flatMap itCells
theorem itemCells_snoc (l : List It) (a : It) : itemCells (l ++ [a]) = itemCells l ++ itCells a := by simp [itemCells]
theorem itemCells_len (l : List It) : (itemCells l).length = l.length * 6 := by
  induction l with
  | nil => rfl
  | cons a l ih => simp only [itemCells, List.flatMap_cons, List.length_append, List.length_cons] at ih ⊢; rw [ih]; simp [itCells]; omega
theorem itemCells_at : ∀ (l : List It) (i j : Nat) (a : It), l[i]? = some a → j < 6 → (itemCells l)[i * 6 + j]? = (itCells a)[j]? := by
  intro l
  induction l with
  | nil => intro i j a h; simp at h
  | cons b l ih =>
    intro i j a h hj
    unfold itemCells
    rw [List.flatMap_cons]
    cases i with
    | zero =>
      have : b = a := by simpa using h
      subst this
      rw [List.getElem?_append_left (by simp [itCells]; omega)]
      congr 1; omega
    | succ i =>
      rw [List.getElem?_append_right (by simp [itCells]; omega)]
      have := ih i j a (by simpa using h) hj
      unfold itemCells at this
      rw [← this]
      congr 1
      simp [itCells]; omega
theorem row_of_own {w : World} {B : Nat} {v : Value} {l : List It} (hl : l.length ≤ 1000000) (h : w.ownsRow B 50 6 v l.length (itemCells l)) : Row w v l := by
  have h' := h
  rcases h.2 with ⟨rfl, h0⟩ | ⟨g, cap, cur, rfl, hb, hh, hc, hm, hcs, ht⟩
  · exact .inl ⟨List.length_eq_zero_iff.1 h0, _, _, rfl⟩
  · refine .inr ⟨g, 0, cap, rfl, hl, fun i a ha => ?_⟩
    have hcell : ∀ j u, j < 6 → (itCells a)[j]? = some u → w.cell? ⟨g, 0 + i * 6 + j, none⟩ = some u := fun j u hj hu => by
      have := h'.cells (g := g) rfl (i * 6 + j) u (by rw [itemCells_at l i j a ha hj]; exact hu)
      rw [Addr.add_lit] at this
      rw [← this]; congr 2; omega
    exact ⟨hcell 0 _ (by decide) rfl, hcell 1 _ (by decide) rfl, hcell 2 _ (by decide) rfl, hcell 3 _ (by decide) rfl, hcell 4 _ (by decide) rfl, hcell 5 _ (by decide) rfl⟩
end Go.Proofs.YtlfdjlpkopmhhaaDoor.Expr
