/- Layer 11 (memory): items in memory, rows of them, memories; what append makes of a row that is full. -/
import Derived.Test.YtgkgpehjedmejaaMmrS
import Derived.Test.YtgkgpehjedmejaaVewC
import Derived.Test.YtgkgpehjedmejaaSpnC
import Derived.Test.YtgkgpehjedmejaaFlowG
import Derived.Deep.AppendLies
import Derived.Deep.AppendSrc
import Derived.Deep.Upon
namespace Go.Proofs.Ytgkgpehjedmejaa.Mmr
open Go.RowKit Go.Proofs.Ytgkgpehjedmejaa.Mem Go.Proofs.Ytgkgpehjedmejaa.Flow

/-- The word of a time. -/
def fw (a : Int) : Nat := floatOfInt .f64 a
abbrev itCells (x : It) : Array Value := #[.int .i64 x.loc, .complex .f64 (fw x.a) (fw x.b), .int .u64 x.n, .int .i64 (x.v 0), .int .i64 (x.v 1), .int .i64 (x.v 2), .int .i64 (x.v 3), .int .i64 (x.v 4), .int .i64 (x.v 5), .int .i64 (x.v 6), .int .i64 (x.v 7), .bool x.res, .int .i64 x.owner]
abbrev itV (x : It) : Value := .agg (itCells x)
abbrev memCells (p : Nat → Option Addr) (c : Nat → Nat) (m : Mm) : Array Value := #[.slice (p 0) (m.row 0).length (c 0), .slice (p 1) (m.row 1).length (c 1), .slice (p 2) (m.row 2).length (c 2), .slice (p 3) (m.row 3).length (c 3), .int .i64 (m.n : Nat)]
abbrev memV (p : Nat → Option Addr) (c : Nat → Nat) (m : Mm) : Value := .agg (memCells p c m)
/-- A row of items lies there. -/
def Its (w : World) (p : Option Addr) (l : List It) : Prop := ∀ k x, l[k]? = some x → ∃ g o, p = some ⟨g, o, none⟩ ∧ g < w.heap.size ∧ ∀ i, i < 13 → w.cell? ⟨g, o + k * 13 + i, none⟩ = (itCells x)[i]?
structure Hold (w : World) (p : Nat → Option Addr) (c : Nat → Nat) (m : Mm) : Prop where
  row : ∀ i, i < 4 → Its w (p i) (m.row i)
  cap : ∀ i, i < 4 → (m.row i).length ≤ c i
section
variable {w w' : World} {p q : Option Addr} {l l' : List It}
theorem Its.below (h : Its w p l) (hb : Below w.heap.size w w') : Its w' p l := fun k x hx => by
  obtain ⟨g, o, e, hg, hc⟩ := h k x hx
  exact ⟨g, o, e, Nat.lt_of_lt_of_le hg hb.size, fun i hi => (hb.cell (p := ⟨g, o + k * 13 + i, none⟩) hg).trans (hc i hi)⟩
theorem Its.nil (w : World) (p : Option Addr) : Its w p [] := fun k x h => by simp at h
theorem Hold.below {p : Nat → Option Addr} {c : Nat → Nat} {m : Mm} (h : Hold w p c m) (hb : Below w.heap.size w w') : Hold w' p c m := ⟨fun i hi => (h.row i hi).below hb, h.cap⟩
theorem Its.at (h : Its w p l) {k : Nat} {x : It} (hx : l[k]? = some x) : ∃ g o, p = some ⟨g, o, none⟩ ∧ g < w.heap.size ∧ ∀ i, i < 13 → w.cell? ⟨g, o + k * 13 + i, none⟩ = (itCells x)[i]? := h k x hx
end
/-! ### Cells behind an address -/
/-- These cells lie behind that address. -/
def Lay (w : World) (p : Option Addr) (xs : List Value) : Prop := ∀ j u, xs[j]? = some u → ∃ g o, p = some ⟨g, o, none⟩ ∧ g < w.heap.size ∧ w.cell? ⟨g, o + j, none⟩ = some u
theorem Lay.below {w w' : World} {p : Option Addr} {xs : List Value} (h : Lay w p xs) (hb : Below w.heap.size w w') : Lay w' p xs := fun j u hu => by
  obtain ⟨g, o, e, hg, hc⟩ := h j u hu
  exact ⟨g, o, e, Nat.lt_of_lt_of_le hg hb.size, (hb.cell (p := ⟨g, o + j, none⟩) hg).trans hc⟩
def cellsOf {α : Type} (f : α → List Value) (l : List α) : List Value := l.flatMap f
theorem cells_len {α : Type} {f : α → List Value} {sz : Nat} (hf : ∀ x, (f x).length = sz) (l : List α) : (cellsOf f l).length = l.length * sz := by
  unfold cellsOf
  induction l with
  | nil => simp
  | cons x l ih => rw [List.flatMap_cons, List.length_append, ih, hf, List.length_cons, Nat.add_mul]; omega
theorem cells_at {α : Type} {f : α → List Value} {sz : Nat} (hf : ∀ x, (f x).length = sz) : ∀ (l : List α) (k : Nat) (x : α) (i : Nat), l[k]? = some x → i < sz → (cellsOf f l)[k * sz + i]? = (f x)[i]?
  | [], k, x, i, h, _ => by simp at h
  | y :: l, 0, x, i, h, hi => by
    simp at h; subst h
    unfold cellsOf
    rw [List.flatMap_cons, Nat.zero_mul, Nat.zero_add, List.getElem?_append_left (by rw [hf]; exact hi)]
  | y :: l, k + 1, x, i, h, hi => by
    rw [List.getElem?_cons_succ] at h
    have := cells_at hf l k x i h hi
    unfold cellsOf at this ⊢
    rw [List.flatMap_cons, List.getElem?_append_right (by rw [hf, Nat.add_mul]; omega), hf, ← this]
    congr 1
    rw [Nat.add_mul]; omega
def itL (x : It) : List Value := (itCells x).toList
theorem itL_len (x : It) : (itL x).length = 13 := rfl
theorem cells_append {α : Type} (f : α → List Value) (l l' : List α) : cellsOf f (l ++ l') = cellsOf f l ++ cellsOf f l' := by unfold cellsOf; rw [List.flatMap_append]
/-- Which element a cell is of. -/
theorem cell_split {α : Type} {sz : Nat} (hsz : 0 < sz) (l : List α) {j : Nat} (hj : j < l.length * sz) : ∃ k i x, j = k * sz + i ∧ i < sz ∧ l[k]? = some x := by
  have hk : j / sz < l.length := (Nat.div_lt_iff_lt_mul hsz).2 hj
  exact ⟨j / sz, j % sz, l[j / sz], by rw [Nat.mul_comm]; exact (Nat.div_add_mod j sz).symm, Nat.mod_lt _ hsz, List.getElem?_eq_getElem hk⟩
theorem Its.lay {w : World} {p : Option Addr} {l : List It} (h : Its w p l) : Lay w p (cellsOf itL l) := fun j u hu => by
  have hj := (List.getElem?_eq_some_iff.1 hu).1
  rw [cells_len itL_len] at hj
  obtain ⟨k, i, x, rfl, hi, hx⟩ := cell_split (by decide) l hj
  obtain ⟨g, o, e, hg, hc⟩ := h k x hx
  refine ⟨g, o, e, hg, ?_⟩
  rw [← Nat.add_assoc, hc i hi, ← hu, cells_at itL_len l k x i hx hi]
  unfold itL; simp
theorem Lay.its {w : World} {p : Option Addr} {l : List It} (h : Lay w p (cellsOf itL l)) : Its w p l := fun k x hx => by
  have at_ : ∀ i, i < 13 → ∃ g o, p = some ⟨g, o, none⟩ ∧ g < w.heap.size ∧ w.cell? ⟨g, o + (k * 13 + i), none⟩ = (itCells x)[i]? := fun i hi => by
    have e := cells_at itL_len l k x i hx hi
    have hs : (itCells x)[i]? = some (itCells x)[i] := Array.getElem?_eq_getElem hi
    obtain ⟨g, o, h1, h2, h3⟩ := h (k * 13 + i) (itCells x)[i] (by rw [e, ← hs]; unfold itL; simp)
    exact ⟨g, o, h1, h2, h3.trans hs.symm⟩
  obtain ⟨g, o, e, hg, _⟩ := at_ 0 (by decide)
  refine ⟨g, o, e, hg, fun i hi => ?_⟩
  obtain ⟨g', o', e', _, hc⟩ := at_ i hi
  rw [e] at e'
  injection e' with e'
  injection e' with e1 e2
  subst e1 e2
  rw [Nat.add_assoc]; exact hc
/-- The last of a row, from a place on. -/
theorem Its.from {w : World} {g o : Nat} {l : List It} (h : Its w (some ⟨g, o, none⟩) l) (i : Nat) : Its w (some ⟨g, o + i * 13, none⟩) (l.drop i) := fun k x hx => by
  rw [List.getElem?_drop] at hx
  obtain ⟨g', o', e, hg, hc⟩ := h (i + k) x hx
  injection e with e
  injection e with e1 e2
  subst e1 e2
  refine ⟨g, o + i * 13, rfl, hg, fun j hj => ?_⟩
  rw [← hc j hj, show o + i * 13 + k * 13 = o + (i + k) * 13 by rw [Nat.add_mul]; omega]
theorem Its.upto {w : World} {p : Option Addr} {l : List It} (h : Its w p l) (i : Nat) : Its w p (l.take i) := fun k x hx => h k x (by
  have := (List.getElem?_eq_some_iff.1 hx).1
  rw [List.length_take] at this
  rwa [List.getElem?_take_of_lt (by omega)] at hx)

/-- An item lies there. -/
def ItAt (w : World) (g q : Nat) (x : It) : Prop :=
  w.cell? ⟨g, q, none⟩ = some (.int .i64 x.loc) ∧ w.cell? ⟨g, q + 1, none⟩ = some (.complex .f64 (fw x.a) (fw x.b)) ∧ w.cell? ⟨g, q + 2, none⟩ = some (.int .u64 x.n) ∧
  w.cell? ⟨g, q + 3, none⟩ = some (.int .i64 (x.v 0)) ∧ w.cell? ⟨g, q + 4, none⟩ = some (.int .i64 (x.v 1)) ∧ w.cell? ⟨g, q + 5, none⟩ = some (.int .i64 (x.v 2)) ∧ w.cell? ⟨g, q + 6, none⟩ = some (.int .i64 (x.v 3)) ∧
  w.cell? ⟨g, q + 7, none⟩ = some (.int .i64 (x.v 4)) ∧ w.cell? ⟨g, q + 8, none⟩ = some (.int .i64 (x.v 5)) ∧ w.cell? ⟨g, q + 9, none⟩ = some (.int .i64 (x.v 6)) ∧ w.cell? ⟨g, q + 10, none⟩ = some (.int .i64 (x.v 7)) ∧
  w.cell? ⟨g, q + 11, none⟩ = some (.bool x.res) ∧ w.cell? ⟨g, q + 12, none⟩ = some (.int .i64 x.owner)
theorem itAt_of {w : World} {g q : Nat} {x : It} (h : ∀ i, i < 13 → w.cell? ⟨g, q + i, none⟩ = (itCells x)[i]?) : ItAt w g q x :=
  ⟨h 0 (by decide), h 1 (by decide), h 2 (by decide), h 3 (by decide), h 4 (by decide), h 5 (by decide), h 6 (by decide), h 7 (by decide), h 8 (by decide), h 9 (by decide), h 10 (by decide), h 11 (by decide), h 12 (by decide)⟩
theorem Its.there {w : World} {p : Option Addr} {l : List It} (h : Its w p l) {k : Nat} {x : It} (hx : l[k]? = some x) : ∃ g o, p = some ⟨g, o, none⟩ ∧ g < w.heap.size ∧ ItAt w g (o + k * 13) x := by
  obtain ⟨g, o, e, hg, hc⟩ := h k x hx
  exact ⟨g, o, e, hg, itAt_of hc⟩
theorem itAt_sits {w : World} {g : Nat} {x : It} (h : Sits w g 52 (itCells x)) : ItAt w g 0 x := itAt_of fun i hi => by rw [Nat.zero_add]; exact h.cell i
/-! ### What append makes -/
section
variable {P : Program} (w : World)
/-- Onto a row that is full, or nil: a new row; or the old one, where nothing is appended. -/
theorem run_append_full (t ty e : TypeId) (i : TypeInfo) (z : Value) (size bytes : Nat) (ht : P.underlying t = some (.slice e)) (hi : P.info? e = some i) (hz : i.zero = some z) (hsize : i.size = size) (hby : i.bytes = bytes) (hzs : z.cells.size = size) (hsz : 0 < size)
    (p q : Option Addr) (n m c c' : Nat) (xs ys : List Value) (hx : xs.length = n * size) (hy : ys.length = m * size) (hp : Lay w p xs) (hq : Lay w q ys) (hc : m = 0 ∨ c < n + m) (hnc : n ≤ c) (h1 : ∀ u ∈ ys, u.oneCell' = true) (h63 : n + m ≤ maxLen) (hb : (n + m) * bytes ≤ 140737488355328) :
    ∃ r d w', (Builtin.append_ #[t, t] ty #[.slice p n c, .slice q m c']).run P w = .ok (.slice r (n + m) d) w' ∧ Below w.heap.size w w' ∧ Lay w' r (xs ++ ys) ∧ n + m ≤ d ∧
      ((m = 0 ∧ r = p ∧ d = c ∧ w' = w) ∨ w'.ownsRow w.heap.size e size (.slice r (n + m) d) (n + m) (xs ++ ys)) := by
  subst hsize hby
  rcases Nat.eq_zero_or_pos m with rfl | hm
  · have hy0 : ys = [] := List.eq_nil_of_length_eq_zero (by rw [hy, Nat.zero_mul])
    subst hy0
    refine ⟨p, c, w, ?_, Below.refl _ _, by rw [List.append_nil]; exact hp, by omega, .inl ⟨rfl, rfl, rfl, rfl⟩⟩
    have hs : Src P i.size t (.slice q 0 c') 0 [] w := by
      cases q with
      | none => exact Src.ofNil w ht c'
      | some a => exact Src.ofSlice w ht a 0 c' [] (by simp) (by simp) (by simp)
    exact run_append_nothing w t t ty e i ht hi p n c hnc _ hs
  · have hold : (Builtin.firstCells i.size n (.slice p n c)).run P w.drew = .ok xs.toArray w.drew := by
      rcases Nat.eq_zero_or_pos n with rfl | hn
      · have hx0 : xs = [] := List.eq_nil_of_length_eq_zero (by rw [hx, Nat.zero_mul])
        subst hx0
        cases p with
        | none => exact run_firstCells_none w.drew i.size 0 0 c
        | some a => exact run_firstCells_some w.drew i.size 0 a 0 c [] (by simp) (by intro _ _ h'; simp at h')
      · have hx0 : 0 < xs.length := by rw [hx]; exact Nat.mul_pos hn hsz
        obtain ⟨g, o, rfl, _, _⟩ := hp 0 xs[0] (List.getElem?_eq_getElem hx0)
        refine run_firstCells_some w.drew i.size n ⟨g, o, none⟩ n c xs hx (fun j u hu => ?_)
        obtain ⟨g', o', e', _, hcu⟩ := hp j u hu
        injection e' with e'; injection e' with e1 e2; subst e1 e2
        rw [Addr.add_lit]; exact hcu
    have hs : Src P i.size t (.slice q m c') m ys w := by
      have hy0 : 0 < ys.length := by rw [hy]; exact Nat.mul_pos hm hsz
      obtain ⟨g, o, rfl, _, _⟩ := hq 0 ys[0] (List.getElem?_eq_getElem hy0)
      refine Src.ofSlice w ht ⟨g, o, none⟩ m c' ys hy (fun j u hu => ?_) h1
      obtain ⟨g', o', e', _, hcu⟩ := hq j u hu
      injection e' with e'; injection e' with e1 e2; subst e1 e2
      rw [Addr.add_lit]; exact hcu
    have hg : c < n + m := by omega
    have hrun := run_append_grow_src (P := P) w t t ty e i z ht hi hz p n c xs hold (.slice q m c') m ys hs hg (by simp only [maxLen] at h63; omega) (growslice_fits hg hb)
    have hge := grownCap_ge w (n + m) c e
    have hcm := grownCap_le_maxLen w (n + m) c e h63
    have hL : (xs ++ ys).length = (n + m) * i.size := by rw [List.length_append, hx, hy, Nat.add_mul]
    have hblk : (w.drew.alloc (.cells ((xs ++ ys).toArray ++ Builtin.zeroCells z.cells (grownCap w (n + m) c e - (n + m))) e)).heap[w.heap.size]? = some (.cells ((xs ++ ys).toArray ++ Builtin.zeroCells z.cells (grownCap w (n + m) c e - (n + m))) e (0, 0)) := heap_alloc_new w.drew _
    refine ⟨some ⟨w.heap.size, 0, none⟩, _, _, hrun, ((Below.refl _ w).drew).alloc (by simp) _, fun j u hu => ⟨w.heap.size, 0, rfl, by simp, ?_⟩, hge, .inr ⟨hL, .inr ⟨w.heap.size, _, _, rfl, Nat.le_refl _, hblk, hge, hcm, ?_, ?_⟩⟩⟩
    · rw [Nat.zero_add, cell_of_row _ _ _ _ _ _ hblk, Array.getElem?_append_left (by simpa using (List.getElem?_eq_some_iff.1 hu).1)]
      simpa using hu
    · rw [Array.size_append, size_zeroCells, hzs, List.size_toArray, hL, ← Nat.add_mul]
      congr 1
      omega
    · rw [Array.toList_append, List.take_append_of_le_length (by simp [hL]), List.toList_toArray, ← hL, List.take_length]
end
end Go.Proofs.Ytgkgpehjedmejaa.Mmr
