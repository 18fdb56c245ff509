/- Layer 11 (memory): the document's memory where it lies: Right, owned, At. -/
import Derived.Test.YtgkgpehjedmejaaMmrX
import Derived.Test.YtgkgpehjedmejaaMmrT
namespace Go.Proofs.Ytgkgpehjedmejaa.Mmr
open Go.RowKit Go.Proofs.Ytgkgpehjedmejaa.Mem Go.Proofs.Ytgkgpehjedmejaa.Flow

def rtL (x : It) : List Value := (rtCells x).toList
theorem rtL_len (x : It) : (rtL x).length = 14 := rfl
/-- A row of the document's items lies there. -/
def Rts (w : World) (p : Option Addr) (l : List It) : Prop := ∀ k x, l[k]? = some x → ∃ g o, p = some ⟨g, o, none⟩ ∧ g < w.heap.size ∧ ∀ i, i < 14 → w.cell? ⟨g, o + k * 14 + i, none⟩ = (rtCells x)[i]?
section
variable {w w' : World} {p : Option Addr} {l : List It}
theorem Rts.below (h : Rts w p l) (hb : Below w.heap.size w w') : Rts w' p l := fun k x hx => by
  obtain ⟨g, o, e, hg, hc⟩ := h k x hx
  exact ⟨g, o, e, Nat.lt_of_lt_of_le hg hb.size, fun i hi => (hb.cell (p := ⟨g, o + k * 14 + i, none⟩) hg).trans (hc i hi)⟩
theorem Rts.nil (w : World) (p : Option Addr) : Rts w p [] := fun k x h => by simp at h
end
theorem Rts.lay {w : World} {p : Option Addr} {l : List It} (h : Rts w p l) : Lay w p (cellsOf rtL l) := fun j u hu => by
  have hj := (List.getElem?_eq_some_iff.1 hu).1
  rw [cells_len rtL_len] at hj
  obtain ⟨k, i, x, rfl, hi, hx⟩ := cell_split (by decide) l hj
  obtain ⟨g, o, e, hg, hc⟩ := h k x hx
  refine ⟨g, o, e, hg, ?_⟩
  rw [← Nat.add_assoc, hc i hi, ← hu, cells_at rtL_len l k x i hx hi]
  unfold rtL; simp
theorem Lay.rts {w : World} {p : Option Addr} {l : List It} (h : Lay w p (cellsOf rtL l)) : Rts w p l := fun k x hx => by
  have at_ : ∀ i, i < 14 → ∃ g o, p = some ⟨g, o, none⟩ ∧ g < w.heap.size ∧ w.cell? ⟨g, o + (k * 14 + i), none⟩ = (rtCells x)[i]? := fun i hi => by
    have e := cells_at rtL_len l k x i hx hi
    have hs : (rtCells x)[i]? = some (rtCells x)[i] := Array.getElem?_eq_getElem hi
    obtain ⟨g, o, h1, h2, h3⟩ := h (k * 14 + i) (rtCells x)[i] (by rw [e, ← hs]; unfold rtL; simp)
    exact ⟨g, o, h1, h2, h3.trans hs.symm⟩
  obtain ⟨g, o, e, hg, _⟩ := at_ 0 (by decide)
  refine ⟨g, o, e, hg, fun i hi => ?_⟩
  obtain ⟨g', o', e', _, hc⟩ := at_ i hi
  rw [e] at e'
  injection e' with e'
  injection e' with e1 e2
  subst e1 e2
  rw [Nat.add_assoc]; exact hc
theorem Rts.from {w : World} {g o : Nat} {l : List It} (h : Rts w (some ⟨g, o, none⟩) l) (i : Nat) : Rts w (some ⟨g, o + i * 14, none⟩) (l.drop i) := fun k x hx => by
  rw [List.getElem?_drop] at hx
  obtain ⟨g', o', e, hg, hc⟩ := h (i + k) x hx
  injection e with e
  injection e with e1 e2
  subst e1 e2
  refine ⟨g, o + i * 14, rfl, hg, fun j hj => ?_⟩
  rw [← hc j hj, show o + i * 14 + k * 14 = o + (i + k) * 14 by rw [Nat.add_mul]; omega]
theorem Rts.upto {w : World} {p : Option Addr} {l : List It} (h : Rts w p l) (i : Nat) : Rts w p (l.take i) := fun k x hx => h k x (by
  have := (List.getElem?_eq_some_iff.1 hx).1
  rw [List.length_take] at this
  rwa [List.getElem?_take_of_lt (by omega)] at hx)
def RtAt (w : World) (g q : Nat) (x : It) : Prop :=
  w.cell? ⟨g, q, none⟩ = some (.int .i64 x.loc) ∧ w.cell? ⟨g, q + 1, none⟩ = some (.int .i64 x.a) ∧ w.cell? ⟨g, q + 2, none⟩ = some (.int .i64 x.b) ∧ w.cell? ⟨g, q + 3, none⟩ = some (.int .u64 x.n) ∧
  w.cell? ⟨g, q + 4, none⟩ = some (.int .i64 (x.v 0)) ∧ w.cell? ⟨g, q + 5, none⟩ = some (.int .i64 (x.v 1)) ∧ w.cell? ⟨g, q + 6, none⟩ = some (.int .i64 (x.v 2)) ∧ w.cell? ⟨g, q + 7, none⟩ = some (.int .i64 (x.v 3)) ∧
  w.cell? ⟨g, q + 8, none⟩ = some (.int .i64 (x.v 4)) ∧ w.cell? ⟨g, q + 9, none⟩ = some (.int .i64 (x.v 5)) ∧ w.cell? ⟨g, q + 10, none⟩ = some (.int .i64 (x.v 6)) ∧ w.cell? ⟨g, q + 11, none⟩ = some (.int .i64 (x.v 7)) ∧
  w.cell? ⟨g, q + 12, none⟩ = some (.bool x.res) ∧ w.cell? ⟨g, q + 13, none⟩ = some (.int .i64 x.owner)
theorem rtAt_of {w : World} {g q : Nat} {x : It} (h : ∀ i, i < 14 → w.cell? ⟨g, q + i, none⟩ = (rtCells x)[i]?) : RtAt w g q x :=
  ⟨h 0 (by decide), h 1 (by decide), h 2 (by decide), h 3 (by decide), h 4 (by decide), h 5 (by decide), h 6 (by decide), h 7 (by decide), h 8 (by decide), h 9 (by decide), h 10 (by decide), h 11 (by decide), h 12 (by decide), h 13 (by decide)⟩
theorem Rts.there {w : World} {p : Option Addr} {l : List It} (h : Rts w p l) {k : Nat} {x : It} (hx : l[k]? = some x) : ∃ g o, p = some ⟨g, o, none⟩ ∧ g < w.heap.size ∧ RtAt w g (o + k * 14) x := by
  obtain ⟨g, o, e, hg, hc⟩ := h k x hx
  exact ⟨g, o, e, hg, rtAt_of hc⟩
theorem rtAt_sits {w : World} {g : Nat} {x : It} (h : Sits w g 60 (rtCells x)) : RtAt w g 0 x := rtAt_of fun i hi => by rw [Nat.zero_add]; exact h.cell i
theorem rtAt_below {w w' : World} {g q : Nat} {x : It} (h : RtAt w g q x) (hg : g < w.heap.size) (hb : Below w.heap.size w w') : RtAt w' g q x := by
  obtain ⟨h0, h1, h2, h3, h4, h5, h6, h7, h8, h9, h10, h11, h12, h13⟩ := h
  have k : ∀ {j : Nat} {v : Value}, w.cell? ⟨g, j, none⟩ = some v → w'.cell? ⟨g, j, none⟩ = some v := fun {j v} h => (hb.cell (p := ⟨g, j, none⟩) hg).trans h
  exact ⟨k h0, k h1, k h2, k h3, k h4, k h5, k h6, k h7, k h8, k h9, k h10, k h11, k h12, k h13⟩
abbrev dmCells (q : Option Addr) (c : Nat) (m : Dm) : Array Value := #[.int .i64 (m.n : Nat), .slice q m.l.length c]
abbrev dmV (q : Option Addr) (c : Nat) (m : Dm) : Value := .agg (dmCells q c m)
structure HoldD (w : World) (q : Option Addr) (c : Nat) (m : Dm) : Prop where
  row : Rts w q m.l
  cap : m.l.length ≤ c
theorem HoldD.below {w w' : World} {q : Option Addr} {c : Nat} {m : Dm} (h : HoldD w q c m) (hb : Below w.heap.size w w') : HoldD w' q c m := ⟨h.row.below hb, h.cap⟩
theorem idx_of {φ : It → Bool} {l : List It} {k : Nat} {x : It} (hx : l[k]? = some x) (h : φ x = true) (hb : ∀ j y, j < k → l[j]? = some y → φ y = false) : l.findIdx? φ = some k := by
  obtain ⟨hk, rfl⟩ := List.getElem?_eq_some_iff.1 hx
  exact List.findIdx?_eq_some_iff_getElem.2 ⟨hk, h, fun j hj => by rw [hb j _ hj (List.getElem?_eq_getElem (by omega))]; simp⟩
theorem idx_off {φ : It → Bool} {l : List It} (h : ∀ j y, j < l.length → l[j]? = some y → φ y = false) : l.findIdx? φ = none :=
  List.findIdx?_eq_none_iff.2 fun x hx => by
    obtain ⟨j, hj⟩ := List.mem_iff_getElem?.1 hx
    exact h j x (List.getElem?_eq_some_iff.1 hj).1 hj
theorem more_of {φ : It → Bool} {l : List It} {k : Nat} {x : It} (hF : ∀ j y, j < k → l[j]? = some y → φ y = false) (hx : l[k]? = some x) (h : φ x = false) : ∀ j y, j < k + 1 → l[j]? = some y → φ y = false := fun j y hj hy => by
  by_cases hk : j < k
  · exact hF j y hk hy
  · obtain rfl : j = k := by omega
    rw [hx] at hy; injection hy with hy; subst hy; exact h
theorem five (p : Prop) (b2 b3 b4 b5 : Bool) : ¬p ∨ (p ∧ (b2 = false ∨ (b2 = true ∧ (b3 = false ∨ (b3 = true ∧ (b4 = false ∨ (b4 = true ∧ (b5 = false ∨ b5 = true)))))))) := by
  by_cases h : p
  · cases b2 <;> cases b3 <;> cases b4 <;> cases b5 <;> simp [h]
  · exact .inl h
theorem own_no {loc te owner : Int} {res : Bool} {x : It} (h : ¬ 0 ≤ owner ∨ (x.loc == loc) = false ∨ (x.b == te) = false ∨ (x.owner == owner) = false ∨ (x.res == res) = false) : ownD loc te owner res x = false := by
  unfold ownD endI
  rcases h with h | h | h | h | h <;> simp at h <;> simp [h]
  intro h'; omega
end Go.Proofs.Ytgkgpehjedmejaa.Mmr
