/- Layer 3 (expr): rows in memory; the tree of a row; where the document's own expression ends. -/
import Derived.Test.YtagpkhdogkjopaaDoorExprC
namespace Go.Proofs.YtagpkhdogkjopaaDoor.Expr
open Go.RowKit Go.Proofs.YtagpkhdogkjopaaDoor.Mem Go.Lib

/-- The six cells of an item, at place i of a row that begins at place o of block g. -/
def ItemAt (w : World) (g o : Nat) (a : It) : Prop :=
  w.cell? ⟨g, o, none⟩ = some (.int .u8 a.kind) ∧ w.cell? ⟨g, o + 1, none⟩ = some (.int .u8 a.op) ∧ w.cell? ⟨g, o + 2, none⟩ = some (.int .u64 a.n) ∧
    w.cell? ⟨g, o + 3, none⟩ = some (.int .u8 a.t) ∧ w.cell? ⟨g, o + 4, none⟩ = some (.int .u8 a.i) ∧ w.cell? ⟨g, o + 5, none⟩ = some (.int .u8 a.x)
def Row (w : World) (v : Value) (l : List It) : Prop :=
  (l = [] ∧ ∃ p cap, v = .slice p 0 cap) ∨ ∃ g o cap, v = .slice (some ⟨g, o, none⟩) l.length cap ∧ l.length ≤ 1000000 ∧ ∀ i a, l[i]? = some a → ItemAt w g (o + i * 6) a
theorem ItemAt.lt {w : World} {g o : Nat} {a : It} (h : ItemAt w g o a) : g < w.heap.size := World.block_lt_of_cell? w _ h.1
theorem ItemAt.keep {w w' : World} {g o : Nat} {a : It} (h : ItemAt w g o a) (hk : ∀ j, w'.cell? ⟨g, j, none⟩ = w.cell? ⟨g, j, none⟩) : ItemAt w' g o a := by
  unfold ItemAt at h ⊢
  simp only [hk]; exact h
theorem ItemAt.below {w w' : World} {g o : Nat} {a : It} (h : ItemAt w g o a) (hb : Below w.heap.size w w') : ItemAt w' g o a := h.keep fun j => hb.cell (p := ⟨g, j, none⟩) h.lt
theorem Row.below {w w' : World} {v : Value} {l : List It} (h : Row w v l) (hb : Below w.heap.size w w') : Row w' v l := by
  rcases h with h | ⟨g, o, cap, hv, hl, h⟩
  · exact .inl h
  · exact .inr ⟨g, o, cap, hv, hl, fun i a ha => (h i a ha).below hb⟩
theorem Row.len {w : World} {v : Value} {l : List It} (h : Row w v l) : ∃ p cap, v = .slice p l.length cap ∧ l.length ≤ 1000000 := by
  rcases h with ⟨rfl, p, cap, hv⟩ | ⟨g, o, cap, hv, hl, _⟩
  · exact ⟨p, cap, hv, by simp⟩
  · exact ⟨_, cap, hv, hl⟩
theorem Row.item {w : World} {v : Value} {l : List It} (h : Row w v l) {i : Nat} {a : It} (ha : l[i]? = some a) : ∃ g o cap, v = .slice (some ⟨g, o, none⟩) l.length cap ∧ l.length ≤ 1000000 ∧ i < l.length ∧ ItemAt w g (o + i * 6) a := by
  have hi := (List.getElem?_eq_some_iff.1 ha).1
  rcases h with ⟨rfl, _⟩ | ⟨g, o, cap, hv, hl, h⟩
  · simp at hi
  · exact ⟨g, o, cap, hv, hl, hi, h i a ha⟩

/-- A tree all of whose blocks stand from B on. -/
def TreeB (B : Nat) (w : World) : Tr → Value → Prop
  | .nil, v => v = .pointer none
  | .node a l r, v => ∃ g lv rv, v = .pointer (some ⟨g, 0, none⟩) ∧ B ≤ g ∧ Sits w g 29 (exprCells a lv rv) ∧ TreeB B w l lv ∧ TreeB B w r rv
section
variable {B C : Nat} {w w' : World}
theorem TreeB.tree : ∀ {t : Tr} {v : Value}, TreeB B w t v → Tree w t v := by
  intro t
  induction t with
  | nil => intro v h; exact h
  | node a l r ihl ihr => intro v h; obtain ⟨g, lv, rv, hv, _, hg, hl, hr⟩ := h; exact ⟨g, lv, rv, hv, hg, ihl hl, ihr hr⟩
theorem TreeB.keep (hk : ∀ g cs, B ≤ g → Sits w g 29 cs → Sits w' g 29 cs) (hB : C ≤ B) : ∀ {t : Tr} {v : Value}, TreeB B w t v → TreeB C w' t v := by
  intro t
  induction t with
  | nil => intro v h; exact h
  | node a l r ihl ihr => intro v h; obtain ⟨g, lv, rv, hv, hg0, hg, hl, hr⟩ := h; exact ⟨g, lv, rv, hv, Nat.le_trans hB hg0, hk _ _ hg0 hg, ihl hl, ihr hr⟩
theorem TreeB.below {t : Tr} {v : Value} (h : TreeB B w t v) (hb : Below w.heap.size w w') (hB : C ≤ B) : TreeB C w' t v := h.keep (fun _ _ _ hs => hs.below hb hs.lt) hB
theorem TreeB.far {t : Tr} {v : Value} (h : TreeB B w t v) {g : Nat} (hg : g < B) (i : Nat) (u : Value) (hB : C ≤ B) : TreeB C (w.setCell ⟨g, i, none⟩ u) t v :=
  h.keep (fun g' _ hg' hs => hs.far (by show g' ≠ g; omega) u) hB
end
def OfMade (l : List It) (most k : Nat) (w : World) (e : Ending) (w' : World) : Prop :=
  ∃ p, e = .returned (.tuple #[p, .int .i64 ((ofF l most k).2 : Nat)]) ∧ TreeB w.heap.size w' (ofF l most k).1 p ∧ Below w.heap.size w w'
theorem of_fin {l : List It} {m k : Nat} {w W' : World} {b : It} (H : ofF l m k = (.node b .nil .nil, k + 1)) {g' : Nat} (hg : w.heap.size ≤ g') (hs : Sits W' g' 29 (exprCells b (.pointer none) (.pointer none))) (hb : Below w.heap.size w W') :
    OfMade l m k w (.returned (.tuple #[.pointer (some ⟨g', 0, none⟩), .int .i64 ((k : Int) + 1)])) W' :=
  ⟨_, by rw [H]; rfl, by rw [H]; exact ⟨g', _, _, rfl, hg, hs, rfl, rfl⟩, hb⟩
theorem of_fin1 {l : List It} {m k : Nat} {w w1 : World} {b : It} {t : Tr} {j : Nat} {p : Value} (H : ofF l m k = (.node b t .nil, j)) (hS : Sits w1 (w.heap.size + 1) 29 (exprCells b (.pointer none) (.pointer none)))
    (hT : TreeB (w.heap.size + 2) w1 t p) (hb : Below w.heap.size w w1) :
    OfMade l m k w (.returned (.tuple #[.pointer (some ⟨w.heap.size + 1, 0, none⟩), .int .i64 (j : Nat)])) (w1.setCell ⟨w.heap.size + 1, 6, none⟩ p) :=
  ⟨_, by rw [H], by rw [H]; exact ⟨_, _, _, rfl, by omega, hS.put 6 p, hT.far (by omega) 6 p (by omega), rfl⟩, hb.setCell (by simp) _⟩
theorem of_fin2 {l : List It} {m k : Nat} {w w1 w2 : World} {b : It} {t t' : Tr} {j : Nat} {p q : Value} (H : ofF l m k = (.node b t t', j)) (hS : Sits w1 (w.heap.size + 1) 29 (exprCells b p (.pointer none)))
    (hT : TreeB (w.heap.size + 2) w1 t p) (hT' : TreeB w1.heap.size w2 t' q) (hb : Below w.heap.size w w1) (hs : w.heap.size + 2 ≤ w1.heap.size) (hb2 : Below w1.heap.size w1 w2) :
    OfMade l m k w (.returned (.tuple #[.pointer (some ⟨w.heap.size + 1, 0, none⟩), .int .i64 (j : Nat)])) (w2.setCell ⟨w.heap.size + 1, 7, none⟩ q) :=
  ⟨_, by rw [H], by rw [H]; exact ⟨_, _, _, rfl, by omega, (hS.below hb2 (by omega)).put 7 q, (hT.below hb2 (Nat.le_refl _)).far (by omega) 7 q (by omega), hT'.far (by omega) 7 q (by omega)⟩, (hb.trans (hb2.mono (by omega))).setCell (by simp) _⟩
end Go.Proofs.YtagpkhdogkjopaaDoor.Expr
