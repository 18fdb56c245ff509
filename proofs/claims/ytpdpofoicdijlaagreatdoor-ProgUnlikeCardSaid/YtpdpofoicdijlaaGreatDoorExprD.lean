/- Layer 3 (expr): rows in memory; the tree of a row; where the document's own expression ends. -/
import Derived.Test.YtpdpofoicdijlaaGreatDoorExprC
namespace Go.Proofs.YtpdpofoicdijlaaGreatDoor.Expr
open Go.RowKit Go.Proofs.YtpdpofoicdijlaaGreatDoor.Mem Go.Lib

/-- The six cells of an item, at place i of a row that begins at place o of block g. -/
def ItemAt (w : World) (g o : Nat) (a : It) : Prop :=
  w.cell? ⟨g, o, none⟩ = some (.int .u8 a.kind) ∧ w.cell? ⟨g, o + 1, none⟩ = some (.int .u8 a.op) ∧ w.cell? ⟨g, o + 2, none⟩ = some (.int .u64 a.n) ∧
    w.cell? ⟨g, o + 3, none⟩ = some (.int .u8 a.t) ∧ w.cell? ⟨g, o + 4, none⟩ = some (.int .u8 a.i) ∧ w.cell? ⟨g, o + 5, none⟩ = some (.int .u8 a.x)
def Row (w : World) (v : Value) (l : List It) : Prop :=
  (l = [] ∧ ∃ p cap, v = .slice p 0 cap) ∨ ∃ g o cap, v = .slice (some ⟨g, o, none⟩) l.length cap ∧ l.length ≤ 1000000 ∧ ∀ i a, l[i]? = some a → ItemAt w g (o + i * 6) a
theorem ItemAt.lt {w : World} {g o : Nat} {a : It} (h : ItemAt w g o a) : g < w.heap.size := World.block_lt_of_cell? w _ h.1
theorem ItemAt.keep {w w' : World} {g o : Nat} {a : It} (h : ItemAt w g o a) (hk : ∀ j, w'.cell? ⟨g, j, none⟩ = w.cell? ⟨g, j, none⟩) : ItemAt w' g o a := by
  unfold ItemAt at h ⊢
  simp only [hk]; exact h
theorem ItemAt.below {w w' : World} {g o : Nat} {a : It} (h : ItemAt w g o a) (hb : Below w.heap.size w w') : ItemAt w' g o a := h.keep fun j => hb.cell (p := ⟨g, j, none⟩) h.lt
theorem Row.below {w w' : World} {v : Value} {l : List It} (h : Row w v l) (hb : Below w.heap.size w w') : Row w' v l := by
  rcases h with h | ⟨g, o, cap, hv, hl, h⟩
  · exact .inl h
  · exact .inr ⟨g, o, cap, hv, hl, fun i a ha => (h i a ha).below hb⟩
theorem Row.len {w : World} {v : Value} {l : List It} (h : Row w v l) : ∃ p cap, v = .slice p l.length cap ∧ l.length ≤ 1000000 := by
  rcases h with ⟨rfl, p, cap, hv⟩ | ⟨g, o, cap, hv, hl, _⟩
  · exact ⟨p, cap, hv, by simp⟩
  · exact ⟨_, cap, hv, hl⟩
theorem Row.item {w : World} {v : Value} {l : List It} (h : Row w v l) {i : Nat} {a : It} (ha : l[i]? = some a) : ∃ g o cap, v = .slice (some ⟨g, o, none⟩) l.length cap ∧ l.length ≤ 1000000 ∧ i < l.length ∧ ItemAt w g (o + i * 6) a := by
  have hi := (List.getElem?_eq_some_iff.1 ha).1
  rcases h with ⟨rfl, _⟩ | ⟨g, o, cap, hv, hl, h⟩
  · simp at hi
  · exact ⟨g, o, cap, hv, hl, hi, h i a ha⟩

/-- A tree all of whose blocks stand from B on. -/
def TreeB (B : Nat) (w : World) : Tr → Value → Prop
  | .nil, v => v = .pointer none
  | .node a l r, v => ∃ g lv rv, v = .pointer (some ⟨g, 0, none⟩) ∧ B ≤ g ∧ Sits w g 58 (exprCells a lv rv) ∧ TreeB B w l lv ∧ TreeB B w r rv
section
variable {B C : Nat} {w w' : World}
theorem TreeB.tree : ∀ {t : Tr} {v : Value}, TreeB B w t v → Tree w t v := by
  intro t
  induction t with
  | nil => intro v h; exact h
  | node a l r ihl ihr => intro v h; obtain ⟨g, lv, rv, hv, _, hg, hl, hr⟩ := h; exact ⟨g, lv, rv, hv, hg, ihl hl, ihr hr⟩
theorem TreeB.keep (hk : ∀ g cs, B ≤ g → Sits w g 58 cs → Sits w' g 58 cs) (hB : C ≤ B) : ∀ {t : Tr} {v : Value}, TreeB B w t v → TreeB C w' t v := by
  intro t
  induction t with
  | nil => intro v h; exact h
  | node a l r ihl ihr => intro v h; obtain ⟨g, lv, rv, hv, hg0, hg, hl, hr⟩ := h; exact ⟨g, lv, rv, hv, Nat.le_trans hB hg0, hk _ _ hg0 hg, ihl hl, ihr hr⟩
theorem TreeB.below {t : Tr} {v : Value} (h : TreeB B w t v) (hb : Below w.heap.size w w') (hB : C ≤ B) : TreeB C w' t v := h.keep (fun _ _ _ hs => hs.below hb hs.lt) hB
theorem TreeB.far {t : Tr} {v : Value} (h : TreeB B w t v) {g : Nat} (hg : g < B) (i : Nat) (u : Value) (hB : C ≤ B) : TreeB C (w.setCell ⟨g, i, none⟩ u) t v :=
  h.keep (fun g' _ hg' hs => hs.far (by show g' ≠ g; omega) u) hB
end
def OfMade (l : List It) (most k : Nat) (w : World) (e : Ending) (w' : World) : Prop :=
  ∃ p, e = .returned (.tuple #[p, .int .i64 ((ofF l most k).2 : Nat)]) ∧ TreeB w.heap.size w' (ofF l most k).1 p ∧ Below w.heap.size w w'
theorem of_none (l : List It) (k m : Nat) (v : Value) (w : World) (hv : Row w v l) (hk : l[k]? = none) : Calls Tryz.prog 54 #[v, .int .i64 (k : Nat), .int .i64 (m : Nat)] w (OfMade l m k w) := by
  have e := ofF_none m hk
  obtain ⟨p, cap, rfl, hl⟩ := hv.len
  have hk' : l.length ≤ k := List.getElem?_eq_none_iff.1 hk
  have h : ∀ e w', e = .returned (.tuple #[.pointer none, .int .i64 (k : Nat)]) ∧ w = w' → OfMade l m k w e w' := by
    rintro e' w' ⟨rfl, rfl⟩
    exact ⟨_, by rw [e], by rw [e]; exact rfl, Below.refl _ _⟩
  refine Calls.mono ?_ h
  clear h e hv hk
  have i1 : (l.length : Int) ≤ (k : Int) := by omega
  go_enter Tryz.func54, Tryz.ntmps54
  go_wp2_with fail
  go_ret2
  exact ⟨rfl, rfl⟩
theorem of_zero (l : List It) (k : Nat) (v : Value) (w : World) (hv : Row w v l) : Calls Tryz.prog 54 #[v, .int .i64 (k : Nat), .int .i64 (0 : Nat)] w (OfMade l 0 k w) := by
  cases hk : l[k]? with
  | none => exact of_none l k 0 v w hv hk
  | some a =>
    obtain ⟨p, cap, rfl, hl⟩ := hv.len
    have hk' := (List.getElem?_eq_some_iff.1 hk).1
    have h : ∀ e w', e = .returned (.tuple #[.pointer none, .int .i64 (k : Nat)]) ∧ w = w' → OfMade l 0 k w e w' := by
      rintro e' w' ⟨rfl, rfl⟩
      exact ⟨_, rfl, rfl, Below.refl _ _⟩
    refine Calls.mono ?_ h
    show Calls _ _ #[_, _, .int .i64 0] _ _
    clear h hv hk
    have i1 : (k : Int) < (l.length : Int) := by omega
    go_enter Tryz.func54, Tryz.ntmps54
    go_wp2_with fail
    go_ret2
    exact ⟨rfl, rfl⟩
theorem of_fin {l : List It} {m k : Nat} {w W' : World} {b : It} (H : ofF l m k = (.node b .nil .nil, k + 1)) {g' : Nat} (hg : w.heap.size ≤ g') (hs : Sits W' g' 58 (exprCells b (.pointer none) (.pointer none))) (hb : Below w.heap.size w W') :
    OfMade l m k w (.returned (.tuple #[.pointer (some ⟨g', 0, none⟩), .int .i64 ((k : Int) + 1)])) W' :=
  ⟨_, by rw [H]; rfl, by rw [H]; exact ⟨g', _, _, rfl, hg, hs, rfl, rfl⟩, hb⟩
set_option maxRecDepth 100000 in
theorem of_leaf0 (l : List It) (k m : Nat) (v : Value) (w : World) (hv : Row w v l) (op n t i x : Nat) (hk : l[k]? = some ⟨0, op, n, t, i, x⟩) : Calls Tryz.prog 54 #[v, .int .i64 (k : Nat), .int .i64 (m + 1 : Nat)] w (OfMade l (m + 1) k w) := by
  have e : ofF l (m + 1) k = (.node ⟨0, 0, n, 0, 0, 0⟩ .nil .nil, k + 1) := by
    rw [ofF_leaf m hk (by simp only; omega) (by simp only; omega)]
    simp [leafT]
  obtain ⟨g, o, cap, rfl, hl, hkl, c0, c1, c2, c3, c4, c5⟩ := hv.item hk
  simp only at c0 c1 c2 c3 c4 c5
  have i1 : (k : Int) < (l.length : Int) := by omega
  have i2 : (0 : Int) ≤ k := by omega
  have i3 : ((m : Int) + 1 == 0) = false := beq_eq_false_iff_ne.2 (by omega)
  have i4 : (l.length : Int) ≤ 1000000 := by omega
  have H := Lib.hid e
  clear e hv hk
  go_enter Tryz.func54, Tryz.ntmps54
  go_wp2_with fail
  go_ret2
  exact of_fin H.out (Nat.le_succ _) ((Sits.made (by simp) _ _)) ((((Below.refl _ _).alloc (Nat.le_refl _) _).alloc (by simp) _))
set_option maxRecDepth 100000 in
theorem of_leaf1 (l : List It) (k m : Nat) (v : Value) (w : World) (hv : Row w v l) (op n t i x : Nat) (hk : l[k]? = some ⟨1, op, n, t, i, x⟩) : Calls Tryz.prog 54 #[v, .int .i64 (k : Nat), .int .i64 (m + 1 : Nat)] w (OfMade l (m + 1) k w) := by
  have e : ofF l (m + 1) k = (.node ⟨1, 0, 0, 0, i, 0⟩ .nil .nil, k + 1) := by
    rw [ofF_leaf m hk (by simp only; omega) (by simp only; omega)]
    simp [leafT]
  obtain ⟨g, o, cap, rfl, hl, hkl, c0, c1, c2, c3, c4, c5⟩ := hv.item hk
  simp only at c0 c1 c2 c3 c4 c5
  have i1 : (k : Int) < (l.length : Int) := by omega
  have i2 : (0 : Int) ≤ k := by omega
  have i3 : ((m : Int) + 1 == 0) = false := beq_eq_false_iff_ne.2 (by omega)
  have i4 : (l.length : Int) ≤ 1000000 := by omega
  have H := Lib.hid e
  clear e hv hk
  go_enter Tryz.func54, Tryz.ntmps54
  go_wp2_with fail
  go_ret2
  exact of_fin H.out (Nat.le_succ _) ((Sits.made (by simp) _ _)) ((((Below.refl _ _).alloc (Nat.le_refl _) _).alloc (by simp) _))
set_option maxRecDepth 100000 in
theorem of_leaf2 (l : List It) (k m : Nat) (v : Value) (w : World) (hv : Row w v l) (op n t i x : Nat) (hk : l[k]? = some ⟨2, op, n, t, i, x⟩) : Calls Tryz.prog 54 #[v, .int .i64 (k : Nat), .int .i64 (m + 1 : Nat)] w (OfMade l (m + 1) k w) := by
  have e : ofF l (m + 1) k = (.node ⟨2, 0, 0, t, i, 0⟩ .nil .nil, k + 1) := by
    rw [ofF_leaf m hk (by simp only; omega) (by simp only; omega)]
    simp [leafT]
  obtain ⟨g, o, cap, rfl, hl, hkl, c0, c1, c2, c3, c4, c5⟩ := hv.item hk
  simp only at c0 c1 c2 c3 c4 c5
  have i1 : (k : Int) < (l.length : Int) := by omega
  have i2 : (0 : Int) ≤ k := by omega
  have i3 : ((m : Int) + 1 == 0) = false := beq_eq_false_iff_ne.2 (by omega)
  have i4 : (l.length : Int) ≤ 1000000 := by omega
  have H := Lib.hid e
  clear e hv hk
  go_enter Tryz.func54, Tryz.ntmps54
  go_wp2_with fail
  go_region
  go_wp2_with fail
  go_ret2
  exact of_fin H.out (Nat.le_succ _) (Sits.drew (Sits.made (by simp) _ _)) ((((Below.refl _ _).alloc (Nat.le_refl _) _).alloc (by simp) _).drew)
set_option maxRecDepth 100000 in
theorem of_leaf3 (l : List It) (k m : Nat) (v : Value) (w : World) (hv : Row w v l) (op n t i x : Nat) (hk : l[k]? = some ⟨3, op, n, t, i, x⟩) : Calls Tryz.prog 54 #[v, .int .i64 (k : Nat), .int .i64 (m + 1 : Nat)] w (OfMade l (m + 1) k w) := by
  have e : ofF l (m + 1) k = (.node ⟨3, 0, 0, 0, 0, x⟩ .nil .nil, k + 1) := by
    rw [ofF_leaf m hk (by simp only; omega) (by simp only; omega)]
    simp [leafT]
  obtain ⟨g, o, cap, rfl, hl, hkl, c0, c1, c2, c3, c4, c5⟩ := hv.item hk
  simp only at c0 c1 c2 c3 c4 c5
  have i1 : (k : Int) < (l.length : Int) := by omega
  have i2 : (0 : Int) ≤ k := by omega
  have i3 : ((m : Int) + 1 == 0) = false := beq_eq_false_iff_ne.2 (by omega)
  have i4 : (l.length : Int) ≤ 1000000 := by omega
  have H := Lib.hid e
  clear e hv hk
  go_enter Tryz.func54, Tryz.ntmps54
  go_wp2_with fail
  go_ret2
  exact of_fin H.out (Nat.le_succ _) ((Sits.made (by simp) _ _)) ((((Below.refl _ _).alloc (Nat.le_refl _) _).alloc (by simp) _))
set_option maxRecDepth 100000 in
theorem of_leaf6 (l : List It) (k m : Nat) (v : Value) (w : World) (hv : Row w v l) (q : Nat) (hq : 5 < q) (op n t i x : Nat) (hk : l[k]? = some ⟨q, op, n, t, i, x⟩) : Calls Tryz.prog 54 #[v, .int .i64 (k : Nat), .int .i64 (m + 1 : Nat)] w (OfMade l (m + 1) k w) := by
  have e : ofF l (m + 1) k = (.node ⟨q, 0, 0, 0, 0, 0⟩ .nil .nil, k + 1) := by
    rw [ofF_leaf m hk (by simp only; omega) (by simp only; omega)]
    simp [leafT, show ¬ q = 0 by omega, show ¬ q = 1 by omega, show ¬ q = 2 by omega, show ¬ q = 3 by omega]
  obtain ⟨g, o, cap, rfl, hl, hkl, c0, c1, c2, c3, c4, c5⟩ := hv.item hk
  simp only at c0 c1 c2 c3 c4 c5
  have i1 : (k : Int) < (l.length : Int) := by omega
  have i2 : (0 : Int) ≤ k := by omega
  have i3 : ((m : Int) + 1 == 0) = false := beq_eq_false_iff_ne.2 (by omega)
  have i4 : (l.length : Int) ≤ 1000000 := by omega
  have H := Lib.hid e
  have e0 : ((q : Int) == 0) = false := beq_eq_false_iff_ne.2 (by omega)
  have e1 : ((q : Int) == 1) = false := beq_eq_false_iff_ne.2 (by omega)
  have e2 : ((q : Int) == 2) = false := beq_eq_false_iff_ne.2 (by omega)
  have e3 : ((q : Int) == 3) = false := beq_eq_false_iff_ne.2 (by omega)
  have e4 : ((q : Int) == 4) = false := beq_eq_false_iff_ne.2 (by omega)
  have e5 : ((q : Int) == 5) = false := beq_eq_false_iff_ne.2 (by omega)
  clear e hv hk hq
  go_enter Tryz.func54, Tryz.ntmps54
  go_wp2_with fail
  go_ret2
  exact of_fin H.out (Nat.le_succ _) ((Sits.made (by simp) _ _)) ((((Below.refl _ _).alloc (Nat.le_refl _) _).alloc (by simp) _))
/-- The two boxes that it lays: the item's copy, and the node. -/
def ofBox (w : World) (a b : It) : World := (w.alloc (.cells #[.int .u8 a.kind, .int .u8 a.op, .int .u64 a.n, .int .u8 a.t, .int .u8 a.i, .int .u8 a.x] 112)).alloc (.cells (exprCells b (.pointer none) (.pointer none)) 58)
theorem ofBox_node (w : World) (a b : It) : Sits (ofBox w a b) (w.heap.size + 1) 58 (exprCells b (.pointer none) (.pointer none)) := Sits.made (by simp) _ _
theorem ofBox_low (w : World) (a b : It) : Below w.heap.size w (ofBox w a b) := ((Below.refl _ _).alloc (Nat.le_refl _) _).alloc (by simp) _
theorem ofBox_size (w : World) (a b : It) : (ofBox w a b).heap.size = w.heap.size + 2 := by simp [ofBox]
theorem of_fin1 {l : List It} {m k : Nat} {w w1 : World} {b : It} {t : Tr} {j : Nat} {p : Value} (H : ofF l m k = (.node b t .nil, j)) (hS : Sits w1 (w.heap.size + 1) 58 (exprCells b (.pointer none) (.pointer none)))
    (hT : TreeB (w.heap.size + 2) w1 t p) (hb : Below w.heap.size w w1) :
    OfMade l m k w (.returned (.tuple #[.pointer (some ⟨w.heap.size + 1, 0, none⟩), .int .i64 (j : Nat)])) (w1.setCell ⟨w.heap.size + 1, 6, none⟩ p) :=
  ⟨_, by rw [H], by rw [H]; exact ⟨_, _, _, rfl, by omega, hS.put 6 p, hT.far (by omega) 6 p (by omega), rfl⟩, hb.setCell (by simp) _⟩
theorem of_fin2 {l : List It} {m k : Nat} {w w1 w2 : World} {b : It} {t t' : Tr} {j : Nat} {p q : Value} (H : ofF l m k = (.node b t t', j)) (hS : Sits w1 (w.heap.size + 1) 58 (exprCells b p (.pointer none)))
    (hT : TreeB (w.heap.size + 2) w1 t p) (hT' : TreeB w1.heap.size w2 t' q) (hb : Below w.heap.size w w1) (hs : w.heap.size + 2 ≤ w1.heap.size) (hb2 : Below w1.heap.size w1 w2) :
    OfMade l m k w (.returned (.tuple #[.pointer (some ⟨w.heap.size + 1, 0, none⟩), .int .i64 (j : Nat)])) (w2.setCell ⟨w.heap.size + 1, 7, none⟩ q) :=
  ⟨_, by rw [H], by rw [H]; exact ⟨_, _, _, rfl, by omega, (hS.below hb2 (by omega)).put 7 q, (hT.below hb2 (Nat.le_refl _)).far (by omega) 7 q (by omega), hT'.far (by omega) 7 q (by omega)⟩, (hb.trans (hb2.mono (by omega))).setCell (by simp) _⟩
set_option maxRecDepth 100000 in
set_option maxHeartbeats 1000000 in
theorem of_one (l : List It) (k m : Nat) (hm : m < 1000) (v : Value) (w : World) (hv : Row w v l) (op n t i x : Nat) (hk : l[k]? = some ⟨4, op, n, t, i, x⟩)
    (ih : Hid (∀ (k : Nat) (w : World), Row w v l → Calls Tryz.prog 54 #[v, .int .i64 (k : Nat), .int .i64 (m : Nat)] w (OfMade l m k w))) :
    Calls Tryz.prog 54 #[v, .int .i64 (k : Nat), .int .i64 (m + 1 : Nat)] w (OfMade l (m + 1) k w) := by
  have e := ofF_one m hk rfl
  have hih := Lib.hid (fun W (hb : Below w.heap.size w W) => ih.out (k + 1) W (hv.below hb))
  obtain ⟨g, o, cap, rfl, hl, hkl, c0, c1, c2, c3, c4, c5⟩ := hv.item hk
  simp only at c0 c1 c2 c3 c4 c5
  have i1 : (k : Int) < (l.length : Int) := by omega
  have i2 : (0 : Int) ≤ k := by omega
  have i3 : ((m : Int) + 1 == 0) = false := beq_eq_false_iff_ne.2 (by omega)
  have i4 : (l.length : Int) ≤ 1000000 := by omega
  have i5 : (m : Int) < 1000 := by omega
  have H := Lib.hid e
  clear e hv hk ih
  go_enter Tryz.func54, Tryz.ntmps54
  go_wp2_with fail
  change Calls _ _ _ (ofBox w ⟨4, op, n, t, i, x⟩ ⟨4, op, 0, 0, 0, 0⟩) _
  have hS := ofBox_node w ⟨4, op, n, t, i, x⟩ ⟨4, op, 0, 0, 0, 0⟩
  have hz := ofBox_size w ⟨4, op, n, t, i, x⟩ ⟨4, op, 0, 0, 0, 0⟩
  have hlow := ofBox_low w ⟨4, op, n, t, i, x⟩ ⟨4, op, 0, 0, 0, 0⟩
  generalize ofBox w ⟨4, op, n, t, i, x⟩ ⟨4, op, 0, 0, 0, 0⟩ = W at hS hz hlow ⊢
  refine (hih.out W hlow).mono ?_
  rintro e w1 ⟨p, rfl, hT, hb⟩
  obtain ⟨pp, rfl, _⟩ := hT.tree.ptr
  have S1 := Lib.hid (hS.below hb hS.lt)
  have HL := Lib.hid (hlow.trans (hb.mono hlow.size))
  have q6 : w1.cell? ⟨w.heap.size + 1, 6, none⟩ = some (.pointer none) := S1.out.cell 6
  have f6 := S1.out.free 6
  have hlt := S1.out.lt
  rw [hz] at hT
  have HT := Lib.hid hT
  clear hT hb hlow hS hz
  generalize (ofF l m (k + 1)).2 = j at H ⊢
  generalize (ofF l m (k + 1)).1 = t at H HT
  go_wp2_with fail
  go_ret2
  exact of_fin1 H.out S1.out HT.out HL.out
set_option maxRecDepth 100000 in
set_option maxHeartbeats 2000000 in
theorem of_two (l : List It) (k m : Nat) (hm : m < 1000) (v : Value) (w : World) (hv : Row w v l) (op n t i x : Nat) (hk : l[k]? = some ⟨5, op, n, t, i, x⟩)
    (ih : Hid (∀ (k : Nat) (w : World), Row w v l → Calls Tryz.prog 54 #[v, .int .i64 (k : Nat), .int .i64 (m : Nat)] w (OfMade l m k w))) :
    Calls Tryz.prog 54 #[v, .int .i64 (k : Nat), .int .i64 (m + 1 : Nat)] w (OfMade l (m + 1) k w) := by
  have e := ofF_two m hk rfl
  have hih := Lib.hid (fun W (hb : Below w.heap.size w W) => ih.out (k + 1) W (hv.below hb))
  have hih2 := Lib.hid (fun W (hb : Below w.heap.size w W) => ih.out (ofF l m (k + 1)).2 W (hv.below hb))
  have hj := ofF_le l m (k + 1)
  obtain ⟨g, o, cap, rfl, hl, hkl, c0, c1, c2, c3, c4, c5⟩ := hv.item hk
  simp only at c0 c1 c2 c3 c4 c5
  have i1 : (k : Int) < (l.length : Int) := by omega
  have i2 : (0 : Int) ≤ k := by omega
  have i3 : ((m : Int) + 1 == 0) = false := beq_eq_false_iff_ne.2 (by omega)
  have i4 : (l.length : Int) ≤ 1000000 := by omega
  have i5 : (m : Int) < 1000 := by omega
  have H := Lib.hid e
  clear e hv hk ih
  go_enter Tryz.func54, Tryz.ntmps54
  go_wp2_with fail
  change Calls _ _ _ (ofBox w ⟨5, op, n, t, i, x⟩ ⟨5, op, 0, 0, 0, 0⟩) _
  have hS := ofBox_node w ⟨5, op, n, t, i, x⟩ ⟨5, op, 0, 0, 0, 0⟩
  have hz := ofBox_size w ⟨5, op, n, t, i, x⟩ ⟨5, op, 0, 0, 0, 0⟩
  have hlow := ofBox_low w ⟨5, op, n, t, i, x⟩ ⟨5, op, 0, 0, 0, 0⟩
  generalize ofBox w ⟨5, op, n, t, i, x⟩ ⟨5, op, 0, 0, 0, 0⟩ = W at hS hz hlow ⊢
  refine (hih.out W hlow).mono ?_
  rintro e w1 ⟨p, rfl, hT, hb⟩
  obtain ⟨pp, rfl, _⟩ := hT.tree.ptr
  have S1 := Lib.hid (hS.below hb hS.lt)
  have HL := Lib.hid (hlow.trans (hb.mono hlow.size))
  have q6 : w1.cell? ⟨w.heap.size + 1, 6, none⟩ = some (.pointer none) := S1.out.cell 6
  have f6 := S1.out.free 6
  have hlt := S1.out.lt
  have hz1 : w.heap.size + 2 ≤ w1.heap.size := by have := hb.size; omega
  rw [hz] at hT
  have HT := Lib.hid hT
  clear hT hb hlow hS hz
  generalize (ofF l m (k + 1)).2 = j at H hj hih2 ⊢
  generalize (ofF l m (k + 1)).1 = t1 at H HT
  have j0 : (0 : Int) ≤ j := by omega
  go_wp2_with fail
  have S2 := Lib.hid (show Sits (w1.setCell ⟨w.heap.size + 1, 6, none⟩ (.pointer pp)) (w.heap.size + 1) 58 (exprCells ⟨5, op, 0, 0, 0, 0⟩ (.pointer pp) (.pointer none)) from S1.out.put 6 _)
  have HL2 := Lib.hid (HL.out.setCell (p := ⟨w.heap.size + 1, 6, none⟩) (by simp) (.pointer pp))
  have HT2 := Lib.hid (HT.out.far (g := w.heap.size + 1) (by omega) 6 (.pointer pp) (Nat.le_refl _))
  have hz2 : (w1.setCell ⟨w.heap.size + 1, 6, none⟩ (.pointer pp)).heap.size = w1.heap.size := by simp [World.setCell]
  clear q6 f6 hlt
  generalize w1.setCell ⟨w.heap.size + 1, 6, none⟩ (.pointer pp) = W2 at S2 HL2 HT2 hz2 ⊢
  clear S1 HL HT
  refine (hih2.out W2 HL2.out).mono ?_
  rintro e w3 ⟨p3, rfl, hT, hb⟩
  obtain ⟨pq, rfl, _⟩ := hT.tree.ptr
  have S3 := Lib.hid (S2.out.below hb S2.out.lt)
  have q7 : w3.cell? ⟨w.heap.size + 1, 7, none⟩ = some (.pointer none) := S3.out.cell 7
  have f7 := S3.out.free 7
  have hlt := S3.out.lt
  have HT3 := Lib.hid hT
  have HB := Lib.hid hb
  have hz3 : w.heap.size + 2 ≤ W2.heap.size := by omega
  clear hT hb hz2
  generalize (ofF l m j).2 = j2 at H ⊢
  generalize (ofF l m j).1 = t2 at H HT3
  go_wp2_with fail
  go_ret2
  exact of_fin2 H.out S2.out HT2.out HT3.out HL2.out hz3 HB.out

theorem of_any (l : List It) : ∀ (m k : Nat) (v : Value) (w : World), m < 1000 → Row w v l → Calls Tryz.prog 54 #[v, .int .i64 (k : Nat), .int .i64 (m : Nat)] w (OfMade l m k w) := by
  intro m
  induction m with
  | zero => intro k v w _ hv; exact of_zero l k v w hv
  | succ m ih =>
    intro k v w hm hv
    cases hk : l[k]? with
    | none => exact of_none l k (m + 1) v w hv hk
    | some a =>
      obtain ⟨q, op, n, t, i, x⟩ := a
      by_cases h0 : q = 0
      · subst h0; exact of_leaf0 l k m v w hv op n t i x hk
      by_cases h1 : q = 1
      · subst h1; exact of_leaf1 l k m v w hv op n t i x hk
      by_cases h2 : q = 2
      · subst h2; exact of_leaf2 l k m v w hv op n t i x hk
      by_cases h3 : q = 3
      · subst h3; exact of_leaf3 l k m v w hv op n t i x hk
      by_cases h4 : q = 4
      · subst h4; exact of_one l k m (by omega) v w hv op n t i x hk (Lib.hid fun k w h => ih k v w (by omega) h)
      by_cases h5 : q = 5
      · subst h5; exact of_two l k m (by omega) v w hv op n t i x hk (Lib.hid fun k w h => ih k v w (by omega) h)
      · exact of_leaf6 l k m v w hv q (by omega) op n t i x hk
end Go.Proofs.YtpdpofoicdijlaaGreatDoor.Expr
