/- Layer 11 (memory): last, At, Last. -/
import Derived.Test.YtgkgpehjedmejaaMmrL
namespace Go.Proofs.Ytgkgpehjedmejaa.Mmr
open Go.RowKit Go.Shelf Go.Proofs.Ytgkgpehjedmejaa.Mem Go.Proofs.Ytgkgpehjedmejaa.Flow
attribute [local go_sem] Oper.semAt_some

theorem wpListIn_store_row {F : Fence} {n : Nat} {P : Program} {ops : Array Oper} {rest : List Oper} {o : Oper} {a : Act} {w : World} {Q : Exit → Act → World → Prop} (hgd : o.guard = none) (ty : TypeId) (x y : Operand) (ho : o.op = .store ty x y)
    (g : Nat) (cells : Array Value) (hx : a.eval x = .pointer (some ⟨g, 0, none⟩)) (hy : a.eval y = .agg cells)
    (t : TypeId) (old : Array Value) (hg : w.heap[g]? = some (.cells old t (0, 0))) (hi : (P.info? ty).map (·.size) = some cells.size)
    (hold : old.size = cells.size) (h1 : cells.all (·.oneCell') = true)
    (h : wpListIn F n P ops Q rest (a.put o.dst undef) (w.setRow g cells)) : wpListIn F n P ops Q (o :: rest) a w := by
  refine wpListIn_plain hgd fun K hK' => ?_
  unfold Oper.wpIn
  refine ⟨by simp [Oper.about, ho], ?_⟩
  rw [Oper.semAt_plain F _ _ (by rw [ho]; intro c hc'; cases hc')]
  unfold execOp
  simp only [ho, hx, hy, Instr.storeAt, Instr.sureAddr, Sem.run_bind, Sem.run_pure, Result.andThen_ok, run_storeVar_row w g t ty old cells hg hi hold h1]
  exact hK' _ _ h
theorem itAt_below {w w' : World} {g q : Nat} {x : It} {B : Nat} (h : ItAt w g q x) (hb : Below B w w') (hg : g < B) : ItAt w' g q x := by
  have d : ∀ i, w'.cell? ⟨g, i, none⟩ = w.cell? ⟨g, i, none⟩ := fun i => hb.cell (p := ⟨g, i, none⟩) hg
  unfold ItAt at h ⊢
  simp only [d]
  exact h
theorem zero_one : zeroIt.all (·.oneCell') = true := by simp [Value.oneCell']
def itO : Option It → Value
  | some x => itV x
  | none => .agg zeroIt
/-- An item came back, or none. -/
def GivesI (r : Option It) (w : World) : Ending → World → Prop := Made (.returned (.tuple #[itO r, .bool r.isSome])) w
theorem find_rev {L : It → Prop} {l : List It} {ψ : It → Bool} {ini : List (Round L)} {last : Round L} {t : Nat} (h : (ini ++ [last]).map (·.1.2) = l.take t) (hi : ∀ x ∈ ini, ψ x.1.2 = false) (hl : ψ last.1.2 = true) : l.find? ψ = some last.1.2 := by
  rw [← List.take_append_drop t l, ← h, List.map_append, List.find?_append, List.find?_append]
  have e : (ini.map (·.1.2)).find? ψ = none := by
    rw [List.find?_eq_none]
    intro x hx
    obtain ⟨y, hy, rfl⟩ := List.mem_map.1 hx
    rw [hi y hy]; simp
  rw [e]
  simp [hl]
theorem find_none {L : It → Prop} {l : List It} {ψ : It → Bool} {ys : List (Round L)} (h : ys.map (·.1.2) = l) (hi : ∀ x ∈ ys, ψ x.1.2 = false) : l.find? ψ = none := by
  rw [← h, List.find?_eq_none]
  intro x hx
  obtain ⟨y, hy, rfl⟩ := List.mem_map.1 hx
  rw [hi y hy]; simp
theorem zeroAt {w : World} {g : Nat} (h : Sits w g 52 zeroIt) :
    w.cell? ⟨g, 0, none⟩ = some (.int .i64 0) ∧ w.cell? ⟨g, 1, none⟩ = some (.complex .f64 0 0) ∧ w.cell? ⟨g, 2, none⟩ = some (.int .u64 0) ∧
    w.cell? ⟨g, 3, none⟩ = some (.int .i64 0) ∧ w.cell? ⟨g, 4, none⟩ = some (.int .i64 0) ∧ w.cell? ⟨g, 5, none⟩ = some (.int .i64 0) ∧ w.cell? ⟨g, 6, none⟩ = some (.int .i64 0) ∧
    w.cell? ⟨g, 7, none⟩ = some (.int .i64 0) ∧ w.cell? ⟨g, 8, none⟩ = some (.int .i64 0) ∧ w.cell? ⟨g, 9, none⟩ = some (.int .i64 0) ∧ w.cell? ⟨g, 10, none⟩ = some (.int .i64 0) ∧
    w.cell? ⟨g, 11, none⟩ = some (.bool false) ∧ w.cell? ⟨g, 12, none⟩ = some (.int .i64 0) :=
  ⟨h.cell 0, h.cell 1, h.cell 2, h.cell 3, h.cell 4, h.cell 5, h.cell 6, h.cell 7, h.cell 8, h.cell 9, h.cell 10, h.cell 11, h.cell 12⟩
structure LastAt (w : World) (p : Nat → Option Addr) (c : Nat → Nat) (m : Mm) (fv : Value) (z : Array Value) (b : Bool) (W : World) : Prop where
  at3 : Sits W w.heap.size 28 (memCells p c m)
  at5 : Sits W (w.heap.size + 1) 69 #[fv]
  at6 : Sits W (w.heap.size + 1 + 1) 52 z
  at7 : Sits W (w.heap.size + 1 + 1 + 1) 4 #[.bool b]
  low : Below w.heap.size w W
section
variable {w W W' : World} {p : Nat → Option Addr} {c : Nat → Nat} {m : Mm} {fv : Value} {z : Array Value} {b : Bool}
theorem LastAt.grown (h : LastAt w p c m fv z b W) (hb : Below W.heap.size W W') : LastAt w p c m fv z b W' :=
  ⟨h.at3.below hb h.at3.lt, h.at5.below hb h.at5.lt, h.at6.below hb h.at6.lt, h.at7.below hb h.at7.lt, h.low.trans (hb.mono h.low.size)⟩
theorem LastAt.put6 (h : LastAt w p c m fv z b W) (z' : Array Value) : LastAt w p c m fv z' b (W.setRow (w.heap.size + 1 + 1) z') :=
  ⟨(setRow_other W _ _ _ (by omega)).trans h.at3, (setRow_other W _ _ _ (by omega)).trans h.at5, setRow_heap W _ _ _ _ _ h.at6, (setRow_other W _ _ _ (by omega)).trans h.at7, row_low h.low (by omega) _⟩
theorem LastAt.put7 (h : LastAt w p c m fv z b W) (b' : Bool) : LastAt w p c m fv z b' (W.setCell ⟨w.heap.size + 1 + 1 + 1, 0, none⟩ (.bool b')) :=
  ⟨h.at3.far (show w.heap.size ≠ w.heap.size + 1 + 1 + 1 by omega) _, h.at5.far (show w.heap.size + 1 ≠ w.heap.size + 1 + 1 + 1 by omega) _, h.at6.far (show w.heap.size + 1 + 1 ≠ w.heap.size + 1 + 1 + 1 by omega) _, h.at7.put 0 _, h.low.setCell (p := ⟨w.heap.size + 1 + 1 + 1, 0, none⟩) (by show w.heap.size ≤ w.heap.size + 1 + 1 + 1; omega) _⟩
theorem sits_from {β : Type} (B g : Nat) (t : TypeId) (f : β → Array Value) : OwnFrom B (fun s W => Sits W g t (f s)) := fun s W W' row hs hg hr =>
  hs.grown hg (fun e => by
    obtain ⟨_, o, ho, hc⟩ := hr g e
    unfold Sits at hs
    rw [hs] at ho
    injection ho with ho
    subst ho
    simp [Obj.isCells] at hc)
theorem lastAt_from {β : Type} (B : Nat) (hB : w.heap.size ≤ B) (z : β → Array Value) (b : Bool) : OwnFrom B (fun s W => LastAt w p c m fv (z s) b W) := fun s W W' row hs hg hr =>
  ⟨sits_from B _ _ (fun _ : Unit => memCells p c m) () W W' row hs.at3 hg hr, sits_from B _ _ (fun _ : Unit => #[fv]) () W W' row hs.at5 hg hr, sits_from B _ _ z s W W' row hs.at6 hg hr, sits_from B _ _ (fun _ : Unit => #[Value.bool b]) () W W' row hs.at7 hg hr,
    hs.low.grown hg hs.low.size (fun k e => by have := (hr k e).1; omega)⟩
end
theorem LastAt.taken {w W : World} {p : Nat → Option Addr} {c : Nat → Nat} {m : Mm} {fv : Value} {z : Array Value} {b : Bool} (h : LastAt w p c m fv z b W) {D : Nat} (hD : w.heap.size + 4 ≤ D) (o : Obj) : LastAt w p c m fv z b (W.putObj D o) :=
  ⟨(World.putObj_heap_other (by omega)).trans h.at3, (World.putObj_heap_other (by omega)).trans h.at5, (World.putObj_heap_other (by omega)).trans h.at6, (World.putObj_heap_other (by omega)).trans h.at7,
    h.low.grown (grownBy_putObj' W D o) h.low.size (fun k e => by cases e; omega)⟩
theorem keeps_below {B : Nat} {W W' : World} (h : Below W.heap.size W W') : KeepsFrom B W W' := ⟨h.size, fun k o _ hk _ => (h.block k (by
  rcases Nat.lt_or_ge k W.heap.size with hlt | hge
  · exact hlt
  · rw [Array.getElem?_eq_none hge] at hk; cases hk)).trans hk⟩
theorem keeps_cells {B g : Nat} {W : World} {t : TypeId} {cs : Array Value} (h : Sits W g t cs) (cs' : Array Value) : KeepsFrom B W (W.setRow g cs') := ⟨by simp [World.setRow], fun k o _ hk ho => by
  by_cases e : k = g
  · subst e; unfold Sits at h; rw [h] at hk; injection hk with hk; subst hk; simp [Obj.isCells] at ho
  · exact (setRow_other W _ _ _ e).trans hk⟩
end Go.Proofs.Ytgkgpehjedmejaa.Mmr
