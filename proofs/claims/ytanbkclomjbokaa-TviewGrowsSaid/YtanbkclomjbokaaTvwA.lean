/- Layer 13 (tview): views of six parts in memory: loads and stores of one part, of all; what an operation yields; may. -/
import Derived.Test.YtanbkclomjbokaaVewD
import Derived.Test.YtanbkclomjbokaaFlowM
import Derived.Deep.MidRow
namespace Go.Proofs.Ytanbkclomjbokaa.Tvw
open Go.RowKit Go.Proofs.Ytanbkclomjbokaa.Mem Go.Proofs.Ytanbkclomjbokaa.Flow Go.Proofs.Ytanbkclomjbokaa.Vew

/-- A view's cells, closed. -/
def vwC (f : Nat → Int) : Array Value := vewCells f
theorem vwC_eq (f : Nat → Int) : vwC f = vewCells f := rfl
theorem vwC_size (f : Nat → Int) : (vwC f).size = 8 := rfl
theorem vwC_at (f : Nat → Int) (i : Nat) (h : i < 8) : (vwC f)[i]? = some (.int .i64 (f i)) := at8 f i h
theorem vwC_one (f : Nat → Int) : (vwC f).all (·.oneCell') = true := vew_one f
/-- Six views' cells, closed. -/
def vsC (V : Nat → Nat → Int) : Array Value := ((List.range 48).map fun i => Value.int .i64 (V (i / 8) (i % 8))).toArray
theorem vsC_size (V : Nat → Nat → Int) : (vsC V).size = 48 := by simp [vsC]
theorem vsC_get (V : Nat → Nat → Int) (i : Nat) (h : i < 48) : (vsC V)[i]? = some (.int .i64 (V (i / 8) (i % 8))) := by simp [vsC, h]
theorem vsC_at (V : Nat → Nat → Int) (k i o : Nat) (hk : k < 6) (h : i < 8) (ho : o = 8 * k + i) : (vsC V)[o]? = some (.int .i64 (V k i)) := by
  subst ho
  rw [vsC_get V _ (by omega), show (8 * k + i) / 8 = k by omega, show (8 * k + i) % 8 = i by omega]
theorem vsC_one (V : Nat → Nat → Int) : (vsC V).all (·.oneCell') = true := by
  unfold vsC
  rw [Array.all_eq_true']
  intro v hv
  simp only [List.mem_toArray, List.mem_map] at hv
  obtain ⟨i, _, rfl⟩ := hv
  rfl
/-- Another view in one place. -/
def setV (V : Nat → Nat → Int) (k : Nat) (f : Nat → Int) : Nat → Nat → Int := fun j => if j = k then f else V j
theorem setV_same (V : Nat → Nat → Int) (k : Nat) (f : Nat → Int) : setV V k f k = f := by simp [setV]
theorem setV_other (V : Nat → Nat → Int) (k j : Nat) (f : Nat → Int) (h : j ≠ k) : setV V k f j = V j := by simp [setV, h]
def cell1 (V : Nat → Nat → Int) (k i : Nat) (x : Int) : Nat → Nat → Int := fun j m => if j = k ∧ m = i then x else V j m
theorem vsC_put (V : Nat → Nat → Int) (k i o : Nat) (x : Int) (hi : i < 8) (ho : o = 8 * k + i) : (vsC V).setIfInBounds o (.int .i64 x) = vsC (cell1 V k i x) := by
  subst ho
  apply Array.ext
  · simp [vsC_size]
  · intro j h1 h2
    have hj : j < 48 := by rw [vsC_size] at h2; exact h2
    have e2 : (vsC (cell1 V k i x))[j]? = some (.int .i64 (cell1 V k i x (j / 8) (j % 8))) := vsC_get _ j hj
    have e1 : ((vsC V).setIfInBounds (8 * k + i) (.int .i64 x))[j]? = some (.int .i64 (cell1 V k i x (j / 8) (j % 8))) := by
      rw [Array.getElem?_setIfInBounds]
      unfold cell1
      by_cases h : 8 * k + i = j
      · subst h
        rw [if_pos rfl, if_pos (by rw [vsC_size]; omega), if_pos (by omega)]
      · rw [if_neg h, if_neg (by omega), vsC_get V j hj]
    rw [Array.getElem?_eq_getElem h1] at e1
    rw [Array.getElem?_eq_getElem h2] at e2
    injection e1.trans e2.symm
theorem cell1_all (V : Nat → Nat → Int) (k : Nat) (f : Nat → Int) (j m : Nat) (hm : m < 8) :
    cell1 (cell1 (cell1 (cell1 (cell1 (cell1 (cell1 (cell1 V k 0 (f 0)) k 1 (f 1)) k 2 (f 2)) k 3 (f 3)) k 4 (f 4)) k 5 (f 5)) k 6 (f 6)) k 7 (f 7) j m = setV V k f j m := by
  unfold cell1 setV
  by_cases hj : j = k
  · subst hj
    simp only [true_and, if_true]
    rcases (by omega : m = 0 ∨ m = 1 ∨ m = 2 ∨ m = 3 ∨ m = 4 ∨ m = 5 ∨ m = 6 ∨ m = 7) with rfl | rfl | rfl | rfl | rfl | rfl | rfl | rfl <;> simp
  · simp [hj]
theorem vsC_congr {V V' : Nat → Nat → Int} (h : ∀ j m, j < 6 → m < 8 → V j m = V' j m) : vsC V = vsC V' := by
  unfold vsC
  congr 1
  apply List.map_congr_left
  intro i hi
  rw [h (i / 8) (i % 8) (by have := List.mem_range.1 hi; omega) (by omega)]
section
variable {W W' : World} {g : Nat} {t : TypeId} {V : Nat → Nat → Int}
theorem sits_range {cs : Array Value} (h : Sits W g t cs) : W.rangeAt g 0 cs.toList := fun j v hv => by
  rw [Nat.zero_add, h.cell j, ← Array.getElem?_toList]; exact hv
theorem vs_range (h : Sits W g t (vsC V)) (k o : Nat) (hk : k < 6) (ho : o = 8 * k) : W.rangeAt g o (vwC (V k)).toList := fun j v hv => by
  have hj : j < 8 := by
    have := (List.getElem?_eq_some_iff.1 hv).1
    simpa [vwC_size] using this
  rw [h.cell, vsC_at V k j _ hk hj (by omega), ← vwC_at _ j hj, ← Array.getElem?_toList]; exact hv
theorem vs_there (h : Sits W g t (vsC V)) (k o n : Nat) (hk : k < 6) (ho : o = 8 * k) (hn : n = 8) : W.there g o n := fun j hj => by
  refine ⟨?_, h.free _⟩
  rw [h.cell, vsC_at V k j _ hk (by omega) (by omega)]; rfl
theorem vs_set (h : Sits W g t (vsC V)) (k o : Nat) (f : Nat → Int) (ho : o = 8 * k) : Sits (W.setCells g o (vwC f).toList) g t (vsC (setV V k f)) := by
  subst ho
  have H : Sits (W.setCells g (8 * k) (vwC f).toList) g t (vsC (cell1 (cell1 (cell1 (cell1 (cell1 (cell1 (cell1 (cell1 V k 0 (f 0)) k 1 (f 1)) k 2 (f 2)) k 3 (f 3)) k 4 (f 4)) k 5 (f 5)) k 6 (f 6)) k 7 (f 7))) := by
    have p0 := h.put (8 * k) (.int .i64 (f 0)); rw [vsC_put V k 0 _ _ (by omega) (by omega)] at p0
    have p1 := p0.put (8 * k + 1) (.int .i64 (f 1)); rw [vsC_put _ k 1 _ _ (by omega) (by omega)] at p1
    have p2 := p1.put (8 * k + 1 + 1) (.int .i64 (f 2)); rw [vsC_put _ k 2 _ _ (by omega) (by omega)] at p2
    have p3 := p2.put (8 * k + 1 + 1 + 1) (.int .i64 (f 3)); rw [vsC_put _ k 3 _ _ (by omega) (by omega)] at p3
    have p4 := p3.put (8 * k + 1 + 1 + 1 + 1) (.int .i64 (f 4)); rw [vsC_put _ k 4 _ _ (by omega) (by omega)] at p4
    have p5 := p4.put (8 * k + 1 + 1 + 1 + 1 + 1) (.int .i64 (f 5)); rw [vsC_put _ k 5 _ _ (by omega) (by omega)] at p5
    have p6 := p5.put (8 * k + 1 + 1 + 1 + 1 + 1 + 1) (.int .i64 (f 6)); rw [vsC_put _ k 6 _ _ (by omega) (by omega)] at p6
    have p7 := p6.put (8 * k + 1 + 1 + 1 + 1 + 1 + 1 + 1) (.int .i64 (f 7)); rw [vsC_put _ k 7 _ _ (by omega) (by omega)] at p7
    exact p7
  rwa [vsC_congr (fun j m _ hm => cell1_all V k f j m hm)] at H
theorem setCells_other (b : Nat) : ∀ (l : List Value) (o : Nat) (W : World) (k : Nat), k ≠ b → (W.setCells b o l).heap[k]? = W.heap[k]?
  | [], _, _, _, _ => rfl
  | v :: l, o, W, k, h => by
    rw [World.setCells, setCells_other b l _ _ k h]
    exact Below.heap_setCell W _ v k h
theorem setCells_size (b : Nat) : ∀ (l : List Value) (o : Nat) (W : World), (W.setCells b o l).heap.size = W.heap.size
  | [], _, _ => rfl
  | v :: l, o, W => by rw [World.setCells, setCells_size b l]; simp [World.setCell]
theorem setCells_os (b : Nat) : ∀ (l : List Value) (o : Nat) (W : World), (W.setCells b o l).os = W.os ∧ (W.setCells b o l).tape = W.tape ∧ (W.setCells b o l).output = W.output
  | [], _, _ => ⟨rfl, rfl, rfl⟩
  | v :: l, o, W => by rw [World.setCells]; exact setCells_os b l _ _
/-- A store into one block turns no other one. -/
theorem keeps_setCells (W : World) (g o : Nat) (l : List Value) : Keeps (· = g) W (W.setCells g o l) :=
  ⟨(setCells_os g l o W).1, (setCells_os g l o W).2.1, (setCells_os g l o W).2.2, by rw [setCells_size]; exact Nat.le_refl _, fun b _ hn => setCells_other g l o W b hn⟩
theorem keeps_setRow (W : World) (g : Nat) (cs : Array Value) : Keeps (· = g) W (W.setRow g cs) :=
  ⟨rfl, rfl, rfl, by simp [World.setRow], fun b _ hn => setRow_other W g b cs hn⟩
end

theorem keeps_new_row {X : Nat → Prop} {w W : World} {g : Nat} {cs : Array Value} (h : Keeps X w W) (hg : w.heap.size ≤ g) : Keeps X w (W.setRow g cs) :=
  ⟨h.os, h.tape, h.output, by simpa [World.setRow] using h.size, fun b hb hn => (setRow_other W g b cs (by omega)).trans (h.block b hb hn)⟩
theorem keeps_new_cells {X : Nat → Prop} {w W : World} {g o : Nat} {l : List Value} (h : Keeps X w W) (hg : w.heap.size ≤ g) : Keeps X w (W.setCells g o l) :=
  have k := keeps_setCells W g o l
  ⟨k.os.trans h.os, k.tape.trans h.tape, k.output.trans h.output, by rw [setCells_size]; exact h.size, fun b hb hn => (k.block b (Nat.lt_of_lt_of_le hb h.size) (by omega)).trans (h.block b hb hn)⟩
/-! ### What loads yield, whatever the cells -/
section
variable {P : Program} {o : Oper} {A : Act} {W : World}
theorem y_load {ty : TypeId} {k : Nat} (ho : o.op = .load ty (.tmp k)) {g off : Nat} (hx : A.tmps[k]?.getD undef = .pointer (some ⟨g, off, none⟩)) {cs : Array Value} {d : TypeDesc} (hc : W.rangeAt g off cs.toList)
    (hu : P.underlying ty = some d) (hd : d.isRow = true) (hi : (P.info? ty).map (·.size) = some cs.size) : Flow.Yields P (fun u w' => u = .agg cs ∧ Below W.heap.size W w') ((execOp A.eval o).run P W) := by
  unfold execOp
  simp only [ho, eval_form, hx, Instr.loadAt, Instr.sureAddr, Sem.run_bind, Sem.run_pure, Result.andThen_ok, run_loadVar_mid W g off ty cs.toList d hc hu hd (by simpa using hi)]
  exact ⟨by simp, Below.refl _ _⟩
end
theorem vsSize : (Try.prog.info? 29).map (·.size) = some 48 := by kernel_rfl
theorem arrvSize : (Try.prog.info? 27).map (·.size) = some 32 := by kernel_rfl
theorem y_one {o : Oper} {A : Act} {W : World} {k : Nat} {f : Nat → Int} (ho : o.op = .buildSlice 66 1 #[(0, .tmp k)]) (hx : A.tmps[k]?.getD undef = .agg (vwC f)) :
    Flow.Yields Try.prog (fun u w' => rowV 26 1 (vwC f) u w' ∧ Below W.heap.size W w') ((execOp A.eval o).run Try.prog W) := by
  have hx' : A.tmps[k]?.getD undef = vewV f := hx
  clear hx
  unfold execOp
  rw [ho]
  go_simp
  exact ⟨⟨_, rfl, Sits.new _ _ _⟩, (Below.refl _ _).alloc (Nat.le_refl _) _⟩
theorem y_oneB {o : Oper} {A : Act} {W : World} {k B : Nat} {f : Nat → Int} (hz : B ≤ W.heap.size) (ho : o.op = .buildSlice 66 1 #[(0, .tmp k)]) (hx : A.tmps[k]?.getD undef = .agg (vwC f)) :
    Flow.Yields Try.prog (fun u w' => rowB B 26 1 (vwC f) u w' ∧ Below W.heap.size W w') ((execOp A.eval o).run Try.prog W) := by
  have hx' : A.tmps[k]?.getD undef = vewV f := hx
  clear hx
  unfold execOp
  rw [ho]
  go_simp
  exact ⟨⟨_, hz, rfl, Sits.new _ _ _⟩, (Below.refl _ _).alloc (Nat.le_refl _) _⟩
section
variable {P : Program} {o : Oper} {A : Act} {W : World} {B : Nat} {p : Value → World → Prop} {M' : World → Prop}
theorem keepsB_row {g : Nat} {cs : Array Value} (hB : g < B) : Keeps (fun b => b < B) W (W.setRow g cs) := (keeps_setRow W g cs).wider (fun b _ h => by rw [h]; exact hB)
theorem keepsB_cells {g off : Nat} {l : List Value} (hB : g < B) : Keeps (fun b => b < B) W (W.setCells g off l) := (keeps_setCells W g off l).wider (fun b _ h => by rw [h]; exact hB)
/-- A store into a whole block. -/
theorem y_store {ty : TypeId} {a b : Nat} (ho : o.op = .store ty (.tmp a) (.tmp b)) {g : Nat} {cells old : Array Value} {t : TypeId} (hx : A.tmps[a]?.getD undef = .pointer (some ⟨g, 0, none⟩)) (hy : A.tmps[b]?.getD undef = .agg cells)
    (hg : Sits W g t old) (hi : (P.info? ty).map (·.size) = some cells.size) (hold : old.size = cells.size) (h1 : cells.all (·.oneCell') = true) (hB : g < B) (hp : ∀ u w, p u w) (hM : M' (W.setRow g cells)) :
    YieldsW P (fun u w' => p u w' ∧ Keeps (fun b => b < B) W w' ∧ M' w') ((execOp A.eval o).run P W) := by
  unfold execOp
  simp only [ho, eval_form, hx, hy, Instr.storeAt, Instr.sureAddr, Sem.run_bind, Sem.run_pure, Result.andThen_ok, run_storeVar_row W g t ty old cells hg hi hold h1]
  exact ⟨hp _ _, keepsB_row hB, hM⟩
/-- A store of one view into six. -/
theorem y_storeK {ty : TypeId} {a b : Nat} (ho : o.op = .store ty (.tmp a) (.tmp b)) {g off k : Nat} {f : Nat → Int} {V : Nat → Nat → Int} {t : TypeId} (hx : A.tmps[a]?.getD undef = .pointer (some ⟨g, off, none⟩)) (hy : A.tmps[b]?.getD undef = .agg (vwC f))
    (hg : Sits W g t (vsC V)) (hk : k < 6) (hoff : off = 8 * k) (hi : (P.info? ty).map (·.size) = some 8) (hB : g < B) (hp : ∀ u w, p u w) (hM : M' (W.setCells g off (vwC f).toList)) :
    YieldsW P (fun u w' => p u w' ∧ Keeps (fun b => b < B) W w' ∧ M' w') ((execOp A.eval o).run P W) := by
  unfold execOp
  simp only [ho, eval_form, hx, hy, Instr.storeAt, Instr.sureAddr, Sem.run_bind, Sem.run_pure, Result.andThen_ok, run_storeVar_mid W g off ty (vwC f) (vs_there hg k off _ hk hoff (vwC_size f)) (by rw [vwC_size]; exact hi) (vwC_one f)]
  exact ⟨hp _ _, keepsB_cells hB, hM⟩
end
def lowT (loc to : Int) : Bool := decide (0 ≤ loc) && decide (loc < 4) && decide (0 ≤ to)
set_option maxRecDepth 100000 in
theorem may2_any (loc tt : Int) (w : World) :
    Calls Try.prog 27 #[.int .i64 loc, .int .i64 tt] w fun e w' => e = .returned (.bool (lowT loc tt)) ∧ w' = w := by
  by_cases h1 : 0 ≤ loc
  · by_cases h2 : loc < 4
    · by_cases h3 : 0 ≤ tt
      · have e : lowT loc tt = true := by simp [lowT, h1, h2, h3]
        rw [e]; clear e
        go_enter Try.func27, Try.ntmps27
        go_wp2
        go_ret
        exact ⟨rfl, rfl⟩
      · have e : lowT loc tt = false := by simp [lowT, h3]
        rw [e]; clear e
        go_enter Try.func27, Try.ntmps27
        go_wp2
        go_ret
        exact ⟨rfl, rfl⟩
    · have e : lowT loc tt = false := by simp [lowT, h2]
      rw [e]; clear e
      go_enter Try.func27, Try.ntmps27
      go_wp2
      go_ret
      exact ⟨rfl, rfl⟩
  · have e : lowT loc tt = false := by simp [lowT, h1]
    rw [e]; clear e
    go_enter Try.func27, Try.ntmps27
    go_wp2
    go_ret
    exact ⟨rfl, rfl⟩
end Go.Proofs.Ytanbkclomjbokaa.Tvw
