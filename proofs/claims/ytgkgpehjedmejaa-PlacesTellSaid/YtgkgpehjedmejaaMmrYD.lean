/- Layer 11 (memory): the document's Fulfil. -/
import Derived.Test.YtgkgpehjedmejaaMmrYB
namespace Go.Proofs.Ytgkgpehjedmejaa.Mmr
open Go.RowKit Go.Proofs.Ytgkgpehjedmejaa.Mem Go.Proofs.Ytgkgpehjedmejaa.Flow

abbrev zeroDm : Array Value := #[.int .i64 0, .slice none 0 0]
/-- A memory of the document's came back, and an errno. -/
def GivesDE (r : Dm × Int) (w : World) (e : Ending) (w' : World) : Prop := ∃ q c, e = .returned (.tuple #[dmV q c r.1, .int .i64 r.2]) ∧ HoldD w' q c r.1 ∧ Below w.heap.size w w'
theorem dmSize : (Try.prog.info? 30).map (·.size) = some 2 := by kernel_rfl
theorem dm_one (q : Option Addr) (c : Nat) (m : Dm) : (dmCells q c m).all (·.oneCell') = true := by simp [dmCells, Value.oneCell']
structure DEnd (w : World) (q : Option Addr) (c : Nat) (m : Dm) (z : Array Value) (W : World) : Prop where
  at4 : Sits W w.heap.size 30 (dmCells q c m)
  at8 : Sits W (w.heap.size + 1) 30 z
  low : Below w.heap.size w W
theorem DEnd.grown {w W W' : World} {q : Option Addr} {c : Nat} {m : Dm} {z : Array Value} (h : DEnd w q c m z W) (hb : Below W.heap.size W W') : DEnd w q c m z W' :=
  ⟨h.at4.below hb h.at4.lt, h.at8.below hb h.at8.lt, h.low.trans (hb.mono h.low.size)⟩
/-- A row lies as it did if a block of another type is written. -/
theorem rts_row {W : World} {g : Nat} {r : Option Addr} {l : List It} (h : Rts W r l) (hf : ∀ (k : Nat) x o' g', l[k]? = some x → r = some ⟨g', o', none⟩ → g' ≠ g) (cs' : Array Value) : Rts (W.setRow g cs') r l := fun k x hx => by
  obtain ⟨g', o', e, hg, hc⟩ := h k x hx
  have hne := hf k x o' g' hx e
  exact ⟨g', o', e, by simpa [World.setRow] using hg, fun i hi => by
    rw [← hc i hi]
    exact World.cell?_of_block (a := ⟨g', o' + k * 14 + i, none⟩) (setRow_other W g g' cs' hne)⟩
/-- Where the items lie is no block of a memory: its second cell is a slice, which no item has. -/
theorem rts_far {W : World} {g : Nat} {t : TypeId} {cs : Array Value} {r : Option Addr} {l : List It} (h : Rts W r l) (hs : Sits W g t cs) (hc : ∀ u ∈ cs.toList, ∀ k z, u = .int k z → k = .i64) : ∀ (k : Nat) x o' g', l[k]? = some x → r = some ⟨g', o', none⟩ → g' ≠ g := fun k x o' g' hx e => by
  obtain ⟨g2, o2, e2, hg, hcc⟩ := h k x hx
  rw [e] at e2
  injection e2 with e2
  injection e2 with e2 e3
  subst e2 e3
  rintro rfl
  have h3 := hcc 3 (by decide)
  have h3' : W.cell? ⟨g', o' + k * 14 + 3, none⟩ = some (.int .u64 x.n) := h3
  rw [hs.cell] at h3'
  have := hc _ (Array.mem_toList_iff.2 (Array.mem_of_getElem? h3')) .u64 x.n rfl
  cases this
theorem dm_plain (q : Option Addr) (c : Nat) (m : Dm) : ∀ u ∈ (dmCells q c m).toList, ∀ k z, u = .int k z → k = .i64 := by
  intro u hu k z e
  subst e
  simp at hu
  exact hu.1
theorem zeroDm_plain : ∀ u ∈ zeroDm.toList, ∀ k z, u = .int k z → k = .i64 := by
  intro u hu k z e
  subst e
  simp at hu
  exact hu.1
theorem DEnd.out {w W : World} {q : Option Addr} {c : Nat} {m : Dm} (h : DEnd w q c m zeroDm W) {q2 : Option Addr} {c2 : Nat} {m2 : Dm} (hh : HoldD W q2 c2 m2) (a : Int) :
    GivesDE (m2, a) w (.returned (.tuple #[dmV q2 c2 m2, .int .i64 a])) (W.setRow (w.heap.size + 1) (dmCells q2 c2 m2)) ∧ Sits (W.setRow (w.heap.size + 1) (dmCells q2 c2 m2)) (w.heap.size + 1) 30 (dmCells q2 c2 m2) :=
  ⟨⟨q2, c2, rfl, ⟨rts_row hh.row (rts_far hh.row h.at8 zeroDm_plain) _, hh.cap⟩, row_low h.low (by omega) _⟩, setRow_heap W _ _ _ _ _ h.at8⟩
theorem set_low {B : Nat} {w W : World} (h : Below B w W) {g : Nat} (hg : B ≤ g) (i : Nat) (u : Value) : Below B w (W.setCell ⟨g, i, none⟩ u) :=
  ⟨h.os, h.tape, h.output, by simpa [World.setCell] using h.size, fun b hb => (Below.heap_setCell W ⟨g, i, none⟩ u b (by show b ≠ g; omega)).trans (h.block b hb)⟩
def freeL (l : List It) (i : Nat) : List It := l.take i ++ ((l[i]?).toList.map freeI) ++ l.drop (i + 1)
theorem freeL_at {l : List It} {i : Nat} {y : It} (hy : l[i]? = some y) (k : Nat) : (freeL l i)[k]? = if k = i then some (freeI y) else l[k]? := by
  have hil := (List.getElem?_eq_some_iff.1 hy).1
  unfold freeL
  rw [hy]
  simp only [Option.toList_some, List.map_cons, List.map_nil]
  have ht : (l.take i).length = i := by rw [List.length_take]; omega
  rw [List.append_assoc]
  by_cases hk : k < i
  · rw [List.getElem?_append_left (by omega), List.getElem?_take_of_lt hk, if_neg (by omega)]
  · rw [List.getElem?_append_right (by omega), ht]
    by_cases e : k = i
    · subst e; simp
    · rw [if_neg e, List.singleton_append, show k - i = (k - i - 1) + 1 by omega, List.getElem?_cons_succ, List.getElem?_drop]
      congr 1; omega
theorem freeL_len {l : List It} {i : Nat} {y : It} (hy : l[i]? = some y) : (freeL l i).length = l.length := by
  have hil := (List.getElem?_eq_some_iff.1 hy).1
  unfold freeL; rw [hy]; simp; omega
theorem rts_free {W : World} {g : Nat} {cur : Array Value} {l : List It} {i : Nat} {y : It} (hS : Sits W g 60 cur) (h : Rts W (some ⟨g, 0, none⟩) l) (hy : l[i]? = some y) :
    Rts (W.setCell ⟨g, i * 14 + 13, none⟩ (.int .i64 (-1))) (some ⟨g, 0, none⟩) (freeL l i) := fun k x hx => by
  have hS2 := hS.put (i * 14 + 13) (.int .i64 (-1))
  have at_ : ∀ (k : Nat) (x : It), l[k]? = some x → ∀ j, j < 14 → cur[k * 14 + j]? = (rtCells x)[j]? := fun k x hx j hj => by
    obtain ⟨g', o', e, _, hc⟩ := h k x hx
    injection e with e; injection e with e1 e2; subst e1 e2
    rw [← hc j hj, Nat.zero_add, hS.cell]
  refine ⟨g, 0, rfl, hS2.lt, fun j hj => ?_⟩
  rw [Nat.zero_add, hS2.cell, Array.getElem?_setIfInBounds]
  rw [freeL_at hy] at hx
  by_cases e : k = i
  · subst e
    rw [if_pos rfl] at hx
    injection hx with hx; subst hx
    have h13 := at_ k y hy
    by_cases hj13 : j = 13
    · subst hj13
      have hlt : k * 14 + 13 < cur.size := by
        have h0 := h13 13 (by decide)
        exact (Array.getElem?_eq_some_iff.1 (h0.trans (show (rtCells y)[13]? = some (.int .i64 y.owner) from rfl))).1
      rw [if_pos rfl, if_pos hlt]; rfl
    · rw [if_neg (by omega), h13 j hj]
      obtain rfl | rfl | rfl | rfl | rfl | rfl | rfl | rfl | rfl | rfl | rfl | rfl | rfl : j = 0 ∨ j = 1 ∨ j = 2 ∨ j = 3 ∨ j = 4 ∨ j = 5 ∨ j = 6 ∨ j = 7 ∨ j = 8 ∨ j = 9 ∨ j = 10 ∨ j = 11 ∨ j = 12 := by omega
      all_goals rfl
  · rw [if_neg e] at hx
    rw [if_neg (by omega), at_ k x hx j hj]
theorem cut2_sits {size B : Nat} {w : World} {r : Option Addr} {n d : Nat} {e : TypeId} {xs : List Value} (h : Cut2 e size B w r n d xs) (hn : 0 < n) : ∃ g cur, r = some ⟨g, 0, none⟩ ∧ B ≤ g ∧ Sits w g e cur := by
  obtain ⟨_, h | ⟨g, cap, cur, e1, h2, h3, _⟩⟩ := h.own
  · omega
  · injection e1 with e1; exact ⟨g, cur, e1, h2, h3⟩
end Go.Proofs.Ytgkgpehjedmejaa.Mmr
