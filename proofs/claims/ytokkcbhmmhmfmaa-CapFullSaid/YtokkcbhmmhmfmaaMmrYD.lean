/- Layer 11 (memory): the document's Fulfil. -/
import Derived.Test.YtokkcbhmmhmfmaaMmrYB
namespace Go.Proofs.Ytokkcbhmmhmfmaa.Mmr
open Go.RowKit Go.Proofs.Ytokkcbhmmhmfmaa.Mem Go.Proofs.Ytokkcbhmmhmfmaa.Flow

abbrev zeroDm : Array Value := #[.int .i64 0, .slice none 0 0]
/-- A memory of the document's came back, and an errno. -/
def GivesDE (r : Dm × Int) (w : World) (e : Ending) (w' : World) : Prop := ∃ q c, e = .returned (.tuple #[dmV q c r.1, .int .i64 r.2]) ∧ HoldD w' q c r.1 ∧ Below w.heap.size w w'
theorem dmSize : (Try.prog.info? 37).map (·.size) = some 2 := by kernel_rfl
theorem dm_one (q : Option Addr) (c : Nat) (m : Dm) : (dmCells q c m).all (·.oneCell') = true := by simp [dmCells, Value.oneCell']
structure DEnd (w : World) (q : Option Addr) (c : Nat) (m : Dm) (z : Array Value) (W : World) : Prop where
  at4 : Sits W w.heap.size 37 (dmCells q c m)
  at8 : Sits W (w.heap.size + 1) 37 z
  low : Below w.heap.size w W
theorem DEnd.grown {w W W' : World} {q : Option Addr} {c : Nat} {m : Dm} {z : Array Value} (h : DEnd w q c m z W) (hb : Below W.heap.size W W') : DEnd w q c m z W' :=
  ⟨h.at4.below hb h.at4.lt, h.at8.below hb h.at8.lt, h.low.trans (hb.mono h.low.size)⟩
/-- A row lies as it did if a block of another type is written. -/
theorem rts_row {W : World} {g : Nat} {r : Option Addr} {l : List It} (h : Rts W r l) (hf : ∀ (k : Nat) x o' g', l[k]? = some x → r = some ⟨g', o', none⟩ → g' ≠ g) (cs' : Array Value) : Rts (W.setRow g cs') r l := fun k x hx => by
  obtain ⟨g', o', e, hg, hc⟩ := h k x hx
  have hne := hf k x o' g' hx e
  exact ⟨g', o', e, by simpa [World.setRow] using hg, fun i hi => by
    rw [← hc i hi]
    exact World.cell?_of_block (a := ⟨g', o' + k * 14 + i, none⟩) (setRow_other W g g' cs' hne)⟩
/-- Where the items lie is no block of a memory: its second cell is a slice, which no item has. -/
theorem rts_far {W : World} {g : Nat} {t : TypeId} {cs : Array Value} {r : Option Addr} {l : List It} (h : Rts W r l) (hs : Sits W g t cs) (hc : ∀ u ∈ cs.toList, ∀ k z, u = .int k z → k = .i64) : ∀ (k : Nat) x o' g', l[k]? = some x → r = some ⟨g', o', none⟩ → g' ≠ g := fun k x o' g' hx e => by
  obtain ⟨g2, o2, e2, hg, hcc⟩ := h k x hx
  rw [e] at e2
  injection e2 with e2
  injection e2 with e2 e3
  subst e2 e3
  rintro rfl
  have h3 := hcc 3 (by decide)
  have h3' : W.cell? ⟨g', o' + k * 14 + 3, none⟩ = some (.int .u64 x.n) := h3
  rw [hs.cell] at h3'
  have := hc _ (Array.mem_toList_iff.2 (Array.mem_of_getElem? h3')) .u64 x.n rfl
  cases this
theorem dm_plain (q : Option Addr) (c : Nat) (m : Dm) : ∀ u ∈ (dmCells q c m).toList, ∀ k z, u = .int k z → k = .i64 := by
  intro u hu k z e
  subst e
  simp at hu
  exact hu.1
theorem zeroDm_plain : ∀ u ∈ zeroDm.toList, ∀ k z, u = .int k z → k = .i64 := by
  intro u hu k z e
  subst e
  simp at hu
  exact hu.1
theorem DEnd.out {w W : World} {q : Option Addr} {c : Nat} {m : Dm} (h : DEnd w q c m zeroDm W) {q2 : Option Addr} {c2 : Nat} {m2 : Dm} (hh : HoldD W q2 c2 m2) (a : Int) :
    GivesDE (m2, a) w (.returned (.tuple #[dmV q2 c2 m2, .int .i64 a])) (W.setRow (w.heap.size + 1) (dmCells q2 c2 m2)) ∧ Sits (W.setRow (w.heap.size + 1) (dmCells q2 c2 m2)) (w.heap.size + 1) 37 (dmCells q2 c2 m2) :=
  ⟨⟨q2, c2, rfl, ⟨rts_row hh.row (rts_far hh.row h.at8 zeroDm_plain) _, hh.cap⟩, row_low h.low (by omega) _⟩, setRow_heap W _ _ _ _ _ h.at8⟩
theorem set_low {B : Nat} {w W : World} (h : Below B w W) {g : Nat} (hg : B ≤ g) (i : Nat) (u : Value) : Below B w (W.setCell ⟨g, i, none⟩ u) :=
  ⟨h.os, h.tape, h.output, by simpa [World.setCell] using h.size, fun b hb => (Below.heap_setCell W ⟨g, i, none⟩ u b (by show b ≠ g; omega)).trans (h.block b hb)⟩
def freeL (l : List It) (i : Nat) : List It := l.take i ++ ((l[i]?).toList.map freeI) ++ l.drop (i + 1)
theorem freeL_at {l : List It} {i : Nat} {y : It} (hy : l[i]? = some y) (k : Nat) : (freeL l i)[k]? = if k = i then some (freeI y) else l[k]? := by
  have hil := (List.getElem?_eq_some_iff.1 hy).1
  unfold freeL
  rw [hy]
  simp only [Option.toList_some, List.map_cons, List.map_nil]
  have ht : (l.take i).length = i := by rw [List.length_take]; omega
  rw [List.append_assoc]
  by_cases hk : k < i
  · rw [List.getElem?_append_left (by omega), List.getElem?_take_of_lt hk, if_neg (by omega)]
  · rw [List.getElem?_append_right (by omega), ht]
    by_cases e : k = i
    · subst e; simp
    · rw [if_neg e, List.singleton_append, show k - i = (k - i - 1) + 1 by omega, List.getElem?_cons_succ, List.getElem?_drop]
      congr 1; omega
theorem freeL_len {l : List It} {i : Nat} {y : It} (hy : l[i]? = some y) : (freeL l i).length = l.length := by
  have hil := (List.getElem?_eq_some_iff.1 hy).1
  unfold freeL; rw [hy]; simp; omega
theorem rts_free {W : World} {g : Nat} {cur : Array Value} {l : List It} {i : Nat} {y : It} (hS : Sits W g 47 cur) (h : Rts W (some ⟨g, 0, none⟩) l) (hy : l[i]? = some y) :
    Rts (W.setCell ⟨g, i * 14 + 13, none⟩ (.int .i64 (-1))) (some ⟨g, 0, none⟩) (freeL l i) := fun k x hx => by
  have hS2 := hS.put (i * 14 + 13) (.int .i64 (-1))
  have at_ : ∀ (k : Nat) (x : It), l[k]? = some x → ∀ j, j < 14 → cur[k * 14 + j]? = (rtCells x)[j]? := fun k x hx j hj => by
    obtain ⟨g', o', e, _, hc⟩ := h k x hx
    injection e with e; injection e with e1 e2; subst e1 e2
    rw [← hc j hj, Nat.zero_add, hS.cell]
  refine ⟨g, 0, rfl, hS2.lt, fun j hj => ?_⟩
  rw [Nat.zero_add, hS2.cell, Array.getElem?_setIfInBounds]
  rw [freeL_at hy] at hx
  by_cases e : k = i
  · subst e
    rw [if_pos rfl] at hx
    injection hx with hx; subst hx
    have h13 := at_ k y hy
    by_cases hj13 : j = 13
    · subst hj13
      have hlt : k * 14 + 13 < cur.size := by
        have h0 := h13 13 (by decide)
        exact (Array.getElem?_eq_some_iff.1 (h0.trans (show (rtCells y)[13]? = some (.int .i64 y.owner) from rfl))).1
      rw [if_pos rfl, if_pos hlt]; rfl
    · rw [if_neg (by omega), h13 j hj]
      obtain rfl | rfl | rfl | rfl | rfl | rfl | rfl | rfl | rfl | rfl | rfl | rfl | rfl : j = 0 ∨ j = 1 ∨ j = 2 ∨ j = 3 ∨ j = 4 ∨ j = 5 ∨ j = 6 ∨ j = 7 ∨ j = 8 ∨ j = 9 ∨ j = 10 ∨ j = 11 ∨ j = 12 := by omega
      all_goals rfl
  · rw [if_neg e] at hx
    rw [if_neg (by omega), at_ k x hx j hj]
theorem cut2_sits {size B : Nat} {w : World} {r : Option Addr} {n d : Nat} {e : TypeId} {xs : List Value} (h : Cut2 e size B w r n d xs) (hn : 0 < n) : ∃ g cur, r = some ⟨g, 0, none⟩ ∧ B ≤ g ∧ Sits w g e cur := by
  obtain ⟨_, h | ⟨g, cap, cur, e1, h2, h3, _⟩⟩ := h.own
  · omega
  · injection e1 with e1; exact ⟨g, cur, e1, h2, h3⟩
set_option maxRecDepth 100000 in
set_option maxHeartbeats 4000000 in
theorem dfulfil_any (q : Option Addr) (c : Nat) (m : Dm) (hn : m.l.length ≤ 1000) (loc te owner : Int) (w : World) (hH : HoldD w q c m) :
    Calls Try.prog 12 #[dmV q c m, .int .i64 loc, .int .i64 te, .int .i64 owner] w (GivesDE (dFulfil m loc te owner) w) := by
  have H0 : Hid (DEnd w q c m zeroDm ((w.alloc (.cells (dmCells q c m) 37)).alloc (.cells zeroDm 37))) := Lib.hid
    ⟨(Sits.new _ _ _).alloc _, Sits.made (by simp) _ _, two_low _ _ _⟩
  have HH := Lib.hid hH
  have HN := Lib.hid hn
  clear hH hn
  go_enter Try.func12, Try.ntmps12
  go_upto_region 1 with (fail)
  generalize ((w.alloc (.cells (dmCells q c m) 37)).alloc (.cells zeroDm 37)) = w0 at H0 ⊢
  have b0 : w0.cell? ⟨w.heap.size, 0, none⟩ = some (.int .i64 (m.n : Nat)) := H0.out.at4.cell 0
  have b1 : w0.cell? ⟨w.heap.size, 1, none⟩ = some (.slice q m.l.length c) := H0.out.at4.cell 1
  have lb := H0.out.at4.lt
  by_cases hl : dHas m loc = true
  rotate_left
  · rw [Bool.not_eq_true] at hl
    have HR : Hid (dFulfil m loc te owner = (m, 1)) := Lib.hid (by unfold dFulfil; rw [if_pos hl])
    have HG := Lib.hid (H0.out.out (HH.out.below H0.out.low) 1)
    have hl' := of_decide_eq_false hl
    clear hl
    by_cases h0 : loc < 0
    · clear hl'
      go_wp2_with (refine wpList_store_row rfl 37 _ _ rfl (w.heap.size + 1) (dmCells q c m) rfl rfl 37 _ H0.out.at8 dmSize rfl (dm_one _ _ _) ?_)
      generalize w0.setRow (w.heap.size + 1) (dmCells q c m) = W3 at HG ⊢
      clear b0 b1 lb
      have s := HG.out.2
      have b0 : W3.cell? ⟨w.heap.size + 1, 0, none⟩ = some (.int .i64 (m.n : Nat)) := s.cell 0
      have b1 : W3.cell? ⟨w.heap.size + 1, 1, none⟩ = some (.slice q m.l.length c) := s.cell 1
      clear s
      exact bodyPost_ret (v := .tuple #[dmV q c m, .int .i64 1]) (by simp [results, Try.results12, go_sem, b0, b1]) rfl (by rw [HR.out]; exact HG.out.1)
    · have h1 : ¬ loc < (m.n : Int) := by omega
      have h2 : (m.n : Int) ≤ loc := by omega
      clear hl'
      go_wp2_with (refine wpList_store_row rfl 37 _ _ rfl (w.heap.size + 1) (dmCells q c m) rfl rfl 37 _ H0.out.at8 dmSize rfl (dm_one _ _ _) ?_)
      generalize w0.setRow (w.heap.size + 1) (dmCells q c m) = W3 at HG ⊢
      clear b0 b1 lb
      have s := HG.out.2
      have b0 : W3.cell? ⟨w.heap.size + 1, 0, none⟩ = some (.int .i64 (m.n : Nat)) := s.cell 0
      have b1 : W3.cell? ⟨w.heap.size + 1, 1, none⟩ = some (.slice q m.l.length c) := s.cell 1
      clear s
      exact bodyPost_ret (v := .tuple #[dmV q c m, .int .i64 1]) (by simp [results, Try.results12, go_sem, b0, b1]) rfl (by rw [HR.out]; exact HG.out.1)
  obtain ⟨l0, l1⟩ := of_decide_eq_true hl
  obtain ⟨k, rfl⟩ : ∃ k : Nat, loc = (k : Nat) := ⟨loc.toNat, by omega⟩
  have HL := Lib.hid hl
  have HC := Lib.hid (downed_any q c m HN.out (k : Int) te owner false w0 (HH.out.below H0.out.low))
  clear hl
  go_wp2_with fail
  refine HC.out.mono ?_
  rintro e w1 ⟨rfl, hb⟩
  have H1 := Lib.hid (H0.out.grown hb)
  clear hb HC H0 b0 b1 lb
  have b0 : w1.cell? ⟨w.heap.size, 0, none⟩ = some (.int .i64 (m.n : Nat)) := H1.out.at4.cell 0
  have b1 : w1.cell? ⟨w.heap.size, 1, none⟩ = some (.slice q m.l.length c) := H1.out.at4.cell 1
  have lb := H1.out.at4.lt
  cases hd : m.l.findIdx? (ownD (k : Nat) te owner false) with
  | none =>
    have HR : Hid (dFulfil m (k : Nat) te owner = (m, 6)) := Lib.hid (by unfold dFulfil; rw [if_neg (by rw [HL.out]; simp), hd])
    have HG := Lib.hid (H1.out.out (HH.out.below H1.out.low) 6)
    have hi : idxF (ownD (k : Nat) te owner false) m.l = -1 := by unfold idxF; rw [hd]
    rw [hi]
    clear hd hi
    go_wp2_with (refine wpList_store_row rfl 37 _ _ rfl (w.heap.size + 1) (dmCells q c m) rfl rfl 37 _ H1.out.at8 dmSize rfl (dm_one _ _ _) ?_)
    generalize w1.setRow (w.heap.size + 1) (dmCells q c m) = W3 at HG ⊢
    clear b0 b1 lb
    have s := HG.out.2
    have b0 : W3.cell? ⟨w.heap.size + 1, 0, none⟩ = some (.int .i64 (m.n : Nat)) := s.cell 0
    have b1 : W3.cell? ⟨w.heap.size + 1, 1, none⟩ = some (.slice q m.l.length c) := s.cell 1
    clear s
    exact bodyPost_ret (v := .tuple #[dmV q c m, .int .i64 6]) (by simp [results, Try.results12, go_sem, b0, b1]) rfl (by rw [HR.out]; exact HG.out.1)
  | some i =>
    have HD := Lib.hid hd
    obtain ⟨y, hy, hφ, hs⟩ := idx_split hd
    have hi : idxF (ownD (k : Nat) te owner false) m.l = (i : Nat) := by unfold idxF; rw [hd]
    rw [hi]
    have hil := (List.getElem?_eq_some_iff.1 hy).1
    have i0 : (0 : Int) ≤ (i : Int) := by omega
    have i1 : (i : Int) < (m.l.length : Int) := by omega
    have i2 : (m.l.length : Int) ≤ 1000 := by have := HN.out; omega
    have HY := Lib.hid hy
    have HIL := Lib.hid hil
    clear hd hi hs hφ hy hil
    go_wp2_with (at_builtin; refine wpList_append_cut2 rowRt rfl _ _ rfl (B := w1.heap.size) (r := none) (n := 0) (d := 0) (xs := cellsOf rtL []) rfl (nil_cut _ _ _ _) (Nat.le_refl _) q m.l.length c (cellsOf rtL m.l) rfl (by rw [cells_len rtL_len]) (HH.out.row.below H1.out.low).lay (rts_one _) (by unfold maxLen; have := HN.out; omega) (by have := HN.out; omega) ?_)
    intro r1 d1 w2 _ _ hb2 hc2
    have H2 := Lib.hid (H1.out.grown hb2)
    have HC2 : Hid (Cut2 47 14 w1.heap.size w2 r1 m.l.length d1 (cellsOf rtL m.l)) := Lib.hid hc2
    clear hb2 hc2 b0 b1 lb
    have b0 : w2.cell? ⟨w.heap.size, 0, none⟩ = some (.int .i64 (m.n : Nat)) := H2.out.at4.cell 0
    have b1 : w2.cell? ⟨w.heap.size, 1, none⟩ = some (.slice q m.l.length c) := H2.out.at4.cell 1
    have lb := H2.out.at4.lt
    obtain ⟨g1, cur, rfl, hg1, hS1⟩ := cut2_sits HC2.out (by omega)
    have fz1 : w2.frozen? ⟨w.heap.size, 1, none⟩ = false := H2.out.at4.free 1
    have HG1 : Hid (w.heap.size + 1 < g1) := Lib.hid (by have := H1.out.at8.lt; omega)
    go_upto_region 7 with (fail)
    have HS1 := Lib.hid (hS1.far (p := ⟨w.heap.size, 1, none⟩) (by show g1 ≠ w.heap.size; have := HG1.out; omega) (.slice (some ⟨g1, 0, none⟩) m.l.length d1))
    have H3 : Hid (DEnd w (some ⟨g1, 0, none⟩) d1 m zeroDm (w2.setCell ⟨w.heap.size, 1, none⟩ (.slice (some ⟨g1, 0, none⟩) m.l.length d1))) := Lib.hid
      ⟨H2.out.at4.put 1 _, H2.out.at8.far (by show w.heap.size + 1 ≠ w.heap.size; omega) _, set_low H2.out.low (Nat.le_refl _) _ _⟩
    have HR3 : Hid (Rts (w2.setCell ⟨w.heap.size, 1, none⟩ (.slice (some ⟨g1, 0, none⟩) m.l.length d1)) (some ⟨g1, 0, none⟩) m.l) := Lib.hid fun k' x hx => by
      obtain ⟨g', o', e, hlt, hc⟩ := HC2.out.lay.rts k' x hx
      injection e with e; injection e with e1 e2; subst e1 e2
      exact ⟨g1, 0, rfl, HS1.out.lt, fun j hj => (World.cell?_of_block (a := ⟨g1, 0 + k' * 14 + j, none⟩) (Below.heap_setCell w2 ⟨w.heap.size, 1, none⟩ _ g1 (by show g1 ≠ w.heap.size; have := HG1.out; omega))).trans (hc j hj)⟩
    generalize w2.setCell ⟨w.heap.size, 1, none⟩ (.slice (some ⟨g1, 0, none⟩) m.l.length d1) = W3 at HS1 H3 HR3 ⊢
    clear b0 b1 lb hS1 fz1
    have b0 : W3.cell? ⟨w.heap.size, 0, none⟩ = some (.int .i64 (m.n : Nat)) := H3.out.at4.cell 0
    have b1 : W3.cell? ⟨w.heap.size, 1, none⟩ = some (.slice (some ⟨g1, 0, none⟩) m.l.length d1) := H3.out.at4.cell 1
    have lb := H3.out.at4.lt
    obtain ⟨g', o', e, lg, hc⟩ := HR3.out.there HY.out
    injection e with e; injection e with e1 e2; subst e1 e2
    obtain ⟨c0, c1, c2, c3, c4, c5, c6, c7, c8, c9, c10, c11, c12, c13⟩ := hc
    rw [Nat.zero_add] at c13
    have fz2 : W3.frozen? ⟨g1, i * 14 + 13, none⟩ = false := HS1.out.free _
    have HE : Hid (dmCells (some ⟨g1, 0, none⟩) d1 ⟨m.n, freeL m.l i⟩ = dmCells (some ⟨g1, 0, none⟩) d1 m) := Lib.hid (by simp [dmCells, freeL_len HY.out])
    have HR : Hid (dFulfil m (k : Nat) te owner = (⟨m.n, freeL m.l i⟩, 0)) := Lib.hid (by unfold dFulfil; rw [if_neg (by rw [HL.out]; simp), HD.out]; rfl)
    go_upto_region 8 with (fail)
    have HR4 := Lib.hid (rts_free HS1.out HR3.out HY.out)
    have H4 : Hid (DEnd w (some ⟨g1, 0, none⟩) d1 m zeroDm (W3.setCell ⟨g1, i * 14 + 13, none⟩ (.int .i64 (-1)))) := Lib.hid
      ⟨H3.out.at4.far (by show w.heap.size ≠ g1; have := HG1.out; omega) _, H3.out.at8.far (by show w.heap.size + 1 ≠ g1; have := HG1.out; omega) _, set_low H3.out.low (by have := HG1.out; omega) _ _⟩
    generalize W3.setCell ⟨g1, i * 14 + 13, none⟩ (.int .i64 (-1)) = W4 at HR4 H4 ⊢
    clear b0 b1 lb c0 c1 c2 c3 c4 c5 c6 c7 c8 c9 c10 c11 c12 c13 lg fz2
    have b0 : W4.cell? ⟨w.heap.size, 0, none⟩ = some (.int .i64 (m.n : Nat)) := H4.out.at4.cell 0
    have b1 : W4.cell? ⟨w.heap.size, 1, none⟩ = some (.slice (some ⟨g1, 0, none⟩) m.l.length d1) := H4.out.at4.cell 1
    have lb := H4.out.at4.lt
    have HG := Lib.hid (H4.out.out (m2 := ⟨m.n, freeL m.l i⟩) (q2 := some ⟨g1, 0, none⟩) (c2 := d1) ⟨HR4.out, by show (freeL m.l i).length ≤ d1; rw [freeL_len HY.out]; exact HC2.out.room⟩ 0)
    rw [HE.out] at HG
    go_wp2_with (refine wpList_store_row rfl 37 _ _ rfl (w.heap.size + 1) (dmCells (some ⟨g1, 0, none⟩) d1 m) rfl rfl 37 _ H4.out.at8 dmSize rfl (dm_one _ _ _) ?_)
    generalize W4.setRow (w.heap.size + 1) (dmCells (some ⟨g1, 0, none⟩) d1 m) = W5 at HG ⊢
    clear b0 b1 lb
    have s := HG.out.2
    have b0 : W5.cell? ⟨w.heap.size + 1, 0, none⟩ = some (.int .i64 (m.n : Nat)) := s.cell 0
    have b1 : W5.cell? ⟨w.heap.size + 1, 1, none⟩ = some (.slice (some ⟨g1, 0, none⟩) m.l.length d1) := s.cell 1
    clear s
    exact bodyPost_ret (v := .tuple #[dmV (some ⟨g1, 0, none⟩) d1 m, .int .i64 0]) (by simp [results, Try.results12, go_sem, b0, b1]) rfl (by rw [HR.out, show dmV (some ⟨g1, 0, none⟩) d1 m = dmV (some ⟨g1, 0, none⟩) d1 ⟨m.n, freeL m.l i⟩ from (congrArg Value.agg HE.out).symm]; exact HG.out.1)
end Go.Proofs.Ytokkcbhmmhmfmaa.Mmr
