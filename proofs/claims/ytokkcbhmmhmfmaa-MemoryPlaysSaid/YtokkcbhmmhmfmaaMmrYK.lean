/- Layer 11 (memory): rows of memories that the law keeps: append into one's own row whose block holds no complex numbers and no words; the rows of items lie elsewhere. -/
import Derived.Test.YtokkcbhmmhmfmaaMmrYJ
namespace Go.Proofs.Ytokkcbhmmhmfmaa.Mmr
open Go.RowKit Go.Proofs.Ytokkcbhmmhmfmaa.Mem Go.Proofs.Ytokkcbhmmhmfmaa.Flow

/-- A cell of no item: no complex number, and whole numbers are ints. -/
def dull (u : Value) : Prop := (∀ k x y, u ≠ .complex k x y) ∧ ∀ k z, u = .int k z → k = .i64
/-- The block of a row holds such cells alone. -/
def Dull (w : World) (r : Option Addr) : Prop := ∀ g o s, r = some ⟨g, o, s⟩ → ∃ cur t, w.heap[g]? = some (.cells cur t (0, 0)) ∧ ∀ u ∈ cur.toList, dull u
theorem Dull.none (w : World) : Dull w none := fun g o s h => by cases h
theorem Dull.grown {w w' : World} {r : Option Addr} {row : Option Nat} (h : Dull w r) (hg : w.grownBy w' row) (hf : ∀ g o s, r = some ⟨g, o, s⟩ → row ≠ some g) : Dull w' r := fun g o s e => by
  obtain ⟨cur, t, hc, hu⟩ := h g o s e
  exact ⟨cur, t, (hg.block g (lt_of_block hc) (fun e' => hf g o s e e'.symm)).trans hc, hu⟩
theorem Dull.below {w w' : World} {r : Option Addr} (h : Dull w r) (hb : Below w.heap.size w w') : Dull w' r := fun g o s e => by
  obtain ⟨cur, t, hc, hu⟩ := h g o s e
  exact ⟨cur, t, (hb.block g (lt_of_block hc)).trans hc, hu⟩
theorem dull_cell {w : World} {r : Option Addr} (h : Dull w r) {g o : Nat} {s : Option Nat} (e : r = some ⟨g, o, s⟩) {i : Nat} {u : Value} (hc : w.cell? ⟨g, i, .none⟩ = some u) : dull u := by
  obtain ⟨cur, t, hg, hu⟩ := h g o s e
  refine hu u ?_
  unfold World.cell? at hc
  rw [hg] at hc
  have hc' : cur[i]? = some u := by simpa using hc
  rw [← Array.getElem?_toList] at hc'
  exact List.mem_of_getElem? hc'
/-- A row of items lies in another block. -/
theorem its_off {w : World} {p r : Option Addr} {l : List It} (h : Its w p l) (hd : Dull w r) : ∀ (k : Nat) x g o g' o' s', l[k]? = some x → p = some ⟨g, o, .none⟩ → r = some ⟨g', o', s'⟩ → g ≠ g' := fun k x g o g' o' s' hx e e' => by
  obtain ⟨g2, o2, e2, _, hc⟩ := h k x hx
  rw [e] at e2; injection e2 with e2; injection e2 with e2 e3; subst e2 e3
  rintro rfl
  have h1 := dull_cell hd e' (hc 1 (by omega))
  exact h1.1 _ _ _ rfl
theorem rts_off {w : World} {p r : Option Addr} {l : List It} (h : Rts w p l) (hd : Dull w r) : ∀ (k : Nat) x g o g' o' s', l[k]? = some x → p = some ⟨g, o, .none⟩ → r = some ⟨g', o', s'⟩ → g ≠ g' := fun k x g o g' o' s' hx e e' => by
  obtain ⟨g2, o2, e2, _, hc⟩ := h k x hx
  rw [e] at e2; injection e2 with e2; injection e2 with e2 e3; subst e2 e3
  rintro rfl
  have h1 := dull_cell hd e' (hc 3 (by omega))
  exact absurd (h1.2 _ _ rfl) (by decide)
theorem own_is {r : Option Addr} {n d g : Nat} (h : (Value.slice r n d).ownBlock = some g) : ∃ o s, r = some ⟨g, o, s⟩ := by
  cases r with
  | none => simp [Value.ownBlock] at h
  | some a => obtain ⟨g', o, s⟩ := a; simp [Value.ownBlock] at h; subst h; exact ⟨o, s, rfl⟩
theorem its_grown {W W' : World} {p r : Option Addr} {n d : Nat} {l : List It} (h : Its W p l) (hd : Dull W r) (hg : W.grownBy W' (Value.slice r n d).ownBlock) : Its W' p l := fun k x hx => by
  obtain ⟨g, o, e, hlt, hc⟩ := h k x hx
  refine ⟨g, o, e, Nat.lt_of_lt_of_le hlt hg.size, fun i hi => (World.cell?_of_block (a := ⟨g, o + k * 13 + i, .none⟩) (hg.block g hlt fun e' => ?_)).trans (hc i hi)⟩
  obtain ⟨o', s', e2⟩ := own_is e'.symm
  exact its_off h hd k x g o g o' s' hx e e2 rfl
theorem rtsd_grown {W W' : World} {p r : Option Addr} {n d : Nat} {l : List It} (h : Rts W p l) (hd : Dull W r) (hg : W.grownBy W' (Value.slice r n d).ownBlock) : Rts W' p l := fun k x hx => by
  obtain ⟨g, o, e, hlt, hc⟩ := h k x hx
  refine ⟨g, o, e, Nat.lt_of_lt_of_le hlt hg.size, fun i hi => (World.cell?_of_block (a := ⟨g, o + k * 14 + i, .none⟩) (hg.block g hlt fun e' => ?_)).trans (hc i hi)⟩
  obtain ⟨o', s', e2⟩ := own_is e'.symm
  exact rts_off h hd k x g o g o' s' hx e e2 rfl
/-- What append leaves: the row's block holds such cells alone, where what came in and what is zero are such. -/
theorem append_dull {P : Program} {t e : TypeId} {size bytes : Nat} (T : RowT P t e size bytes) (hz : ∀ i z, P.info? e = some i → i.zero = some z → ∀ u ∈ z.cells.toList, dull u) (ty : TypeId) {B : Nat} {w : World} {r : Option Addr} {n d : Nat} {xs : List Value} (h : Cut2 e size B w r n d xs) (hD : Dull w r)
    (g : Nat) (c : Nat) (ys : List Value) (hy : ys.length = 1 * size) (hq : Lay w (some ⟨g, 0, .none⟩) ys) (h1 : ∀ u ∈ ys, u.oneCell' = true) (hyd : ∀ u ∈ ys, dull u) (h63 : n + 1 ≤ maxLen) (hb : (n + 1) * bytes ≤ 140737488355328)
    {r' : Option Addr} {d' : Nat} {w' : World} (hr : (Builtin.append_ #[t, t] ty #[.slice r n d, .slice (some ⟨g, 0, .none⟩) 1 c]).run P w = .ok (.slice r' (n + 1) d') w') : Dull w' r' := by
  obtain ⟨i, z, hi, hzi, hs, hby, hzs⟩ := T.info
  subst hs hby
  have hzd := hz i z hi hzi
  have hnews : ∀ j u, ys[j]? = some u → w.cell? ((⟨g, 0, .none⟩ : Addr).add j) = some u := fun j u hu => by
    obtain ⟨g', o', e', _, hcu⟩ := hq j u hu
    injection e' with e'; injection e' with e1 e2; subst e1 e2
    rw [Addr.add_lit]; exact hcu
  have hzz : ∀ m, ∀ u ∈ (Builtin.zeroCells z.cells m).toList, dull u := fun m u hu => by
    simp only [Builtin.zeroCells, Array.toList_map, List.mem_map] at hu
    obtain ⟨j, hj, rfl⟩ := hu
    have hj' : j < m * z.cells.size := by simpa using hj
    have hp : 0 < z.cells.size := by rw [hzs]; exact T.pos
    rw [getElem!_pos z.cells _ (Nat.mod_lt j hp)]
    exact hzd _ (by simp)
  have fin : ∀ (ol : List Value) (m : Nat), (∀ u ∈ ol, dull u) → ∀ (g2 o s) (W : World), r' = some ⟨g2, o, s⟩ → r' = some ⟨w.heap.size, 0, .none⟩ → w' = w.drew.alloc (.cells (ol.toArray ++ ys.toArray ++ Builtin.zeroCells z.cells m) e) → ∃ cur t, w'.heap[g2]? = some (.cells cur t (0, 0)) ∧ ∀ u ∈ cur.toList, dull u := fun ol m hol g2 o s W e1 e2 e3 => by
    rw [e1] at e2; injection e2 with e2; injection e2 with e2; subst e2
    rw [e3]
    refine ⟨_, _, heap_alloc_new w.drew _, fun u hu => ?_⟩
    simp only [Array.toList_append, List.mem_append] at hu
    rcases hu with (hu | hu) | hu
    · exact hol u hu
    · exact hyd u hu
    · exact hzz m u hu
  obtain ⟨hlen, ⟨hv, hn⟩ | ⟨g0, cap, cur, e1, hB, hg, hnc, hcm, hcs, htake⟩⟩ := h.own
  · injection hv with hv1 hv2 hv3
    subst hv1 hv2 hv3
    have hr2 := run_append_nil (P := P) w t ty e i z T.row hi hzi ⟨g, 0, .none⟩ 1 c ys hy hnews (by omega) (by omega) (by simp only [Nat.zero_add] at hb; omega)
    simp only [Nat.zero_add] at hr
    rw [hr] at hr2
    injection hr2 with h2 h3
    injection h2 with h4 _ _
    intro g2 o s e2
    exact fin [] (grownCap w 1 0 e - 1) (by simp) g2 o s w e2 h4 (by rw [h3]; simp)
  · injection e1 with e1 _ e3
    subst e1 e3
    by_cases hroom : n + 1 ≤ d
    · have hfit : n * i.size + ys.length ≤ cur.size := by rw [hy, hcs, ← Nat.add_mul]; exact Nat.mul_le_mul_right _ hroom
      have hr2 := run_append_room (P := P) w t ty e i T.row hi g0 n d cur hg ⟨g, 0, .none⟩ 1 c ys hy hnews h1 hroom hfit
      rw [hr] at hr2
      injection hr2 with h2 h3
      injection h2 with h4 _ _
      intro g2 o s e2
      rw [h4] at e2; injection e2 with e2; injection e2 with e2; subst e2
      rw [h3]
      refine ⟨_, _, setRow_heap w g0 cur _ e _ hg, fun u hu => ?_⟩
      obtain ⟨cur', t', hg', hu'⟩ := hD g0 0 .none rfl
      rw [hg] at hg'; injection hg' with hg'; injection hg' with hg' _ _; subst hg'
      simp only [List.mem_append] at hu
      rcases hu with (hu | hu) | hu
      · exact hu' u (List.mem_of_mem_take hu)
      · exact hyd u hu
      · exact hu' u (List.mem_of_mem_drop hu)
    · have holds : ∀ j u, xs[j]? = some u → w.cell? ((⟨g0, 0, .none⟩ : Addr).add j) = some u := fun j u hu => by
        obtain ⟨g', o', e', _, hcu⟩ := h.lay j u hu
        injection e' with e'; injection e' with e1 e2; subst e1 e2
        rw [Addr.add_lit]; exact hcu
      have hr2 := run_append_grow (P := P) w t ty e i z T.row hi hzi ⟨g0, 0, .none⟩ n d xs hlen holds ⟨g, 0, .none⟩ 1 c ys hy hnews (by omega) (by simp only [maxLen] at h63; omega) (growslice_fits (by omega) hb)
      rw [hr] at hr2
      injection hr2 with h2 h3
      injection h2 with h4 _ _
      intro g2 o s e2
      refine fin xs _ (fun u hu => ?_) g2 o s w e2 h4 h3
      obtain ⟨cur', t', hg', hu'⟩ := hD g0 0 .none rfl
      rw [hg] at hg'; injection hg' with hg'; injection hg' with hg' _ _; subst hg'
      rw [← htake] at hu
      exact hu' u (List.mem_of_mem_take hu)
end Go.Proofs.Ytokkcbhmmhmfmaa.Mmr
