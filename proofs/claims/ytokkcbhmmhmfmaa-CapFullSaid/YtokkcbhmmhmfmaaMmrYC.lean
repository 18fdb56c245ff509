/- Layer 11 (memory): the document's Last, Owned. -/
import Derived.Test.YtokkcbhmmhmfmaaMmrYB
namespace Go.Proofs.Ytokkcbhmmhmfmaa.Mmr
open Go.RowKit Go.Proofs.Ytokkcbhmmhmfmaa.Mem Go.Proofs.Ytokkcbhmmhmfmaa.Flow

theorem rev_find_hit {φ : It → Bool} {l : List It} {k : Nat} {x : It} (hx : l[k]? = some x) (h : φ x = true) (hb : ∀ j y, k < j → l[j]? = some y → φ y = false) : l.reverse.find? φ = some x := by
  have hk := (List.getElem?_eq_some_iff.1 hx).1
  refine find_hitD (k := l.length - 1 - k) ?_ h fun j y hj hy => ?_
  · rw [List.getElem?_reverse (by omega), show l.length - 1 - (l.length - 1 - k) = k by omega]; exact hx
  · rw [List.getElem?_reverse (by omega)] at hy
    exact hb _ y (by omega) hy
theorem rev_find_off {φ : It → Bool} {l : List It} (hb : ∀ (j : Nat) y, l[j]? = some y → φ y = false) : l.reverse.find? φ = none :=
  List.find?_eq_none.2 fun x hx => by
    obtain ⟨j, hj⟩ := List.mem_iff_getElem?.1 (List.mem_reverse.1 hx)
    rw [hb j x hj]; simp
theorem dlist_len (m : Dm) (loc : Int) : (dList m loc).length ≤ m.l.length := by rw [← outF_all]; exact outF_len m loc _
set_option maxRecDepth 100000 in
set_option maxHeartbeats 4000000 in
theorem dlast_any (q : Option Addr) (c : Nat) (m : Dm) (hn : m.l.length ≤ 1000) (loc : Int) (w : World) (hH : HoldD w q c m) :
    Calls Try.prog 51 #[dmV q c m, .int .i64 loc] w (GivesD (dLast m loc) w) := by
  have H0 : Hid (DAt w q c m zeroRt ((w.alloc (.cells (dmCells q c m) 37)).alloc (.cells zeroRt 47))) := Lib.hid
    ⟨(Sits.new _ _ _).alloc _, Sits.made (by simp) _ _, two_low _ _ _⟩
  have HH := Lib.hid hH
  have HN := Lib.hid hn
  clear hH hn
  go_enter Try.func51, Try.ntmps51
  go_upto_region 1 with (fail)
  generalize ((w.alloc (.cells (dmCells q c m) 37)).alloc (.cells zeroRt 47)) = w0 at H0 ⊢
  have b0 : w0.cell? ⟨w.heap.size, 0, none⟩ = some (.int .i64 (m.n : Nat)) := H0.out.at3.cell 0
  have b1 : w0.cell? ⟨w.heap.size, 1, none⟩ = some (.slice q m.l.length c) := H0.out.at3.cell 1
  have lb := H0.out.at3.lt
  have HC := Lib.hid (dlist_any q c m HN.out loc w0 (HH.out.below H0.out.low))
  go_wp2_with fail
  refine HC.out.mono ?_
  rintro e w1 ⟨r, d, rfl, hr, hb, _⟩
  have HA := Lib.hid (H0.out.grown hb)
  have HR := Lib.hid hr
  have HL := Lib.hid (dlist_len m loc)
  have i1 : ((dList m loc).length : Int) ≤ 1000 := by have := dlist_len m loc; have := HN.out; omega
  have HD : Hid (dLast m loc = (dList m loc).reverse.find? fun y => !y.res) := Lib.hid rfl
  generalize dList m loc = l at HR HL i1 HD
  clear hb hr HC H0 b0 b1 lb
  go_wp2_with fail
  go_loopg [7] (l.length + 1) (fun gg v7 wx => ∃ k, k ≤ l.length ∧ gg = k + 1 ∧ v7 = .int .i64 ((k : Int) - 1) ∧ Hid (∀ (j : Nat) y, k ≤ j → l[j]? = some y → (!y.res) = false) ∧ Hid (DAt w q c m zeroRt wx) ∧ Hid (Rts wx r l))
  case atStart => exact ⟨l.length, by omega, by omega, by go_num, Lib.hid (fun j y h hy => absurd (List.getElem?_eq_some_iff.1 hy).1 (by omega)), HA, HR⟩
  case round =>
    obtain ⟨k, hk, rfl, rfl, HF, HW, HRW⟩ := hrel
    cases k with
    | zero =>
      have HY := Lib.hid (show dLast m loc = none by rw [HD.out]; exact rev_find_off fun j y hy => HF.out j y (Nat.zero_le _) hy)
      clear hk
      go_wp2_with (refine wpList_store_row rfl 47 _ _ rfl (w.heap.size + 1) zeroRt rfl rfl 47 _ HW.out.at6 rtSize rfl zeroRt_one ?_)
      have s6 : Sits (wr.setRow (w.heap.size + 1) (rtCells zeroX)) (w.heap.size + 1) 47 (rtCells zeroX) := setRow_heap wr _ _ _ _ _ HW.out.at6
      have HB := Lib.hid (row_low HW.out.low (by omega : w.heap.size ≤ w.heap.size + 1) (rtCells zeroX))
      rw [zeroX_eq] at HB
      obtain ⟨c0, c1, c2, c3, c4, c5, c6, c7, c8, c9, c10, c11, c12, c13⟩ := rtAt_sits s6
      rw [zeroX_eq] at c0 c1 c2 c3 c4 c5 c6 c7 c8 c9 c10 c11 c12 c13
      generalize wr.setRow (w.heap.size + 1) zeroRt = W2 at c0 c1 c2 c3 c4 c5 c6 c7 c8 c9 c10 c11 c12 c13 HB ⊢
      clear s6
      simp only [zeroX, Vew.zeroF] at c0 c1 c2 c3 c4 c5 c6 c7 c8 c9 c10 c11 c12 c13
      exact bodyPost_ret (v := .tuple #[.agg zeroRt, .bool false]) (by simp [results, Try.results51, go_sem, c0, c1, c2, c3, c4, c5, c6, c7, c8, c9, c10, c11, c12, c13]) rfl (by rw [HY.out]; exact ⟨rfl, HB.out⟩)
    | succ k =>
      rw [show (((k + 1 : Nat) : Int) - 1) = (k : Nat) by omega]
      have hx : l[k]? = some l[k] := List.getElem?_eq_getElem (by omega)
      have HX := Lib.hid hx
      obtain ⟨g, o, rfl, lg, hc⟩ := HRW.out.there hx
      generalize l[k] = x at hx hc HX
      obtain ⟨c0, c1, c2, c3, c4, c5, c6, c7, c8, c9, c10, c11, c12, c13⟩ := hc
      have j1 : (k : Int) < (l.length : Int) := by omega
      have j0 : (0 : Int) ≤ (k : Int) := by omega
      have HK := Lib.hid hk
      clear hx hk
      cases e5 : x.res
      · have HY := Lib.hid (show dLast m loc = some x by rw [HD.out]; exact rev_find_hit HX.out (by rw [e5]; rfl) fun j y hj hy => HF.out j y (by omega) hy)
        rw [e5] at c12
        go_wp2_with (refine wpList_store_row rfl 47 _ _ rfl (w.heap.size + 1) (rtCells x) rfl (by simp [go_sem, e5]) 47 _ HW.out.at6 rtSize rfl (rt_one x) ?_)
        have s6 : Sits (wr.setRow (w.heap.size + 1) (rtCells x)) (w.heap.size + 1) 47 (rtCells x) := setRow_heap wr _ _ _ _ _ HW.out.at6
        have HB := Lib.hid (row_low HW.out.low (by omega : w.heap.size ≤ w.heap.size + 1) (rtCells x))
        generalize wr.setRow (w.heap.size + 1) (rtCells x) = W2 at s6 HB ⊢
        clear c0 c1 c2 c3 c4 c5 c6 c7 c8 c9 c10 c11 c12 c13
        obtain ⟨c0, c1, c2, c3, c4, c5, c6, c7, c8, c9, c10, c11, c12, c13⟩ := rtAt_sits s6
        exact bodyPost_ret (v := .tuple #[rtV x, .bool true]) (by simp [results, Try.results51, go_sem, c0, c1, c2, c3, c4, c5, c6, c7, c8, c9, c10, c11, c12, c13]) rfl (by rw [HY.out]; exact ⟨rfl, HB.out⟩)
      · have HF2 : Hid (∀ (j : Nat) y, k ≤ j → l[j]? = some y → (!y.res) = false) := Lib.hid fun j y hj hy => by
          by_cases hjk : k + 1 ≤ j
          · exact HF.out j y hjk hy
          · obtain rfl : j = k := by omega
            rw [HX.out] at hy; injection hy with hy; rw [← hy, e5]; rfl
        rw [e5] at c12
        go_wp2_with fail
        go_roundg (k + 1)
        case measure => omega
        case rel => exact ⟨k, by have := HK.out; omega, rfl, by go_num, HF2, HW, HRW⟩

/-! ### What is an owner's -/
def ofL (owner : Int) (l : List It) : List It := l.filter fun y => decide (y.owner = owner)
def upO (m : Dm) (owner : Int) (j : Nat) : List It := ofL owner ((List.range j).flatMap fun (i : Nat) => dList m (i : Int))
theorem upO_all (m : Dm) (owner : Int) : upO m owner m.n = dOwned m owner := rfl
theorem upO_succ (m : Dm) (owner : Int) (j : Nat) : upO m owner (j + 1) = upO m owner j ++ ofL owner (dList m (j : Int)) := by
  unfold upO ofL
  rw [List.range_succ, List.flatMap_append, List.filter_append]
  simp
theorem ofL_yes {owner : Int} {l : List It} {k : Nat} {x : It} (h : l[k]? = some x) (hx : x.owner = owner) : ofL owner (l.take (k + 1)) = ofL owner (l.take k) ++ [x] := by
  unfold ofL
  rw [List.take_add_one, h, Option.toList_some, List.filter_append]
  congr 1
  simp [hx]
theorem ofL_no {owner : Int} {l : List It} {k : Nat} {x : It} (h : l[k]? = some x) (hx : x.owner ≠ owner) : ofL owner (l.take (k + 1)) = ofL owner (l.take k) := by
  unfold ofL
  rw [List.take_add_one, h, Option.toList_some, List.filter_append]
  simp [hx]
theorem ofL_len (owner : Int) (l : List It) : (ofL owner l).length ≤ l.length := List.length_filter_le _ _
theorem upO_len (m : Dm) (owner : Int) (j : Nat) : (upO m owner j).length ≤ j * m.l.length := by
  induction j with
  | zero => simp [upO, ofL]
  | succ j ih =>
    rw [upO_succ, List.length_append, Nat.add_mul]
    have := ofL_len owner (dList m (j : Int))
    have := dlist_len m (j : Int)
    omega
set_option maxRecDepth 100000 in
set_option maxHeartbeats 4000000 in
theorem downs_any (q : Option Addr) (c : Nat) (m : Dm) (hn : m.l.length ≤ 1000) (h4 : m.n ≤ 4) (owner : Int) (w : World) (hH : HoldD w q c m) :
    Calls Try.prog 54 #[dmV q c m, .int .i64 owner] w (GivesR (dOwned m owner) w) := by
  have HH := Lib.hid hH
  have HN := Lib.hid hn
  have H4 := Lib.hid h4
  have HB := Lib.hid (one_low w (.cells (dmCells q c m) 37))
  have HS := Lib.hid (Sits.new w 37 (dmCells q c m))
  clear hH hn h4
  go_enter Try.func54, Try.ntmps54
  go_upto_region 1 with (fail)
  generalize w.alloc (.cells (dmCells q c m) 37) = w0 at HB HS ⊢
  have H0 : Hid (OutAt w0 none 0 (upO m owner 0) w0) := Lib.hid ⟨nil_cut _ _ _ _, Below.refl _ _⟩
  go_wp2_with fail
  go_loopg [5, 6] m.n (fun gg v5 v6 wx => ∃ j r d, j ≤ m.n ∧ gg = m.n - j ∧ v6 = .int .i64 (j : Nat) ∧ v5 = .slice r (upO m owner j).length d ∧ Hid (OutAt w0 r d (upO m owner j) wx))
  case atStart => exact ⟨0, none, 0, by omega, by omega, rfl, rfl, H0⟩
  case round =>
    obtain ⟨j, r, d, hj, rfl, rfl, rfl, HO⟩ := hrel
    have HS2 := Lib.hid (HS.out.below HO.out.low HS.out.lt)
    have b0 : wr.cell? ⟨w.heap.size, 0, none⟩ = some (.int .i64 (m.n : Nat)) := HS2.out.cell 0
    have b1 : wr.cell? ⟨w.heap.size, 1, none⟩ = some (.slice q m.l.length c) := HS2.out.cell 1
    have lb := HS2.out.lt
    by_cases hlt : j < m.n
    · have HJ := Lib.hid hlt
      have j1 : (j : Int) < (m.n : Int) := by omega
      have j0 : (0 : Int) ≤ (j : Int) := by omega
      have j5 : (j : Int) ≤ 4 := by have := H4.out; omega
      have HC := Lib.hid (dlist_any q c m HN.out (j : Int) wr ((HH.out.below HB.out).below HO.out.low))
      have HUS := Lib.hid (upO_succ m owner j)
      have HUL := Lib.hid (upO_len m owner j)
      clear hlt hj
      go_wp2_with fail
      refine HC.out.mono ?_
      rintro e w1 ⟨r1, d1, rfl, hr, hb, hfr⟩
      have HFAR : Hid (Far r1 r) := Lib.hid fun g o s g' o' s' e1 e2 => by have := hfr g o s e1; have := HO.out.cut.fresh g' o' s' e2; omega
      have HO1 := Lib.hid (HO.out.grown hb)
      have HR1 := Lib.hid hr
      have HLL := Lib.hid (dlist_len m (j : Int))
      have i1 : ((dList m (j : Int)).length : Int) ≤ 1000 := by have := dlist_len m (j : Int); have := HN.out; omega
      clear hb hr hfr HC HO HS2 b0 b1 lb
      generalize dList m (j : Int) = l at HR1 HLL i1 HUS ⊢
      generalize hup : upO m owner j = up at HO1 HUL HUS ⊢
      clear hup
      have HO1' : Hid (OutAt w0 r d (up ++ ofL owner (l.take 0)) w1) := Lib.hid (by rw [show up ++ ofL owner (l.take 0) = up by simp [ofL]]; exact HO1.out)
      go_wp2_with fail
      go_loopg [5, 8] l.length (fun gg v5 v8 wx => ∃ k r d, k ≤ l.length ∧ gg = l.length - k ∧ v8 = .int .i64 (k : Nat) ∧ v5 = .slice r (up ++ ofL owner (l.take k)).length d ∧ Hid (OutAt w0 r d (up ++ ofL owner (l.take k)) wx) ∧ Hid (Rts wx r1 l) ∧ Hid (Far r1 r))
      case atStart => exact ⟨0, r, d, by omega, by omega, rfl, by simp [ofL], HO1', HR1, HFAR⟩
      case round =>
        obtain ⟨k, r2, d2, hk, rfl, rfl, rfl, HO2, HR2, HF2⟩ := hrel
        by_cases hlt : k < l.length
        · have hx : l[k]? = some l[k] := List.getElem?_eq_getElem hlt
          have HX := Lib.hid hx
          obtain ⟨g, o, rfl, lg, hc⟩ := HR2.out.there hx
          generalize l[k] = x at hx hc HX
          obtain ⟨c0, c1, c2, c3, c4, c5, c6, c7, c8, c9, c10, c11, c12, c13⟩ := hc
          have k1 : (k : Int) < (l.length : Int) := by omega
          have k0 : (0 : Int) ≤ (k : Int) := by omega
          have HKL := Lib.hid hlt
          have HLT : Hid (∀ g1 o1 s1, some (⟨g, o, none⟩ : Addr) = some ⟨g1, o1, s1⟩ → g1 < wr.heap.size) := Lib.hid fun g1 o1 s1 e => by injection e with e; injection e with e; omega
          have HSZ := Lib.hid (show (up ++ ofL owner (l.take k)).length ≤ 5000 by
            rw [List.length_append]
            have a1 := HUL.out
            have a2 := ofL_len owner (l.take k)
            rw [List.length_take] at a2
            have a3 := HN.out
            have a4 := HJ.out
            have a5 := H4.out
            have a6 : j * m.l.length ≤ 3 * 1000 := Nat.mul_le_mul (by omega) a3
            omega)
          clear hx hlt hk
          by_cases ho : x.owner = owner
          · have HY := Lib.hid (show up ++ ofL owner (l.take (k + 1)) = up ++ ofL owner (l.take k) ++ [x] by rw [ofL_yes HX.out ho, List.append_assoc])
            have ho' : (x.owner == owner) = true := by simpa using ho
            clear ho
            have HI1 := Lib.hid (rts_new (Sits.new wr 47 (rtCells x)))
            have HBX := Lib.hid (one_low wr (.cells (rtCells x) 47))
            have HC1 := Lib.hid (HO2.out.cut.below HBX.out)
            generalize hacc : up ++ ofL owner (l.take k) = acc at HO2 HSZ HY HC1 ⊢
            clear hacc
            go_wp2_with (at_builtin; refine wpList_append_cut2 rowRt rfl _ _ rfl (B := w0.heap.size) (r := r2) (n := acc.length) (d := d2) (xs := cellsOf rtL acc) rfl HC1.out (by have := HO2.out.low.size; simp; omega) (some ⟨wr.heap.size, 0, none⟩) 1 1 (cellsOf rtL [x]) rfl rfl HI1.out.lay (rts_one [x]) (by unfold maxLen; have := HSZ.out; omega) (by have := HSZ.out; omega) ?_)
            intro r3 d3 w3 hg3 hf3 hb3 hc3
            have HR3 : Hid (Rts w3 _ l) := Lib.hid (rts_grown (HR2.out.below HBX.out) hg3 (HF2.out.own _ _))
            have HF3 : Hid (Far _ r3) := Lib.hid fun g1 o1 s1 g4 o4 s4 e1 e2 => by
              rcases hf3 g4 o4 s4 e2 with h | h
              · intro e
                exact HF2.out.own _ _ g1 o1 s1 e1 (by rw [e]; exact h)
              · have := HLT.out g1 o1 s1 e1
                have := HBX.out.size
                omega
            have HLN := Lib.hid (show (up ++ ofL owner (l.take (k + 1))).length = acc.length + 1 by rw [HY.out]; simp)
            have HO3 : Hid (OutAt w0 r3 d3 (up ++ ofL owner (l.take (k + 1))) w3) := Lib.hid ⟨by rw [HLN.out, HY.out, cells_append]; exact hc3, (HO2.out.low.trans (HBX.out.mono HO2.out.low.size)).trans hb3⟩
            clear hg3 hf3 hb3 hc3 c0 c1 c2 c3 c4 c5 c6 c7 c8 c9 c10 c11 c12 c13
            go_wp2_with fail
            go_roundg (l.length - (k + 1))
            case measure => have := HKL.out; omega
            case rel => exact ⟨k + 1, r3, d3, by have := HKL.out; omega, rfl, by go_num, by rw [HLN.out], HO3, HR3, HF3⟩
          · have HY := Lib.hid (show up ++ ofL owner (l.take (k + 1)) = up ++ ofL owner (l.take k) by rw [ofL_no HX.out ho])
            have ho' : (x.owner == owner) = false := by simpa using ho
            clear ho
            rw [← HY.out] at HO2 ⊢
            go_wp2_with fail
            go_roundg (l.length - (k + 1))
            case measure => have := HKL.out; omega
            case rel => exact ⟨k + 1, r2, d2, by have := HKL.out; omega, rfl, by go_num, rfl, HO2, HR2, HF2⟩
        · obtain rfl : k = l.length := by omega
          rw [List.take_length, ← HUS.out] at HO2 ⊢
          clear hlt hk
          go_wp2_with fail
          go_roundg (m.n - (j + 1))
          case measure => have := HJ.out; omega
          case rel => exact ⟨j + 1, r2, d2, by have := HJ.out; omega, rfl, by go_num, rfl, HO2⟩
    · obtain rfl : j = m.n := by omega
      rw [upO_all] at HO ⊢
      clear hlt hj
      go_wp2_with fail
      go_ret
      exact ⟨r, d, rfl, HO.out.cut.lay.rts, HB.out.trans (HO.out.low.mono HB.out.size), fun g o s e => by have := HO.out.cut.fresh g o s e; have := HB.out.size; omega⟩
end Go.Proofs.Ytokkcbhmmhmfmaa.Mmr
