/- Layer 11 (memory): wakes, a memory that is known. -/
import Derived.Test.YtokkcbhmmhmfmaaMmrQ
namespace Go.Proofs.Ytokkcbhmmhmfmaa.Mmr
open Go.RowKit Go.Proofs.Ytokkcbhmmhmfmaa.Mem Go.Proofs.Ytokkcbhmmhmfmaa.Flow

def x1 : It := ⟨0, 0, 1, 5, Vew.zeroF, false, 1⟩
def x2 : It := ⟨0, 0, 2, 6, Vew.zeroF, false, -1⟩
def x3 : It := ⟨0, 2, 3, 0, Vew.zeroF, true, 1⟩
theorem fw_1 : fw 1 = 4607182418800017408 := by decide
theorem fw_2 : fw 2 = 4611686018427387904 := by decide
theorem fw_3 : fw 3 = 4613937818241073152 := by decide
abbrev cells1 : Array Value := #[.int .i64 0, .complex .f64 0 4607182418800017408, .int .u64 5, .int .i64 0, .int .i64 0, .int .i64 0, .int .i64 0, .int .i64 0, .int .i64 0, .int .i64 0, .int .i64 0, .bool false, .int .i64 1]
abbrev cells2 : Array Value := #[.int .i64 0, .complex .f64 0 4611686018427387904, .int .u64 6, .int .i64 0, .int .i64 0, .int .i64 0, .int .i64 0, .int .i64 0, .int .i64 0, .int .i64 0, .int .i64 0, .bool false, .int .i64 (-1)]
abbrev cells3 : Array Value := #[.int .i64 0, .complex .f64 4611686018427387904 4613937818241073152, .int .u64 0, .int .i64 0, .int .i64 0, .int .i64 0, .int .i64 0, .int .i64 0, .int .i64 0, .int .i64 0, .int .i64 0, .bool true, .int .i64 1]
theorem cells1_eq : itCells x1 = cells1 := by simp only [itCells, x1, fw_0, fw_1]; rfl
theorem cells2_eq : itCells x2 = cells2 := by simp only [itCells, x2, fw_0, fw_2]; rfl
theorem cells3_eq : itCells x3 = cells3 := by simp only [itCells, x3, fw_2, fw_3]; rfl
theorem pair_of {α β : Type} {p : α × β} {b : β} (h : p.2 = b) : p = (p.1, b) := by rw [← h]
theorem hold_over {W : World} {p : Nat → Option Addr} {c : Nat → Nat} {m : Mm} {g : Nat} {t : TypeId} {cs : Array Value} (h : Hold W p c m) (hs : Sits W g t cs) (hc : ∀ u ∈ cs.toList, ∀ k x y, u ≠ .complex k x y) (cs' : Array Value) : Hold (W.setRow g cs') p c m :=
  ⟨fun i hi => its_row (h.row i hi) hs hc cs', h.cap⟩
/-- A slice of so many. -/
def sliceV (n : Nat) : Value → World → Prop := fun u _ => ∃ r d, u = .slice r n d
theorem sliceV_mono (n : Nat) : Mono (sliceV n) := fun _ _ _ h _ => h
/-- What wakes asks. -/
structure Wk (m0 m1 n k q : Mm) (y : It) : Prop where
  e0 : beginE [7] = (m0, 0)
  e1 : addF m0 x1 = (m1, 0)
  e2 : ∃ m', addF m1 x2 = (m', 5)
  e3 : addF m1 x3 = (n, 0)
  e4 : ∃ m', cancelF n 0 3 0 = (m', 6)
  e5 : cancelF n 0 3 1 = (k, 0)
  e6 : lastF n 0 (fun _ => true) = some y
  e7 : y.n = 5
  e8 : fulfilF n 0 1 1 = (q, 0)
  e9 : (listF n 0).length = 3
  e10 : (listF k 0).length = 2
  e11 : (ownedF n 1).length = 2
  e12 : (ownedF q 1).length = 1
  e13 : closedF n (Vew.atF 0 1 true) = true
  e14 : closedF n (Vew.atF 0 3 true) = false
  one : m0.n = 1
  o0 : OkM m0
  o1 : OkM m1
  on : OkM n
  ok : OkM k
  oq : OkM q
theorem wk_there : ∃ m0 m1 n k q y, Wk m0 m1 n k q y := by
  have o0 : OkM (beginL [7]) := ok_begin (by decide) (by decide)
  have o1 := ok_add o0 x1
  have on := ok_add o1 x3
  refine ⟨beginL [7], (addF (beginL [7]) x1).1, (addF (addF (beginL [7]) x1).1 x3).1, (cancelF (addF (addF (beginL [7]) x1).1 x3).1 0 3 1).1, (fulfilF (addF (addF (beginL [7]) x1).1 x3).1 0 1 1).1, x1,
    rfl, pair_of ?_, ⟨_, pair_of ?_⟩, pair_of ?_, ⟨_, pair_of ?_⟩, pair_of ?_, ?_, rfl, pair_of ?_, ?_, ?_, ?_, ?_, ?_, ?_, rfl, o0, o1, on, ok_cancel on _ _ _, ok_fulfil on _ _ _⟩
  all_goals (first | rfl | decide)
set_option maxRecDepth 100000 in
set_option maxHeartbeats 4000000 in
theorem wakes_any (w : World) : Calls Try.prog 7 #[] w (Made (.returned (.bool true)) w) := by
  obtain ⟨m0, m1, n, k, q, y, hk⟩ := wk_there
  have HK := Lib.hid hk
  clear hk
  have HB0 := Lib.hid (one_low w (.cells #[.int .u64 7] 45))
  have HSN := Lib.hid (Sits.new w 45 #[.int .u64 7])
  go_enter Try.func7, Try.ntmps7
  go_wp2_with fail
  have HC := Lib.hid (begin_any (some ⟨w.heap.size, 0, none⟩) 1 [7] (by decide) (w.alloc (.cells #[.int .u64 7] 45)) (fun i x hx => by
    have hi : i = 0 := by have := (List.getElem?_eq_some_iff.1 hx).1; simp at this; omega
    subst hi
    simp at hx; subst hx
    exact ⟨w.heap.size, 0, rfl, by simp, HSN.out.cell 0⟩))
  rw [HK.out.e0] at HC
  refine HC.out.mono ?_
  rintro e w1 ⟨p0, c0, rfl, hh, hb⟩
  have HB : Hid (Below w.heap.size w w1) := Lib.hid (HB0.out.trans (hb.mono HB0.out.size))
  have HM := Lib.hid hh
  clear hb hh HC HSN HB0
  dsimp only at HM
  go_upto_region 2 with (fail)
  have hb := one_low w1 (.cells (memCells p0 c0 m0) 31)
  have Sm := Lib.hid (Sits.new w1 31 (memCells p0 c0 m0))
  have HG : Hid (w.heap.size ≤ w1.heap.size) := Lib.hid HB.out.size
  replace HB := Lib.hid (HB.out.trans (hb.mono HB.out.size))
  replace HM := Lib.hid (HM.out.below hb)
  clear hb
  generalize w1.alloc (.cells (memCells p0 c0 m0) 31) = w2 at Sm HB HM ⊢
  generalize w1.heap.size = gm at Sm HG ⊢
  have lb := Sm.out.lt
  have b0 : w2.cell? ⟨gm, 0, none⟩ = some (.slice (p0 0) (m0.row 0).length (c0 0)) := Sm.out.cell 0
  have b1 : w2.cell? ⟨gm, 1, none⟩ = some (.slice (p0 1) (m0.row 1).length (c0 1)) := Sm.out.cell 1
  have b2 : w2.cell? ⟨gm, 2, none⟩ = some (.slice (p0 2) (m0.row 2).length (c0 2)) := Sm.out.cell 2
  have b3 : w2.cell? ⟨gm, 3, none⟩ = some (.slice (p0 3) (m0.row 3).length (c0 3)) := Sm.out.cell 3
  have b4 : w2.cell? ⟨gm, 4, none⟩ = some (.int .i64 (m0.n : Nat)) := Sm.out.cell 4
  have HC := Lib.hid (locs_any p0 c0 m0 w2)
  rw [HK.out.one] at HC
  go_wp2_with fail
  refine HC.out.mono ?_
  rintro e w3 ⟨rfl, hb⟩
  clear HC
  clear lb b0 b1 b2 b3 b4
  replace HB := Lib.hid (HB.out.trans (hb.mono HB.out.size))
  replace HM := Lib.hid (HM.out.below hb)
  replace Sm := Lib.hid (Sm.out.below hb Sm.out.lt)
  clear hb
  have lb := Sm.out.lt
  have b0 : w3.cell? ⟨gm, 0, none⟩ = some (.slice (p0 0) (m0.row 0).length (c0 0)) := Sm.out.cell 0
  have b1 : w3.cell? ⟨gm, 1, none⟩ = some (.slice (p0 1) (m0.row 1).length (c0 1)) := Sm.out.cell 1
  have b2 : w3.cell? ⟨gm, 2, none⟩ = some (.slice (p0 2) (m0.row 2).length (c0 2)) := Sm.out.cell 2
  have b3 : w3.cell? ⟨gm, 3, none⟩ = some (.slice (p0 3) (m0.row 3).length (c0 3)) := Sm.out.cell 3
  have b4 : w3.cell? ⟨gm, 4, none⟩ = some (.int .i64 (m0.n : Nat)) := Sm.out.cell 4
  have HC := Lib.hid (add_any p0 c0 m0 HK.out.o0 x1 (fit_may rfl) w3 HM.out)
  rw [HK.out.e1] at HC
  rw [itV, cells1_eq] at HC
  go_wp2_with fail
  refine HC.out.mono ?_
  rintro e w4 ⟨p1, c1, rfl, hh, hb⟩
  dsimp only at hh ⊢
  clear HC
  clear lb b0 b1 b2 b3 b4
  have HM1 := Lib.hid hh
  clear hh
  replace HB := Lib.hid (HB.out.trans (hb.mono HB.out.size))
  clear HM
  replace Sm := Lib.hid (Sm.out.below hb Sm.out.lt)
  clear hb
  go_wp2_with (refine wpList_store_row rfl 31 _ _ rfl gm (memCells p1 c1 m1) rfl rfl 31 _ Sm.out memSize rfl (mem_one _ _ _) ?_; have Sm2 := Lib.hid (show Sits (w4.setRow gm (memCells p1 c1 m1)) gm 31 (memCells p1 c1 m1) from setRow_heap w4 _ _ _ _ _ Sm.out); have HM2 := Lib.hid (hold_over HM1.out Sm.out (mem_plain _ _ _) (memCells p1 c1 m1)); have HB2 := Lib.hid (row_low HB.out HG.out (memCells p1 c1 m1)); generalize w4.setRow gm (memCells p1 c1 m1) = w5 at Sm2 HM2 HB2 ⊢; clear Sm HM1 HB; have lb := Sm2.out.lt; have b0 : w5.cell? ⟨gm, 0, none⟩ = some (.slice (p1 0) (m1.row 0).length (c1 0)) := Sm2.out.cell 0; have b1 : w5.cell? ⟨gm, 1, none⟩ = some (.slice (p1 1) (m1.row 1).length (c1 1)) := Sm2.out.cell 1; have b2 : w5.cell? ⟨gm, 2, none⟩ = some (.slice (p1 2) (m1.row 2).length (c1 2)) := Sm2.out.cell 2; have b3 : w5.cell? ⟨gm, 3, none⟩ = some (.slice (p1 3) (m1.row 3).length (c1 3)) := Sm2.out.cell 3; have b4 : w5.cell? ⟨gm, 4, none⟩ = some (.int .i64 (m1.n : Nat)) := Sm2.out.cell 4)
  have HC := Lib.hid (add_any p1 c1 m1 HK.out.o1 x2 (fit_may rfl) w5 HM2.out)
  obtain ⟨mx, hx⟩ := HK.out.e2
  rw [hx, itV, cells2_eq] at HC
  clear hx
  refine HC.out.mono ?_
  rintro e w6 ⟨p2, c2, rfl, hh, hb⟩
  dsimp only at hh ⊢
  clear HC hh
  clear lb b0 b1 b2 b3 b4
  replace HB2 := Lib.hid (HB2.out.trans (hb.mono HB2.out.size))
  replace Sm2 := Lib.hid (Sm2.out.below hb Sm2.out.lt)
  replace HM2 := Lib.hid (HM2.out.below hb)
  clear hb
  go_upto_region 6 with (fail)
  have hb := one_low w6 (.cells (memCells p2 c2 mx) 31)
  have Sx := Lib.hid (Sits.new w6 31 (memCells p2 c2 mx))
  replace HB2 := Lib.hid (HB2.out.trans (hb.mono HB2.out.size))
  replace Sm2 := Lib.hid (Sm2.out.below hb Sm2.out.lt)
  replace HM2 := Lib.hid (HM2.out.below hb)
  clear hb
  generalize w6.alloc (.cells (memCells p2 c2 mx) 31) = w7 at Sx HB2 Sm2 HM2 ⊢
  generalize w6.heap.size = gx at Sx ⊢
  have lb := Sm2.out.lt
  have b0 : w7.cell? ⟨gm, 0, none⟩ = some (.slice (p1 0) (m1.row 0).length (c1 0)) := Sm2.out.cell 0
  have b1 : w7.cell? ⟨gm, 1, none⟩ = some (.slice (p1 1) (m1.row 1).length (c1 1)) := Sm2.out.cell 1
  have b2 : w7.cell? ⟨gm, 2, none⟩ = some (.slice (p1 2) (m1.row 2).length (c1 2)) := Sm2.out.cell 2
  have b3 : w7.cell? ⟨gm, 3, none⟩ = some (.slice (p1 3) (m1.row 3).length (c1 3)) := Sm2.out.cell 3
  have b4 : w7.cell? ⟨gm, 4, none⟩ = some (.int .i64 (m1.n : Nat)) := Sm2.out.cell 4
  have HC := Lib.hid (add_any p1 c1 m1 HK.out.o1 x3 (fit_may rfl) w7 HM2.out)
  rw [HK.out.e3, itV, cells3_eq] at HC
  go_wp2_with fail
  refine HC.out.mono ?_
  rintro e w8 ⟨p3, c3, rfl, hh, hb⟩
  dsimp only at hh ⊢
  have HN := Lib.hid hh
  clear HC hh
  clear lb b0 b1 b2 b3 b4
  replace HB2 := Lib.hid (HB2.out.trans (hb.mono HB2.out.size))
  clear Sm2
  clear HM2
  clear Sx
  clear hb
  go_upto_region 7 with (fail)
  have hb := one_low w8 (.cells (memCells p3 c3 n) 31)
  have Sn := Lib.hid (Sits.new w8 31 (memCells p3 c3 n))
  replace HB2 := Lib.hid (HB2.out.trans (hb.mono HB2.out.size))
  replace HN := Lib.hid (HN.out.below hb)
  clear hb
  generalize w8.alloc (.cells (memCells p3 c3 n) 31) = w9 at Sn HB2 HN ⊢
  generalize w8.heap.size = gn at Sn ⊢
  have lb := Sn.out.lt
  have b0 : w9.cell? ⟨gn, 0, none⟩ = some (.slice (p3 0) (n.row 0).length (c3 0)) := Sn.out.cell 0
  have b1 : w9.cell? ⟨gn, 1, none⟩ = some (.slice (p3 1) (n.row 1).length (c3 1)) := Sn.out.cell 1
  have b2 : w9.cell? ⟨gn, 2, none⟩ = some (.slice (p3 2) (n.row 2).length (c3 2)) := Sn.out.cell 2
  have b3 : w9.cell? ⟨gn, 3, none⟩ = some (.slice (p3 3) (n.row 3).length (c3 3)) := Sn.out.cell 3
  have b4 : w9.cell? ⟨gn, 4, none⟩ = some (.int .i64 (n.n : Nat)) := Sn.out.cell 4
  have HC := Lib.hid (cancel_any p3 c3 n HK.out.on 0 3 0 w9 HN.out)
  obtain ⟨my, hx⟩ := HK.out.e4
  rw [hx] at HC
  clear hx
  go_wp2_with fail
  refine HC.out.mono ?_
  rintro e w10 ⟨p4, c4, rfl, hh, hb⟩
  dsimp only at hh ⊢
  clear hh
  clear HC
  clear lb b0 b1 b2 b3 b4
  replace HB2 := Lib.hid (HB2.out.trans (hb.mono HB2.out.size))
  replace HN := Lib.hid (HN.out.below hb)
  replace Sn := Lib.hid (Sn.out.below hb Sn.out.lt)
  clear hb
  go_upto_region 8 with (fail)
  have hb := one_low w10 (.cells (memCells p4 c4 my) 31)
  have Sy := Lib.hid (Sits.new w10 31 (memCells p4 c4 my))
  replace HB2 := Lib.hid (HB2.out.trans (hb.mono HB2.out.size))
  replace HN := Lib.hid (HN.out.below hb)
  replace Sn := Lib.hid (Sn.out.below hb Sn.out.lt)
  clear hb
  generalize w10.alloc (.cells (memCells p4 c4 my) 31) = w11 at Sy HB2 HN Sn ⊢
  generalize w10.heap.size = gy at Sy ⊢
  have lb := Sn.out.lt
  have b0 : w11.cell? ⟨gn, 0, none⟩ = some (.slice (p3 0) (n.row 0).length (c3 0)) := Sn.out.cell 0
  have b1 : w11.cell? ⟨gn, 1, none⟩ = some (.slice (p3 1) (n.row 1).length (c3 1)) := Sn.out.cell 1
  have b2 : w11.cell? ⟨gn, 2, none⟩ = some (.slice (p3 2) (n.row 2).length (c3 2)) := Sn.out.cell 2
  have b3 : w11.cell? ⟨gn, 3, none⟩ = some (.slice (p3 3) (n.row 3).length (c3 3)) := Sn.out.cell 3
  have b4 : w11.cell? ⟨gn, 4, none⟩ = some (.int .i64 (n.n : Nat)) := Sn.out.cell 4
  have HC := Lib.hid (cancel_any p3 c3 n HK.out.on 0 3 1 w11 HN.out)
  rw [HK.out.e5] at HC
  go_wp2_with fail
  refine HC.out.mono ?_
  rintro e w12 ⟨p5, c5, rfl, hh, hb⟩
  dsimp only at hh ⊢
  have HKK := Lib.hid hh
  clear hh
  clear HC
  clear lb b0 b1 b2 b3 b4
  replace HB2 := Lib.hid (HB2.out.trans (hb.mono HB2.out.size))
  replace HN := Lib.hid (HN.out.below hb)
  replace Sn := Lib.hid (Sn.out.below hb Sn.out.lt)
  clear Sy
  clear hb
  go_upto_region 9 with (fail)
  have hb := one_low w12 (.cells (memCells p5 c5 k) 31)
  have Sk := Lib.hid (Sits.new w12 31 (memCells p5 c5 k))
  replace HB2 := Lib.hid (HB2.out.trans (hb.mono HB2.out.size))
  replace HN := Lib.hid (HN.out.below hb)
  replace Sn := Lib.hid (Sn.out.below hb Sn.out.lt)
  replace HKK := Lib.hid (HKK.out.below hb)
  clear hb
  generalize w12.alloc (.cells (memCells p5 c5 k) 31) = w13 at Sk HB2 HN Sn HKK ⊢
  generalize w12.heap.size = gk at Sk ⊢
  have lb := Sn.out.lt
  have b0 : w13.cell? ⟨gn, 0, none⟩ = some (.slice (p3 0) (n.row 0).length (c3 0)) := Sn.out.cell 0
  have b1 : w13.cell? ⟨gn, 1, none⟩ = some (.slice (p3 1) (n.row 1).length (c3 1)) := Sn.out.cell 1
  have b2 : w13.cell? ⟨gn, 2, none⟩ = some (.slice (p3 2) (n.row 2).length (c3 2)) := Sn.out.cell 2
  have b3 : w13.cell? ⟨gn, 3, none⟩ = some (.slice (p3 3) (n.row 3).length (c3 3)) := Sn.out.cell 3
  have b4 : w13.cell? ⟨gn, 4, none⟩ = some (.int .i64 (n.n : Nat)) := Sn.out.cell 4
  have HC := Lib.hid (lastof_any p3 c3 n HK.out.on 0 w13 HN.out)
  rw [HK.out.e6] at HC
  have hio : itO (some y) = itV y := rfl
  go_wp2_with fail
  refine HC.out.mono ?_
  rintro e w14 ⟨rfl, hb⟩
  clear HC
  clear lb b0 b1 b2 b3 b4
  replace HB2 := Lib.hid (HB2.out.trans (hb.mono HB2.out.size))
  replace HN := Lib.hid (HN.out.below hb)
  replace Sn := Lib.hid (Sn.out.below hb Sn.out.lt)
  replace HKK := Lib.hid (HKK.out.below hb)
  replace Sk := Lib.hid (Sk.out.below hb Sk.out.lt)
  clear hb
  go_upto_region 10 with (fail)
  have hb := one_low w14 (.cells (itCells y) 57)
  have Si := Lib.hid (Sits.new w14 57 (itCells y))
  replace HB2 := Lib.hid (HB2.out.trans (hb.mono HB2.out.size))
  replace HN := Lib.hid (HN.out.below hb)
  replace Sn := Lib.hid (Sn.out.below hb Sn.out.lt)
  replace HKK := Lib.hid (HKK.out.below hb)
  replace Sk := Lib.hid (Sk.out.below hb Sk.out.lt)
  clear hb
  generalize w14.alloc (.cells (itCells y) 57) = w15 at Si HB2 HN Sn HKK Sk ⊢
  generalize w14.heap.size = gi at Si ⊢
  have lb := Sn.out.lt
  have b0 : w15.cell? ⟨gn, 0, none⟩ = some (.slice (p3 0) (n.row 0).length (c3 0)) := Sn.out.cell 0
  have b1 : w15.cell? ⟨gn, 1, none⟩ = some (.slice (p3 1) (n.row 1).length (c3 1)) := Sn.out.cell 1
  have b2 : w15.cell? ⟨gn, 2, none⟩ = some (.slice (p3 2) (n.row 2).length (c3 2)) := Sn.out.cell 2
  have b3 : w15.cell? ⟨gn, 3, none⟩ = some (.slice (p3 3) (n.row 3).length (c3 3)) := Sn.out.cell 3
  have b4 : w15.cell? ⟨gn, 4, none⟩ = some (.int .i64 (n.n : Nat)) := Sn.out.cell 4
  have HC := Lib.hid (fulfil_any p3 c3 n HK.out.on 0 1 1 w15 HN.out)
  rw [HK.out.e8] at HC
  go_wp2_with fail
  refine HC.out.mono ?_
  rintro e w16 ⟨p6, c6, rfl, hh, hb⟩
  dsimp only at hh ⊢
  have HQ := Lib.hid hh
  clear hh
  clear HC
  clear lb b0 b1 b2 b3 b4
  replace HB2 := Lib.hid (HB2.out.trans (hb.mono HB2.out.size))
  replace HN := Lib.hid (HN.out.below hb)
  replace Sn := Lib.hid (Sn.out.below hb Sn.out.lt)
  replace HKK := Lib.hid (HKK.out.below hb)
  replace Sk := Lib.hid (Sk.out.below hb Sk.out.lt)
  replace Si := Lib.hid (Si.out.below hb Si.out.lt)
  clear hb
  have lb := Sn.out.lt
  have b0 : w16.cell? ⟨gn, 0, none⟩ = some (.slice (p3 0) (n.row 0).length (c3 0)) := Sn.out.cell 0
  have b1 : w16.cell? ⟨gn, 1, none⟩ = some (.slice (p3 1) (n.row 1).length (c3 1)) := Sn.out.cell 1
  have b2 : w16.cell? ⟨gn, 2, none⟩ = some (.slice (p3 2) (n.row 2).length (c3 2)) := Sn.out.cell 2
  have b3 : w16.cell? ⟨gn, 3, none⟩ = some (.slice (p3 3) (n.row 3).length (c3 3)) := Sn.out.cell 3
  have b4 : w16.cell? ⟨gn, 4, none⟩ = some (.int .i64 (n.n : Nat)) := Sn.out.cell 4
  have Sq : Hid (Sits (w16.alloc (.cells (memCells p6 c6 q) 31)) w16.heap.size 31 (memCells p6 c6 q)) := Lib.hid (Sits.new _ _ _)
  go_wp2_with fail
  have hb := one_low w16 (.cells (memCells p6 c6 q) 31)
  clear lb b0 b1 b2 b3 b4
  replace HB2 := Lib.hid (HB2.out.trans (hb.mono HB2.out.size))
  replace HN := Lib.hid (HN.out.below hb)
  replace Sn := Lib.hid (Sn.out.below hb Sn.out.lt)
  replace HKK := Lib.hid (HKK.out.below hb)
  replace Sk := Lib.hid (Sk.out.below hb Sk.out.lt)
  replace Si := Lib.hid (Si.out.below hb Si.out.lt)
  replace HQ := Lib.hid (HQ.out.below hb)
  clear hb
  generalize w16.alloc (.cells (memCells p6 c6 q) 31) = w17 at Sq HB2 HN Sn HKK Sk Si HQ ⊢
  generalize w16.heap.size = gq at Sq ⊢
  go_upto_region 11 with (fail)
  refine wp_flowG [66, 67, 68, 69, 70, 71, 72, 73, 74, 75, 76, 77, 78, 79, 80, 81, 82, 83, 84, 85, 86, 87, 88, 89, 90, 91, 92, 93, 94, 95, 96, 97, 98, 99, 100, 101, 102, 103, 104, 105, 106, 107, 108, 109, 110, 111, 112, 113, 114, 115, 116, 117, 118, 119, 120, 121, 122, 123, 124, 125, 126, 127, 128, 129, 130] [eqV (.int .i64 0), eqV (.bool true), eqV (.bool true), eqV (.int .i64 5), eqV (.bool true), eqV (.bool true), eqV (.bool true), eqV (.int .i64 0), eqV (.bool true), eqV (.bool true), eqV (.bool true), eqV (.int .i64 6), eqV (.bool true), eqV (.bool true), eqV (.bool true), eqV (.int .i64 0), eqV (.bool true), eqV (.bool true), eqV (.bool true), eqV (.agg #[.slice (p3 0) (n.row 0).length (c3 0), .slice (p3 1) (n.row 1).length (c3 1), .slice (p3 2) (n.row 2).length (c3 2), .slice (p3 3) (n.row 3).length (c3 3), .int .i64 (n.n : Nat)]), sliceV 3, eqV (.int .i64 3), eqV (.bool true), eqV (.bool true), eqV (.bool true), eqV (.agg #[.slice (p5 0) (k.row 0).length (c5 0), .slice (p5 1) (k.row 1).length (c5 1), .slice (p5 2) (k.row 2).length (c5 2), .slice (p5 3) (k.row 3).length (c5 3), .int .i64 (k.n : Nat)]), sliceV 2, eqV (.int .i64 2), eqV (.bool true), eqV (.bool true), eqV (.bool true), eqV (.bool true), eqV (.bool true), eqV (.bool true), eqV (.pointer (some ⟨gi, 2, none⟩)), eqV (.int .u64 y.n), eqV (.bool true), eqV (.bool true), eqV (.bool true), eqV (.agg #[.slice (p3 0) (n.row 0).length (c3 0), .slice (p3 1) (n.row 1).length (c3 1), .slice (p3 2) (n.row 2).length (c3 2), .slice (p3 3) (n.row 3).length (c3 3), .int .i64 (n.n : Nat)]), sliceV 2, eqV (.int .i64 2), eqV (.bool true), eqV (.bool true), eqV (.bool true), eqV (.int .i64 0), eqV (.bool true), eqV (.bool true), eqV (.bool true), eqV (.agg #[.slice (p6 0) (q.row 0).length (c6 0), .slice (p6 1) (q.row 1).length (c6 1), .slice (p6 2) (q.row 2).length (c6 2), .slice (p6 3) (q.row 3).length (c6 3), .int .i64 (q.n : Nat)]), sliceV 1, eqV (.int .i64 1), eqV (.bool true), eqV (.bool true), eqV (.bool true), eqV (.agg #[.slice (p3 0) (n.row 0).length (c3 0), .slice (p3 1) (n.row 1).length (c3 1), .slice (p3 2) (n.row 2).length (c3 2), .slice (p3 3) (n.row 3).length (c3 3), .int .i64 (n.n : Nat)]), eqV (Vew.vewV (Vew.atF 0 1 true)), eqV (.bool true), eqV (.bool true), eqV (.bool true), eqV (.agg #[.slice (p3 0) (n.row 0).length (c3 0), .slice (p3 1) (n.row 1).length (c3 1), .slice (p3 2) (n.row 2).length (c3 2), .slice (p3 3) (n.row 3).length (c3 3), .int .i64 (n.n : Nat)]), eqV (Vew.vewV (Vew.atF 0 3 true)), eqV (.bool false), eqV (.bool true), eqV (.bool true)] (by kernel_rfl) (by kernel_rfl) (by kernel_rfl) (by kernel_rfl) (by rfl)
    (by simp only [List.mem_cons, List.not_mem_nil, or_false, forall_eq_or_imp, forall_eq]; refine ⟨?_, ?_, ?_, ?_, ?_, ?_, ?_, ?_, ?_, ?_, ?_, ?_, ?_, ?_, ?_, ?_, ?_, ?_, ?_, ?_, ?_, ?_, ?_, ?_, ?_, ?_, ?_, ?_, ?_, ?_, ?_, ?_, ?_, ?_, ?_, ?_, ?_, ?_, ?_, ?_, ?_, ?_, ?_, ?_, ?_, ?_, ?_, ?_, ?_, ?_, ?_, ?_, ?_, ?_, ?_, ?_, ?_, ?_, ?_, ?_, ?_, ?_, ?_, ?_, ?_⟩ <;> (first | exact eqV_mono _ | exact sliceV_mono _)) ?_ ?_
  · intro i o hi ho A W hW hk he
    simp only [List.length_cons, List.length_nil, Nat.zero_add, Nat.reduceAdd] at hi
    obtain rfl | rfl | rfl | rfl | rfl | rfl | rfl | rfl | rfl | rfl | rfl | rfl | rfl | rfl | rfl | rfl | rfl | rfl | rfl | rfl | rfl | rfl | rfl | rfl | rfl | rfl | rfl | rfl | rfl | rfl | rfl | rfl | rfl | rfl | rfl | rfl | rfl | rfl | rfl | rfl | rfl | rfl | rfl | rfl | rfl | rfl | rfl | rfl | rfl | rfl | rfl | rfl | rfl | rfl | rfl | rfl | rfl | rfl | rfl | rfl | rfl | rfl | rfl | rfl | rfl : i = 0 ∨ i = 1 ∨ i = 2 ∨ i = 3 ∨ i = 4 ∨ i = 5 ∨ i = 6 ∨ i = 7 ∨ i = 8 ∨ i = 9 ∨ i = 10 ∨ i = 11 ∨ i = 12 ∨ i = 13 ∨ i = 14 ∨ i = 15 ∨ i = 16 ∨ i = 17 ∨ i = 18 ∨ i = 19 ∨ i = 20 ∨ i = 21 ∨ i = 22 ∨ i = 23 ∨ i = 24 ∨ i = 25 ∨ i = 26 ∨ i = 27 ∨ i = 28 ∨ i = 29 ∨ i = 30 ∨ i = 31 ∨ i = 32 ∨ i = 33 ∨ i = 34 ∨ i = 35 ∨ i = 36 ∨ i = 37 ∨ i = 38 ∨ i = 39 ∨ i = 40 ∨ i = 41 ∨ i = 42 ∨ i = 43 ∨ i = 44 ∨ i = 45 ∨ i = 46 ∨ i = 47 ∨ i = 48 ∨ i = 49 ∨ i = 50 ∨ i = 51 ∨ i = 52 ∨ i = 53 ∨ i = 54 ∨ i = 55 ∨ i = 56 ∨ i = 57 ∨ i = 58 ∨ i = 59 ∨ i = 60 ∨ i = 61 ∨ i = 62 ∨ i = 63 ∨ i = 64 := by omega
    · injection ho with ho; subst ho
      refine .inl ⟨wanted_free rfl, ?_⟩
      have h3 : A.tmps[3]?.getD undef = .int .i64 0 := hk 3 (by rfl)
      go_simp
      exact ⟨rfl, Below.refl _ _⟩
    · injection ho with ho; subst ho
      refine .inl ⟨wanted_free rfl, ?_⟩
      have h66 : A.tmps[66]?.getD undef = .int .i64 0 := he 0 (by kernel_rfl)
      go_simp
      exact ⟨rfl, Below.refl _ _⟩
    · injection ho with ho; subst ho
      refine .inl ⟨wanted_free rfl, ?_⟩
      have h67 : A.tmps[67]?.getD undef = .bool true := he 1 (by kernel_rfl)
      go_simp
      exact ⟨rfl, Below.refl _ _⟩
    · injection ho with ho; subst ho
      have hg : A.tmps[68]?.getD undef = .bool true := he 2 (by kernel_rfl)
      refine .inl ⟨wanted_yes (d := 68) rfl (by kernel_rfl) hg, ?_⟩
      have h5 : A.tmps[5]?.getD undef = .int .i64 5 := hk 5 (by rfl)
      go_simp
      exact ⟨rfl, Below.refl _ _⟩
    · injection ho with ho; subst ho
      have hg : A.tmps[68]?.getD undef = .bool true := he 2 (by kernel_rfl)
      refine .inl ⟨wanted_yes (d := 68) rfl (by kernel_rfl) hg, ?_⟩
      have h69 : A.tmps[69]?.getD undef = .int .i64 5 := he 3 (by kernel_rfl)
      go_simp
      exact ⟨rfl, Below.refl _ _⟩
    · injection ho with ho; subst ho
      refine .inl ⟨wanted_free rfl, ?_⟩
      have h68 : A.tmps[68]?.getD undef = .bool true := he 2 (by kernel_rfl)
      have h70 : A.tmps[70]?.getD undef = .bool true := he 4 (by kernel_rfl)
      go_simp
      exact ⟨rfl, Below.refl _ _⟩
    · injection ho with ho; subst ho
      refine .inl ⟨wanted_free rfl, ?_⟩
      have h71 : A.tmps[71]?.getD undef = .bool true := he 5 (by kernel_rfl)
      go_simp
      exact ⟨rfl, Below.refl _ _⟩
    · injection ho with ho; subst ho
      have hg : A.tmps[72]?.getD undef = .bool true := he 6 (by kernel_rfl)
      refine .inl ⟨wanted_yes (d := 72) rfl (by kernel_rfl) hg, ?_⟩
      have h7 : A.tmps[7]?.getD undef = .int .i64 0 := hk 7 (by rfl)
      go_simp
      exact ⟨rfl, Below.refl _ _⟩
    · injection ho with ho; subst ho
      have hg : A.tmps[72]?.getD undef = .bool true := he 6 (by kernel_rfl)
      refine .inl ⟨wanted_yes (d := 72) rfl (by kernel_rfl) hg, ?_⟩
      have h73 : A.tmps[73]?.getD undef = .int .i64 0 := he 7 (by kernel_rfl)
      go_simp
      exact ⟨rfl, Below.refl _ _⟩
    · injection ho with ho; subst ho
      refine .inl ⟨wanted_free rfl, ?_⟩
      have h72 : A.tmps[72]?.getD undef = .bool true := he 6 (by kernel_rfl)
      have h74 : A.tmps[74]?.getD undef = .bool true := he 8 (by kernel_rfl)
      go_simp
      exact ⟨rfl, Below.refl _ _⟩
    · injection ho with ho; subst ho
      refine .inl ⟨wanted_free rfl, ?_⟩
      have h75 : A.tmps[75]?.getD undef = .bool true := he 9 (by kernel_rfl)
      go_simp
      exact ⟨rfl, Below.refl _ _⟩
    · injection ho with ho; subst ho
      have hg : A.tmps[76]?.getD undef = .bool true := he 10 (by kernel_rfl)
      refine .inl ⟨wanted_yes (d := 76) rfl (by kernel_rfl) hg, ?_⟩
      have h9 : A.tmps[9]?.getD undef = .int .i64 6 := hk 9 (by rfl)
      go_simp
      exact ⟨rfl, Below.refl _ _⟩
    · injection ho with ho; subst ho
      have hg : A.tmps[76]?.getD undef = .bool true := he 10 (by kernel_rfl)
      refine .inl ⟨wanted_yes (d := 76) rfl (by kernel_rfl) hg, ?_⟩
      have h77 : A.tmps[77]?.getD undef = .int .i64 6 := he 11 (by kernel_rfl)
      go_simp
      exact ⟨rfl, Below.refl _ _⟩
    · injection ho with ho; subst ho
      refine .inl ⟨wanted_free rfl, ?_⟩
      have h76 : A.tmps[76]?.getD undef = .bool true := he 10 (by kernel_rfl)
      have h78 : A.tmps[78]?.getD undef = .bool true := he 12 (by kernel_rfl)
      go_simp
      exact ⟨rfl, Below.refl _ _⟩
    · injection ho with ho; subst ho
      refine .inl ⟨wanted_free rfl, ?_⟩
      have h79 : A.tmps[79]?.getD undef = .bool true := he 13 (by kernel_rfl)
      go_simp
      exact ⟨rfl, Below.refl _ _⟩
    · injection ho with ho; subst ho
      have hg : A.tmps[80]?.getD undef = .bool true := he 14 (by kernel_rfl)
      refine .inl ⟨wanted_yes (d := 80) rfl (by kernel_rfl) hg, ?_⟩
      have h11 : A.tmps[11]?.getD undef = .int .i64 0 := hk 11 (by rfl)
      go_simp
      exact ⟨rfl, Below.refl _ _⟩
    · injection ho with ho; subst ho
      have hg : A.tmps[80]?.getD undef = .bool true := he 14 (by kernel_rfl)
      refine .inl ⟨wanted_yes (d := 80) rfl (by kernel_rfl) hg, ?_⟩
      have h81 : A.tmps[81]?.getD undef = .int .i64 0 := he 15 (by kernel_rfl)
      go_simp
      exact ⟨rfl, Below.refl _ _⟩
    · injection ho with ho; subst ho
      refine .inl ⟨wanted_free rfl, ?_⟩
      have h80 : A.tmps[80]?.getD undef = .bool true := he 14 (by kernel_rfl)
      have h82 : A.tmps[82]?.getD undef = .bool true := he 16 (by kernel_rfl)
      go_simp
      exact ⟨rfl, Below.refl _ _⟩
    · injection ho with ho; subst ho
      refine .inl ⟨wanted_free rfl, ?_⟩
      have h83 : A.tmps[83]?.getD undef = .bool true := he 17 (by kernel_rfl)
      go_simp
      exact ⟨rfl, Below.refl _ _⟩
    · injection ho with ho; subst ho
      have hg : A.tmps[84]?.getD undef = .bool true := he 18 (by kernel_rfl)
      refine .inl ⟨wanted_yes (d := 84) rfl (by kernel_rfl) hg, ?_⟩
      have h6 : A.tmps[6]?.getD undef = .pointer (some ⟨gn, 0, none⟩) := hk 6 (by rfl)
      have c0 := (Sn.out.below hW Sn.out.lt).cell 0
      have c1 := (Sn.out.below hW Sn.out.lt).cell 1
      have c2 := (Sn.out.below hW Sn.out.lt).cell 2
      have c3 := (Sn.out.below hW Sn.out.lt).cell 3
      have c4 := (Sn.out.below hW Sn.out.lt).cell 4
      go_simp
      exact ⟨rfl, Below.refl _ _⟩
    · injection ho with ho; subst ho
      have hg : A.tmps[84]?.getD undef = .bool true := he 18 (by kernel_rfl)
      refine .inl ⟨wanted_yes (d := 84) rfl (by kernel_rfl) hg, ?_⟩
      have h85 : A.tmps[85]?.getD undef = .agg #[.slice (p3 0) (n.row 0).length (c3 0), .slice (p3 1) (n.row 1).length (c3 1), .slice (p3 2) (n.row 2).length (c3 2), .slice (p3 3) (n.row 3).length (c3 3), .int .i64 (n.n : Nat)] := he 19 (by kernel_rfl)
      go_simp
      refine Calls.mono (list_any p3 c3 n HK.out.on 0 W (HN.out.below hW)) ?_
      rintro e' w' ⟨r, d, rfl, _, hb⟩
      exact ⟨_, rfl, ⟨r, d, by rw [HK.out.e9]⟩, hb⟩
    · injection ho with ho; subst ho
      have hg : A.tmps[84]?.getD undef = .bool true := he 18 (by kernel_rfl)
      refine .inl ⟨wanted_yes (d := 84) rfl (by kernel_rfl) hg, ?_⟩
      obtain ⟨r86, d86, h86⟩ : sliceV 3 (A.tmps[86]?.getD undef) W := he 20 (by kernel_rfl)
      go_simp
      exact ⟨rfl, Below.refl _ _⟩
    · injection ho with ho; subst ho
      have hg : A.tmps[84]?.getD undef = .bool true := he 18 (by kernel_rfl)
      refine .inl ⟨wanted_yes (d := 84) rfl (by kernel_rfl) hg, ?_⟩
      have h87 : A.tmps[87]?.getD undef = .int .i64 3 := he 21 (by kernel_rfl)
      go_simp
      exact ⟨rfl, Below.refl _ _⟩
    · injection ho with ho; subst ho
      refine .inl ⟨wanted_free rfl, ?_⟩
      have h84 : A.tmps[84]?.getD undef = .bool true := he 18 (by kernel_rfl)
      have h88 : A.tmps[88]?.getD undef = .bool true := he 22 (by kernel_rfl)
      go_simp
      exact ⟨rfl, Below.refl _ _⟩
    · injection ho with ho; subst ho
      refine .inl ⟨wanted_free rfl, ?_⟩
      have h89 : A.tmps[89]?.getD undef = .bool true := he 23 (by kernel_rfl)
      go_simp
      exact ⟨rfl, Below.refl _ _⟩
    · injection ho with ho; subst ho
      have hg : A.tmps[90]?.getD undef = .bool true := he 24 (by kernel_rfl)
      refine .inl ⟨wanted_yes (d := 90) rfl (by kernel_rfl) hg, ?_⟩
      have h10 : A.tmps[10]?.getD undef = .pointer (some ⟨gk, 0, none⟩) := hk 10 (by rfl)
      have c0 := (Sk.out.below hW Sk.out.lt).cell 0
      have c1 := (Sk.out.below hW Sk.out.lt).cell 1
      have c2 := (Sk.out.below hW Sk.out.lt).cell 2
      have c3 := (Sk.out.below hW Sk.out.lt).cell 3
      have c4 := (Sk.out.below hW Sk.out.lt).cell 4
      go_simp
      exact ⟨rfl, Below.refl _ _⟩
    · injection ho with ho; subst ho
      have hg : A.tmps[90]?.getD undef = .bool true := he 24 (by kernel_rfl)
      refine .inl ⟨wanted_yes (d := 90) rfl (by kernel_rfl) hg, ?_⟩
      have h91 : A.tmps[91]?.getD undef = .agg #[.slice (p5 0) (k.row 0).length (c5 0), .slice (p5 1) (k.row 1).length (c5 1), .slice (p5 2) (k.row 2).length (c5 2), .slice (p5 3) (k.row 3).length (c5 3), .int .i64 (k.n : Nat)] := he 25 (by kernel_rfl)
      go_simp
      refine Calls.mono (list_any p5 c5 k HK.out.ok 0 W (HKK.out.below hW)) ?_
      rintro e' w' ⟨r, d, rfl, _, hb⟩
      exact ⟨_, rfl, ⟨r, d, by rw [HK.out.e10]⟩, hb⟩
    · injection ho with ho; subst ho
      have hg : A.tmps[90]?.getD undef = .bool true := he 24 (by kernel_rfl)
      refine .inl ⟨wanted_yes (d := 90) rfl (by kernel_rfl) hg, ?_⟩
      obtain ⟨r92, d92, h92⟩ : sliceV 2 (A.tmps[92]?.getD undef) W := he 26 (by kernel_rfl)
      go_simp
      exact ⟨rfl, Below.refl _ _⟩
    · injection ho with ho; subst ho
      have hg : A.tmps[90]?.getD undef = .bool true := he 24 (by kernel_rfl)
      refine .inl ⟨wanted_yes (d := 90) rfl (by kernel_rfl) hg, ?_⟩
      have h93 : A.tmps[93]?.getD undef = .int .i64 2 := he 27 (by kernel_rfl)
      go_simp
      exact ⟨rfl, Below.refl _ _⟩
    · injection ho with ho; subst ho
      refine .inl ⟨wanted_free rfl, ?_⟩
      have h90 : A.tmps[90]?.getD undef = .bool true := he 24 (by kernel_rfl)
      have h94 : A.tmps[94]?.getD undef = .bool true := he 28 (by kernel_rfl)
      go_simp
      exact ⟨rfl, Below.refl _ _⟩
    · injection ho with ho; subst ho
      refine .inl ⟨wanted_free rfl, ?_⟩
      have h95 : A.tmps[95]?.getD undef = .bool true := he 29 (by kernel_rfl)
      go_simp
      exact ⟨rfl, Below.refl _ _⟩
    · injection ho with ho; subst ho
      have hg : A.tmps[96]?.getD undef = .bool true := he 30 (by kernel_rfl)
      refine .inl ⟨wanted_yes (d := 96) rfl (by kernel_rfl) hg, ?_⟩
      have h13 : A.tmps[13]?.getD undef = .bool true := hk 13 (by rfl)
      go_simp
      exact ⟨rfl, Below.refl _ _⟩
    · injection ho with ho; subst ho
      refine .inl ⟨wanted_free rfl, ?_⟩
      have h96 : A.tmps[96]?.getD undef = .bool true := he 30 (by kernel_rfl)
      have h97 : A.tmps[97]?.getD undef = .bool true := he 31 (by kernel_rfl)
      go_simp
      exact ⟨rfl, Below.refl _ _⟩
    · injection ho with ho; subst ho
      refine .inl ⟨wanted_free rfl, ?_⟩
      have h98 : A.tmps[98]?.getD undef = .bool true := he 32 (by kernel_rfl)
      go_simp
      exact ⟨rfl, Below.refl _ _⟩
    · injection ho with ho; subst ho
      have hg : A.tmps[99]?.getD undef = .bool true := he 33 (by kernel_rfl)
      refine .inl ⟨wanted_yes (d := 99) rfl (by kernel_rfl) hg, ?_⟩
      have h12 : A.tmps[12]?.getD undef = .pointer (some ⟨gi, 0, none⟩) := hk 12 (by rfl)
      go_simp
      exact ⟨rfl, Below.refl _ _⟩
    · injection ho with ho; subst ho
      have hg : A.tmps[99]?.getD undef = .bool true := he 33 (by kernel_rfl)
      refine .inl ⟨wanted_yes (d := 99) rfl (by kernel_rfl) hg, ?_⟩
      have h100 : A.tmps[100]?.getD undef = .pointer (some ⟨gi, 2, none⟩) := he 34 (by kernel_rfl)
      have c0 := (Si.out.below hW Si.out.lt).cell 2
      go_simp
      exact ⟨rfl, Below.refl _ _⟩
    · injection ho with ho; subst ho
      have hg : A.tmps[99]?.getD undef = .bool true := he 33 (by kernel_rfl)
      refine .inl ⟨wanted_yes (d := 99) rfl (by kernel_rfl) hg, ?_⟩
      have h101 : A.tmps[101]?.getD undef = .int .u64 y.n := he 35 (by kernel_rfl)
      rw [HK.out.e7] at h101
      go_simp
      exact ⟨rfl, Below.refl _ _⟩
    · injection ho with ho; subst ho
      refine .inl ⟨wanted_free rfl, ?_⟩
      have h99 : A.tmps[99]?.getD undef = .bool true := he 33 (by kernel_rfl)
      have h102 : A.tmps[102]?.getD undef = .bool true := he 36 (by kernel_rfl)
      go_simp
      exact ⟨rfl, Below.refl _ _⟩
    · injection ho with ho; subst ho
      refine .inl ⟨wanted_free rfl, ?_⟩
      have h103 : A.tmps[103]?.getD undef = .bool true := he 37 (by kernel_rfl)
      go_simp
      exact ⟨rfl, Below.refl _ _⟩
    · injection ho with ho; subst ho
      have hg : A.tmps[104]?.getD undef = .bool true := he 38 (by kernel_rfl)
      refine .inl ⟨wanted_yes (d := 104) rfl (by kernel_rfl) hg, ?_⟩
      have h6 : A.tmps[6]?.getD undef = .pointer (some ⟨gn, 0, none⟩) := hk 6 (by rfl)
      have c0 := (Sn.out.below hW Sn.out.lt).cell 0
      have c1 := (Sn.out.below hW Sn.out.lt).cell 1
      have c2 := (Sn.out.below hW Sn.out.lt).cell 2
      have c3 := (Sn.out.below hW Sn.out.lt).cell 3
      have c4 := (Sn.out.below hW Sn.out.lt).cell 4
      go_simp
      exact ⟨rfl, Below.refl _ _⟩
    · injection ho with ho; subst ho
      have hg : A.tmps[104]?.getD undef = .bool true := he 38 (by kernel_rfl)
      refine .inl ⟨wanted_yes (d := 104) rfl (by kernel_rfl) hg, ?_⟩
      have h105 : A.tmps[105]?.getD undef = .agg #[.slice (p3 0) (n.row 0).length (c3 0), .slice (p3 1) (n.row 1).length (c3 1), .slice (p3 2) (n.row 2).length (c3 2), .slice (p3 3) (n.row 3).length (c3 3), .int .i64 (n.n : Nat)] := he 39 (by kernel_rfl)
      go_simp
      refine Calls.mono (owned_any p3 c3 n HK.out.on.few 1 W (HN.out.below hW)) ?_
      rintro e' w' ⟨r, d, rfl, _, hb⟩
      exact ⟨_, rfl, ⟨r, d, by rw [HK.out.e11]⟩, hb⟩
    · injection ho with ho; subst ho
      have hg : A.tmps[104]?.getD undef = .bool true := he 38 (by kernel_rfl)
      refine .inl ⟨wanted_yes (d := 104) rfl (by kernel_rfl) hg, ?_⟩
      obtain ⟨r106, d106, h106⟩ : sliceV 2 (A.tmps[106]?.getD undef) W := he 40 (by kernel_rfl)
      go_simp
      exact ⟨rfl, Below.refl _ _⟩
    · injection ho with ho; subst ho
      have hg : A.tmps[104]?.getD undef = .bool true := he 38 (by kernel_rfl)
      refine .inl ⟨wanted_yes (d := 104) rfl (by kernel_rfl) hg, ?_⟩
      have h107 : A.tmps[107]?.getD undef = .int .i64 2 := he 41 (by kernel_rfl)
      go_simp
      exact ⟨rfl, Below.refl _ _⟩
    · injection ho with ho; subst ho
      refine .inl ⟨wanted_free rfl, ?_⟩
      have h104 : A.tmps[104]?.getD undef = .bool true := he 38 (by kernel_rfl)
      have h108 : A.tmps[108]?.getD undef = .bool true := he 42 (by kernel_rfl)
      go_simp
      exact ⟨rfl, Below.refl _ _⟩
    · injection ho with ho; subst ho
      refine .inl ⟨wanted_free rfl, ?_⟩
      have h109 : A.tmps[109]?.getD undef = .bool true := he 43 (by kernel_rfl)
      go_simp
      exact ⟨rfl, Below.refl _ _⟩
    · injection ho with ho; subst ho
      have hg : A.tmps[110]?.getD undef = .bool true := he 44 (by kernel_rfl)
      refine .inl ⟨wanted_yes (d := 110) rfl (by kernel_rfl) hg, ?_⟩
      have h15 : A.tmps[15]?.getD undef = .int .i64 0 := hk 15 (by rfl)
      go_simp
      exact ⟨rfl, Below.refl _ _⟩
    · injection ho with ho; subst ho
      have hg : A.tmps[110]?.getD undef = .bool true := he 44 (by kernel_rfl)
      refine .inl ⟨wanted_yes (d := 110) rfl (by kernel_rfl) hg, ?_⟩
      have h111 : A.tmps[111]?.getD undef = .int .i64 0 := he 45 (by kernel_rfl)
      go_simp
      exact ⟨rfl, Below.refl _ _⟩
    · injection ho with ho; subst ho
      refine .inl ⟨wanted_free rfl, ?_⟩
      have h110 : A.tmps[110]?.getD undef = .bool true := he 44 (by kernel_rfl)
      have h112 : A.tmps[112]?.getD undef = .bool true := he 46 (by kernel_rfl)
      go_simp
      exact ⟨rfl, Below.refl _ _⟩
    · injection ho with ho; subst ho
      refine .inl ⟨wanted_free rfl, ?_⟩
      have h113 : A.tmps[113]?.getD undef = .bool true := he 47 (by kernel_rfl)
      go_simp
      exact ⟨rfl, Below.refl _ _⟩
    · injection ho with ho; subst ho
      have hg : A.tmps[114]?.getD undef = .bool true := he 48 (by kernel_rfl)
      refine .inl ⟨wanted_yes (d := 114) rfl (by kernel_rfl) hg, ?_⟩
      have h14 : A.tmps[14]?.getD undef = .pointer (some ⟨gq, 0, none⟩) := hk 14 (by rfl)
      have c0 := (Sq.out.below hW Sq.out.lt).cell 0
      have c1 := (Sq.out.below hW Sq.out.lt).cell 1
      have c2 := (Sq.out.below hW Sq.out.lt).cell 2
      have c3 := (Sq.out.below hW Sq.out.lt).cell 3
      have c4 := (Sq.out.below hW Sq.out.lt).cell 4
      go_simp
      exact ⟨rfl, Below.refl _ _⟩
    · injection ho with ho; subst ho
      have hg : A.tmps[114]?.getD undef = .bool true := he 48 (by kernel_rfl)
      refine .inl ⟨wanted_yes (d := 114) rfl (by kernel_rfl) hg, ?_⟩
      have h115 : A.tmps[115]?.getD undef = .agg #[.slice (p6 0) (q.row 0).length (c6 0), .slice (p6 1) (q.row 1).length (c6 1), .slice (p6 2) (q.row 2).length (c6 2), .slice (p6 3) (q.row 3).length (c6 3), .int .i64 (q.n : Nat)] := he 49 (by kernel_rfl)
      go_simp
      refine Calls.mono (owned_any p6 c6 q HK.out.oq.few 1 W (HQ.out.below hW)) ?_
      rintro e' w' ⟨r, d, rfl, _, hb⟩
      exact ⟨_, rfl, ⟨r, d, by rw [HK.out.e12]⟩, hb⟩
    · injection ho with ho; subst ho
      have hg : A.tmps[114]?.getD undef = .bool true := he 48 (by kernel_rfl)
      refine .inl ⟨wanted_yes (d := 114) rfl (by kernel_rfl) hg, ?_⟩
      obtain ⟨r116, d116, h116⟩ : sliceV 1 (A.tmps[116]?.getD undef) W := he 50 (by kernel_rfl)
      go_simp
      exact ⟨rfl, Below.refl _ _⟩
    · injection ho with ho; subst ho
      have hg : A.tmps[114]?.getD undef = .bool true := he 48 (by kernel_rfl)
      refine .inl ⟨wanted_yes (d := 114) rfl (by kernel_rfl) hg, ?_⟩
      have h117 : A.tmps[117]?.getD undef = .int .i64 1 := he 51 (by kernel_rfl)
      go_simp
      exact ⟨rfl, Below.refl _ _⟩
    · injection ho with ho; subst ho
      refine .inl ⟨wanted_free rfl, ?_⟩
      have h114 : A.tmps[114]?.getD undef = .bool true := he 48 (by kernel_rfl)
      have h118 : A.tmps[118]?.getD undef = .bool true := he 52 (by kernel_rfl)
      go_simp
      exact ⟨rfl, Below.refl _ _⟩
    · injection ho with ho; subst ho
      refine .inl ⟨wanted_free rfl, ?_⟩
      have h119 : A.tmps[119]?.getD undef = .bool true := he 53 (by kernel_rfl)
      go_simp
      exact ⟨rfl, Below.refl _ _⟩
    · injection ho with ho; subst ho
      have hg : A.tmps[120]?.getD undef = .bool true := he 54 (by kernel_rfl)
      refine .inl ⟨wanted_yes (d := 120) rfl (by kernel_rfl) hg, ?_⟩
      have h6 : A.tmps[6]?.getD undef = .pointer (some ⟨gn, 0, none⟩) := hk 6 (by rfl)
      have c0 := (Sn.out.below hW Sn.out.lt).cell 0
      have c1 := (Sn.out.below hW Sn.out.lt).cell 1
      have c2 := (Sn.out.below hW Sn.out.lt).cell 2
      have c3 := (Sn.out.below hW Sn.out.lt).cell 3
      have c4 := (Sn.out.below hW Sn.out.lt).cell 4
      go_simp
      exact ⟨rfl, Below.refl _ _⟩
    · injection ho with ho; subst ho
      have hg : A.tmps[120]?.getD undef = .bool true := he 54 (by kernel_rfl)
      refine .inl ⟨wanted_yes (d := 120) rfl (by kernel_rfl) hg, ?_⟩
      go_simp
      refine Calls.mono (Vew.at_any 0 1 true W) ?_
      rintro e' w' ⟨rfl, hb⟩
      exact ⟨_, rfl, rfl, hb⟩
    · injection ho with ho; subst ho
      have hg : A.tmps[120]?.getD undef = .bool true := he 54 (by kernel_rfl)
      refine .inl ⟨wanted_yes (d := 120) rfl (by kernel_rfl) hg, ?_⟩
      have h121 : A.tmps[121]?.getD undef = .agg #[.slice (p3 0) (n.row 0).length (c3 0), .slice (p3 1) (n.row 1).length (c3 1), .slice (p3 2) (n.row 2).length (c3 2), .slice (p3 3) (n.row 3).length (c3 3), .int .i64 (n.n : Nat)] := he 55 (by kernel_rfl)
      have h122 : A.tmps[122]?.getD undef = Vew.vewV (Vew.atF 0 1 true) := he 56 (by kernel_rfl)
      go_simp
      refine Calls.mono (closed_any p3 c3 n HK.out.on (Vew.atF 0 1 true) W (HN.out.below hW)) ?_
      rw [HK.out.e13]
      rintro e' w' ⟨rfl, hb⟩
      exact ⟨_, rfl, rfl, hb⟩
    · injection ho with ho; subst ho
      refine .inl ⟨wanted_free rfl, ?_⟩
      have h120 : A.tmps[120]?.getD undef = .bool true := he 54 (by kernel_rfl)
      have h123 : A.tmps[123]?.getD undef = .bool true := he 57 (by kernel_rfl)
      go_simp
      exact ⟨rfl, Below.refl _ _⟩
    · injection ho with ho; subst ho
      refine .inl ⟨wanted_free rfl, ?_⟩
      have h124 : A.tmps[124]?.getD undef = .bool true := he 58 (by kernel_rfl)
      go_simp
      exact ⟨rfl, Below.refl _ _⟩
    · injection ho with ho; subst ho
      have hg : A.tmps[125]?.getD undef = .bool true := he 59 (by kernel_rfl)
      refine .inl ⟨wanted_yes (d := 125) rfl (by kernel_rfl) hg, ?_⟩
      have h6 : A.tmps[6]?.getD undef = .pointer (some ⟨gn, 0, none⟩) := hk 6 (by rfl)
      have c0 := (Sn.out.below hW Sn.out.lt).cell 0
      have c1 := (Sn.out.below hW Sn.out.lt).cell 1
      have c2 := (Sn.out.below hW Sn.out.lt).cell 2
      have c3 := (Sn.out.below hW Sn.out.lt).cell 3
      have c4 := (Sn.out.below hW Sn.out.lt).cell 4
      go_simp
      exact ⟨rfl, Below.refl _ _⟩
    · injection ho with ho; subst ho
      have hg : A.tmps[125]?.getD undef = .bool true := he 59 (by kernel_rfl)
      refine .inl ⟨wanted_yes (d := 125) rfl (by kernel_rfl) hg, ?_⟩
      go_simp
      refine Calls.mono (Vew.at_any 0 3 true W) ?_
      rintro e' w' ⟨rfl, hb⟩
      exact ⟨_, rfl, rfl, hb⟩
    · injection ho with ho; subst ho
      have hg : A.tmps[125]?.getD undef = .bool true := he 59 (by kernel_rfl)
      refine .inl ⟨wanted_yes (d := 125) rfl (by kernel_rfl) hg, ?_⟩
      have h126 : A.tmps[126]?.getD undef = .agg #[.slice (p3 0) (n.row 0).length (c3 0), .slice (p3 1) (n.row 1).length (c3 1), .slice (p3 2) (n.row 2).length (c3 2), .slice (p3 3) (n.row 3).length (c3 3), .int .i64 (n.n : Nat)] := he 60 (by kernel_rfl)
      have h127 : A.tmps[127]?.getD undef = Vew.vewV (Vew.atF 0 3 true) := he 61 (by kernel_rfl)
      go_simp
      refine Calls.mono (closed_any p3 c3 n HK.out.on (Vew.atF 0 3 true) W (HN.out.below hW)) ?_
      rw [HK.out.e14]
      rintro e' w' ⟨rfl, hb⟩
      exact ⟨_, rfl, rfl, hb⟩
    · injection ho with ho; subst ho
      have hg : A.tmps[125]?.getD undef = .bool true := he 59 (by kernel_rfl)
      refine .inl ⟨wanted_yes (d := 125) rfl (by kernel_rfl) hg, ?_⟩
      have h128 : A.tmps[128]?.getD undef = .bool false := he 62 (by kernel_rfl)
      go_simp
      exact ⟨rfl, Below.refl _ _⟩
    · injection ho with ho; subst ho
      refine .inl ⟨wanted_free rfl, ?_⟩
      have h125 : A.tmps[125]?.getD undef = .bool true := he 59 (by kernel_rfl)
      have h129 : A.tmps[129]?.getD undef = .bool true := he 63 (by kernel_rfl)
      go_simp
      exact ⟨rfl, Below.refl _ _⟩
  · intro xs W hW hV
    have e130 : xs 64 = .bool true := hV 64 (by simp)
    simp only [List.length_cons, List.length_nil, Nat.zero_add, Nat.reduceAdd, putL, Act.put, List.setIfInBounds_toArray, List.set_cons_zero, List.set_cons_succ, e130]
    clear hV e130
    have HBW := Lib.hid (HB2.out.trans (hW.mono HB2.out.size))
    clear hW
    go_wp2_with fail
    go_ret
    exact ⟨rfl, HBW.out⟩
end Go.Proofs.Ytokkcbhmmhmfmaa.Mmr
