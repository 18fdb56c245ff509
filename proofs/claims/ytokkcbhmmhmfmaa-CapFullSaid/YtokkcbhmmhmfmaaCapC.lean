/- Layer 12 (cap): rows of the document's items, opened; wakes, a memory that is known. -/
import Derived.Test.YtokkcbhmmhmfmaaMmrV
import Derived.Test.YtokkcbhmmhmfmaaMmrY
import Derived.Test.YtokkcbhmmhmfmaaCapZ
namespace Go.Proofs.Ytokkcbhmmhmfmaa.Cap
open Go.RowKit Go.ChangeShapes Go.WideShapes Go.ChangeAt Go.Joins Go.Proofs.Ytokkcbhmmhmfmaa.Mem Go.Deep Go.Proofs.Ytokkcbhmmhmfmaa.Mmr
theorem ritem_cells : Try.prog.cellsOf 47 = 14 := by kernel_rfl
section
variable {H : Type} {enc : TypeId × Value → H} {w : World} {base : Nat} {sp : Nat → Bool} {held : Bool}
set_option maxRecDepth 100000 in
theorem ritems_open {v : Value} {d : DataW H} {p : List MemPlace} (hv : Value.okWide Try.prog w .any base 35 v) (h : DataW.Trod enc Try.prog w 0 sp held 35 v d p) :
    ∃ (q : Option Addr) (l : List It) (cap : Nat), v = .slice q l.length cap ∧ l.length ≤ maxLen ∧ Rts w q l ∧ ∀ a ∈ l, Rng a := by
  obtain ⟨q, len, cap, rfl⟩ := okWide_slice Try.underlying35 hv
  obtain ⟨n, hn⟩ := h
  rcases open_slice Try.underlying35 hn with ⟨hcs, _⟩ | ⟨a, len', cap', m, n', D, Pl, hcs, _, hl, hm, hmm, _, hi⟩
  · simp [Value.cells] at hcs
    obtain ⟨rfl, rfl, rfl⟩ := hcs
    exact ⟨none, [], 0, rfl, Nat.zero_le _, fun k x h => by simp at h, fun a ha => by cases ha⟩
  · simp [Value.cells] at hcs
    obtain ⟨rfl, rfl, rfl⟩ := hcs
    have hml : len ≤ m := by rw [hmm]; split <;> omega
    rw [ritem_cells] at hi
    have each : ∀ i, i < len → ∃ y : It, Rng y ∧ ∃ g o, some a = some (⟨g, o, none⟩ : Addr) ∧ g < w.heap.size ∧ ∀ j, j < 14 → w.cell? ⟨g, o + i * 14 + j, none⟩ = (rtCells y)[j]? := fun i hik => by
      obtain ⟨cs, hc, ht⟩ := hi i (by omega)
      obtain ⟨_, hcl, hcc⟩ := World.cells?_some hc
      obtain ⟨b, off, spot⟩ := a
      have hspot : spot = none := by
        obtain ⟨c0, hc0, _⟩ := hi 0 (by omega)
        obtain ⟨_, hl0, hh⟩ := World.cells?_some hc0
        have h0 := hh 0 (by omega)
        rw [List.getElem?_eq_getElem (by omega), Nat.zero_mul] at h0
        exact spot_add (World.cell?_spot h0)
      subst hspot
      obtain ⟨y, hr, hy⟩ := item_open (by omega) ht
      have cell : ∀ j, j < 14 → w.cell? ⟨b, off + i * 14 + j, none⟩ = cs[j]? := fun j hj => by
        have := hcc j (by omega)
        rwa [Mmr.add_plain, Mmr.add_plain] at this
      refine ⟨y, hr, b, off, rfl, ?_, fun j hj => (cell j hj).trans (hy j hj)⟩
      have h0 := (cell 0 (by omega)).trans (hy 0 (by omega))
      exact World.block_lt_of_cell? _ _ h0
    obtain ⟨l, hll, hq⟩ := list_of each
    refine ⟨some a, l, cap, by rw [hll], by omega, fun k y hy => (hq k y hy).2, fun y hy => ?_⟩
    obtain ⟨k, hk⟩ := List.mem_iff_getElem?.1 hy
    exact (hq k y hk).1
end
end Go.Proofs.Ytokkcbhmmhmfmaa.Cap
namespace Go.Proofs.Ytokkcbhmmhmfmaa.Cap
open Go.RowKit Go.Proofs.Ytokkcbhmmhmfmaa.Mem Go.Proofs.Ytokkcbhmmhmfmaa.Flow Go.Proofs.Ytokkcbhmmhmfmaa.Mmr

def x4 : It := ⟨0, 2, 3, 5, Vew.zeroF, false, 1⟩
def y0 : It := ⟨0, 0, 0, 7, Vew.zeroF, false, -1⟩
theorem fw_4 : fw 4 = 4616189618054758400 := by decide
abbrev cells4 : Array Value := #[.int .i64 0, .complex .f64 4611686018427387904 4613937818241073152, .int .u64 5, .int .i64 0, .int .i64 0, .int .i64 0, .int .i64 0, .int .i64 0, .int .i64 0, .int .i64 0, .int .i64 0, .bool false, .int .i64 1]
abbrev cellsA : Array Value := #[.int .i64 0, .complex .f64 0 4611686018427387904, .int .u64 0, .int .i64 0, .int .i64 0, .int .i64 0, .int .i64 0, .int .i64 0, .int .i64 0, .int .i64 0, .int .i64 0, .bool true, .int .i64 (-1)]
abbrev cellsB : Array Value := #[.int .i64 0, .complex .f64 4613937818241073152 4616189618054758400, .int .u64 0, .int .i64 0, .int .i64 0, .int .i64 0, .int .i64 0, .int .i64 0, .int .i64 0, .int .i64 0, .int .i64 0, .bool true, .int .i64 (-1)]
theorem cells4_eq : itCells x4 = cells4 := by simp only [itCells, x4, fw_2, fw_3]; rfl
theorem cellsA_eq : itCells (resI 0 0 2) = cellsA := by simp only [itCells, resI, fw_0, fw_2]; rfl
theorem cellsB_eq : itCells (resI 0 3 4) = cellsB := by simp only [itCells, resI, fw_3, fw_4]; rfl
structure Wk12 (m0 m1 mc : Mm) : Prop where
  e0 : beginE [7] = (m0, 0)
  e1 : addF m0 x4 = (m1, 0)
  e2 : capP m1 = (mc, 0)
  e3 : listF mc 0 = [y0, resI 0 0 2, x4, resI 0 3 4]
  e4 : topP mc 0 = 3 ∧ topP mc 1 = 0 ∧ topP mc 2 = 0 ∧ topP mc 3 = 0
  o0 : OkM m0
  o1 : OkM m1
  oc : OkM mc
theorem ok_cap {m : Mm} (h : OkM m) : OkM (capP m).1 := by
  unfold capP
  cases hu : upP m m.n with
  | none => exact h
  | some f =>
    have : ∀ k {f}, upP m k = some f → OkM f := by
      intro k
      induction k with
      | zero => intro f hf; injection hf with hf; rw [← hf]; exact h
      | succ k ih =>
        intro f hf
        have hf' : (upP m k).bind (fun f => fillP f (k : Nat) (rooms 0 (listF m (k : Nat)))) = some f := hf
        cases hk : upP m k with
        | none => rw [hk] at hf'; cases hf'
        | some g => rw [hk] at hf'; exact fill_ok _ _ (ih hk) hf'
    exact this _ hu
theorem wk12_there : ∃ m0 m1 mc, Wk12 m0 m1 mc := by
  have o0 : OkM (beginL [7]) := ok_begin (by decide) (by decide)
  have o1 := ok_add o0 x4
  have oc := ok_cap o1
  refine ⟨beginL [7], (addF (beginL [7]) x4).1, (capP (addF (beginL [7]) x4).1).1, rfl, pair_of ?_, pair_of ?_, ?_, ?_, o0, o1, oc⟩
  · rfl
  · rfl
  · rfl
  · exact ⟨rfl, rfl, rfl, rfl⟩
set_option maxRecDepth 100000 in
set_option maxHeartbeats 4000000 in
theorem wakes12_any (w : World) : Calls Try.prog 30 #[] w (Made (.returned (.bool true)) w) := by
  obtain ⟨m0, m1, mc, hk⟩ := wk12_there
  have HK := Lib.hid hk
  clear hk
  have HB0 := Lib.hid (one_low w (.cells #[.int .u64 7] 45))
  have HN : Hid (Nums (w.alloc (.cells #[.int .u64 7] 45)) (some ⟨w.heap.size, 0, none⟩) [7]) := Lib.hid fun k x hx => by
    match k, hx with
    | 0, hx => injection hx with hx; subst hx; exact ⟨_, _, rfl, by simp, (cell_of_row _ _ 0 _ _ _ (Sits.new w 45 #[.int .u64 7])).trans rfl⟩
  go_enter Try.func30, Try.ntmps30
  go_wp2_with fail
  generalize w.alloc (.cells #[.int .u64 7] 45) = w0 at HB0 HN ⊢
  have HC := Lib.hid (begin_any (some ⟨w.heap.size, 0, none⟩) 1 [7] (by simp) w0 HN.out)
  rw [HK.out.e0] at HC
  refine HC.out.mono ?_
  rintro e w1 ⟨p0, c0, rfl, hh, hb⟩
  dsimp only at hh ⊢
  have S1 := Lib.hid (Sits.new w1 31 (memCells p0 c0 m0))
  have HH := Lib.hid (hh.below (one_low w1 (.cells (memCells p0 c0 m0) 31)))
  have HB1 : Hid (Below w.heap.size w (w1.alloc (.cells (memCells p0 c0 m0) 31))) := Lib.hid (HB0.out.trans ((hb.trans ((one_low w1 (.cells (memCells p0 c0 m0) 31)).mono hb.size)).mono HB0.out.size))
  have G1 : Hid (w.heap.size ≤ w1.heap.size) := Lib.hid (Nat.le_trans HB0.out.size hb.size)
  clear hb hh HC
  go_upto_region 2 with (fail)
  generalize w1.alloc (.cells (memCells p0 c0 m0) 31) = w2 at S1 HH HB1 ⊢
  generalize w1.heap.size = g1 at S1 G1 ⊢
  have HCA : Hid (Calls Try.prog 15 #[memV p0 c0 m0, .agg cells4] w2 (GivesE (m1, 0) w2)) := Lib.hid (by
    have h := add_any p0 c0 m0 HK.out.o0 x4 (fit_may (by decide)) w2 HH.out
    rw [HK.out.e1, show itV x4 = .agg cells4 from congrArg Value.agg cells4_eq] at h; exact h)
  have b0 : w2.cell? ⟨g1, 0, none⟩ = some (.slice (p0 0) (m0.row 0).length (c0 0)) := S1.out.cell 0
  have b1 : w2.cell? ⟨g1, 1, none⟩ = some (.slice (p0 1) (m0.row 1).length (c0 1)) := S1.out.cell 1
  have b2 : w2.cell? ⟨g1, 2, none⟩ = some (.slice (p0 2) (m0.row 2).length (c0 2)) := S1.out.cell 2
  have b3 : w2.cell? ⟨g1, 3, none⟩ = some (.slice (p0 3) (m0.row 3).length (c0 3)) := S1.out.cell 3
  have b4 : w2.cell? ⟨g1, 4, none⟩ = some (.int .i64 (m0.n : Nat)) := S1.out.cell 4
  have lb := S1.out.lt
  go_wp2_with fail
  refine HCA.out.mono ?_
  rintro e w3 ⟨p1, c1, rfl, hh, hb⟩
  dsimp only at hh ⊢
  have S1b := Lib.hid (S1.out.below hb S1.out.lt)
  have HH1 := Lib.hid hh
  have HB3 := Lib.hid (HB1.out.trans (hb.mono HB1.out.size))
  clear hb hh HCA b0 b1 b2 b3 b4 lb HH
  go_upto_region 3 with (refine wpList_store_row rfl 31 _ _ rfl g1 (memCells p1 c1 m1) rfl rfl 31 _ S1b.out memSize rfl (mem_one _ _ _) ?_)
  have S1c : Hid (Sits (w3.setRow g1 (memCells p1 c1 m1)) g1 31 (memCells p1 c1 m1)) := Lib.hid (setRow_heap w3 _ _ _ _ _ S1b.out)
  have HH2 := Lib.hid (hold_over HH1.out S1b.out (mem_plain _ _ _) (memCells p1 c1 m1))
  have HB4 := Lib.hid (row_low HB3.out G1.out (memCells p1 c1 m1))
  clear S1b HH1 HB3
  generalize w3.setRow g1 (memCells p1 c1 m1) = w4 at S1c HH2 HB4 ⊢
  have b0 : w4.cell? ⟨g1, 0, none⟩ = some (.slice (p1 0) (m1.row 0).length (c1 0)) := S1c.out.cell 0
  have b1 : w4.cell? ⟨g1, 1, none⟩ = some (.slice (p1 1) (m1.row 1).length (c1 1)) := S1c.out.cell 1
  have b2 : w4.cell? ⟨g1, 2, none⟩ = some (.slice (p1 2) (m1.row 2).length (c1 2)) := S1c.out.cell 2
  have b3 : w4.cell? ⟨g1, 3, none⟩ = some (.slice (p1 3) (m1.row 3).length (c1 3)) := S1c.out.cell 3
  have b4 : w4.cell? ⟨g1, 4, none⟩ = some (.int .i64 (m1.n : Nat)) := S1c.out.cell 4
  have lb := S1c.out.lt
  have HCC := Lib.hid (capped_any p1 c1 m1 HK.out.o1 w4 HH2.out)
  rw [HK.out.e2] at HCC
  go_wp2_with fail
  refine HCC.out.mono ?_
  rintro e w5 ⟨p2, c2, rfl, hh, hb⟩
  dsimp only at hh ⊢
  have S4 := Lib.hid (Sits.new w5 31 (memCells p2 c2 mc))
  have HH5 := Lib.hid (hh.below (one_low w5 (.cells (memCells p2 c2 mc) 31)))
  have HB5 : Hid (Below w.heap.size w (w5.alloc (.cells (memCells p2 c2 mc) 31))) := Lib.hid (HB4.out.trans ((hb.trans ((one_low w5 (.cells (memCells p2 c2 mc) 31)).mono hb.size)).mono HB4.out.size))
  clear hb hh HCC b0 b1 b2 b3 b4 lb S1c HH2
  go_upto_region 4 with (fail)
  generalize w5.alloc (.cells (memCells p2 c2 mc) 31) = w6 at S4 HH5 HB5 ⊢
  generalize w5.heap.size = g4 at S4 ⊢
  have b0 : w6.cell? ⟨g4, 0, none⟩ = some (.slice (p2 0) (mc.row 0).length (c2 0)) := S4.out.cell 0
  have b1 : w6.cell? ⟨g4, 1, none⟩ = some (.slice (p2 1) (mc.row 1).length (c2 1)) := S4.out.cell 1
  have b2 : w6.cell? ⟨g4, 2, none⟩ = some (.slice (p2 2) (mc.row 2).length (c2 2)) := S4.out.cell 2
  have b3 : w6.cell? ⟨g4, 3, none⟩ = some (.slice (p2 3) (mc.row 3).length (c2 3)) := S4.out.cell 3
  have b4 : w6.cell? ⟨g4, 4, none⟩ = some (.int .i64 (mc.n : Nat)) := S4.out.cell 4
  have lb := S4.out.lt
  have HCL := Lib.hid (list_any p2 c2 mc HK.out.oc 0 w6 HH5.out)
  rw [HK.out.e3] at HCL
  go_wp2_with fail
  refine HCL.out.mono ?_
  rintro e w7 ⟨r, d, rfl, hr, hb⟩
  obtain ⟨g, o, rfl, lg, hc1⟩ := hr.at (k := 1) (x := resI 0 0 2) rfl
  obtain ⟨g', o', e', lg', hc3⟩ := hr.at (k := 3) (x := resI 0 3 4) rfl
  rw [cellsA_eq] at hc1
  rw [cellsB_eq] at hc3
  injection e' with e'; injection e' with e1 e2; subst e1 e2
  have S4b := Lib.hid (S4.out.below hb S4.out.lt)
  have HH7 := Lib.hid (HH5.out.below hb)
  have HB7 := Lib.hid (HB5.out.trans (hb.mono HB5.out.size))
  clear hb HCL b0 b1 b2 b3 b4 lb S4 HH5 hr lg'
  have a0 : w7.cell? ⟨g, o + 13, none⟩ = some (.int .i64 0) := hc1 0 (by omega)
  have a1 : w7.cell? ⟨g, o + 14, none⟩ = some (.complex .f64 0 4611686018427387904) := hc1 1 (by omega)
  have a2 : w7.cell? ⟨g, o + 15, none⟩ = some (.int .u64 0) := hc1 2 (by omega)
  have a3 : w7.cell? ⟨g, o + 16, none⟩ = some (.int .i64 0) := hc1 3 (by omega)
  have a4 : w7.cell? ⟨g, o + 17, none⟩ = some (.int .i64 0) := hc1 4 (by omega)
  have a5 : w7.cell? ⟨g, o + 18, none⟩ = some (.int .i64 0) := hc1 5 (by omega)
  have a6 : w7.cell? ⟨g, o + 19, none⟩ = some (.int .i64 0) := hc1 6 (by omega)
  have a7 : w7.cell? ⟨g, o + 20, none⟩ = some (.int .i64 0) := hc1 7 (by omega)
  have a8 : w7.cell? ⟨g, o + 21, none⟩ = some (.int .i64 0) := hc1 8 (by omega)
  have a9 : w7.cell? ⟨g, o + 22, none⟩ = some (.int .i64 0) := hc1 9 (by omega)
  have a10 : w7.cell? ⟨g, o + 23, none⟩ = some (.int .i64 0) := hc1 10 (by omega)
  have a11 : w7.cell? ⟨g, o + 24, none⟩ = some (.bool true) := hc1 11 (by omega)
  have a12 : w7.cell? ⟨g, o + 25, none⟩ = some (.int .i64 (-1)) := hc1 12 (by omega)
  have d0 : w7.cell? ⟨g, o + 39, none⟩ = some (.int .i64 0) := hc3 0 (by omega)
  have d1 : w7.cell? ⟨g, o + 40, none⟩ = some (.complex .f64 4613937818241073152 4616189618054758400) := hc3 1 (by omega)
  have d2 : w7.cell? ⟨g, o + 41, none⟩ = some (.int .u64 0) := hc3 2 (by omega)
  have d3 : w7.cell? ⟨g, o + 42, none⟩ = some (.int .i64 0) := hc3 3 (by omega)
  have d4 : w7.cell? ⟨g, o + 43, none⟩ = some (.int .i64 0) := hc3 4 (by omega)
  have d5 : w7.cell? ⟨g, o + 44, none⟩ = some (.int .i64 0) := hc3 5 (by omega)
  have d6 : w7.cell? ⟨g, o + 45, none⟩ = some (.int .i64 0) := hc3 6 (by omega)
  have d7 : w7.cell? ⟨g, o + 46, none⟩ = some (.int .i64 0) := hc3 7 (by omega)
  have d8 : w7.cell? ⟨g, o + 47, none⟩ = some (.int .i64 0) := hc3 8 (by omega)
  have d9 : w7.cell? ⟨g, o + 48, none⟩ = some (.int .i64 0) := hc3 9 (by omega)
  have d10 : w7.cell? ⟨g, o + 49, none⟩ = some (.int .i64 0) := hc3 10 (by omega)
  have d11 : w7.cell? ⟨g, o + 50, none⟩ = some (.bool true) := hc3 11 (by omega)
  have d12 : w7.cell? ⟨g, o + 51, none⟩ = some (.int .i64 (-1)) := hc3 12 (by omega)
  clear hc1 hc3
  have b0 : w7.cell? ⟨g4, 0, none⟩ = some (.slice (p2 0) (mc.row 0).length (c2 0)) := S4b.out.cell 0
  have b1 : w7.cell? ⟨g4, 1, none⟩ = some (.slice (p2 1) (mc.row 1).length (c2 1)) := S4b.out.cell 1
  have b2 : w7.cell? ⟨g4, 2, none⟩ = some (.slice (p2 2) (mc.row 2).length (c2 2)) := S4b.out.cell 2
  have b3 : w7.cell? ⟨g4, 3, none⟩ = some (.slice (p2 3) (mc.row 3).length (c2 3)) := S4b.out.cell 3
  have b4 : w7.cell? ⟨g4, 4, none⟩ = some (.int .i64 (mc.n : Nat)) := S4b.out.cell 4
  have lb := S4b.out.lt
  have q1 : ∀ W, (Op.equalIn 9999 54 (.complex .f64 0 4611686018427387904) (.complex .f64 0 4611686018427387904)).run Try.prog W = .ok true W := fun W => by rw [eq_cpx]; congr 1
  have q2 : ∀ W, (Op.equalIn 9999 54 (.complex .f64 4613937818241073152 4616189618054758400) (.complex .f64 4613937818241073152 4616189618054758400)).run Try.prog W = .ok true W := fun W => by rw [eq_cpx]; congr 1
  have q3 : ∀ W, (Op.equalIn 9999 55 (.agg #[.int .i64 0, .int .i64 0, .int .i64 0, .int .i64 0, .int .i64 0, .int .i64 0, .int .i64 0, .int .i64 0]) (.agg #[.int .i64 0, .int .i64 0, .int .i64 0, .int .i64 0, .int .i64 0, .int .i64 0, .int .i64 0, .int .i64 0])).run Try.prog W = .ok true W := fun W => eq_vew9 Vew.zeroF Vew.zeroF W
  have q4 : ∀ W, (binOp .eql 24 (.agg #[.int .i64 3, .int .i64 0, .int .i64 0, .int .i64 0]) (.agg #[.int .i64 3, .int .i64 0, .int .i64 0, .int .i64 0])).run Try.prog W = .ok (.bool true) W := fun W => Vew.eql_arr (fun i => if i = 0 then 3 else 0) (fun i => if i = 0 then 3 else 0) W
  have q5 : ∀ u v W, (eqGuard .eql 24 u v (.agg #[.int .i64 3, .int .i64 0, .int .i64 0, .int .i64 0]) (.agg #[.int .i64 3, .int .i64 0, .int .i64 0, .int .i64 0])).run Try.prog W = .ok () W := fun u v W => Vew.guard_arr .eql u v (fun i => if i = 0 then 3 else 0) (fun i => if i = 0 then 3 else 0) W
  have q6 : ∀ u v W, (eqGuard .eql 57 u v (.agg cellsA) (.agg cellsA)).run Try.prog W = .ok () W := fun u v W => run_eqGuard_agg W .eql 57 u v _ _ (by kernel_rfl)
  have q7 : ∀ u v W, (eqGuard .eql 57 u v (.agg cellsB) (.agg cellsB)).run Try.prog W = .ok () W := fun u v W => run_eqGuard_agg W .eql 57 u v _ _ (by kernel_rfl)
  have q8 : ∀ W, (binOp .eql 57 (.agg cellsA) (.agg cellsA)).run Try.prog W = .ok (.bool true) W := fun W => by
    have h := eql_it (resI 0 0 2) (resI 0 0 2) (fit_may (by decide)) (fit_may (by decide)) W
    rw [show itV (resI 0 0 2) = .agg cellsA from congrArg Value.agg cellsA_eq, same_self] at h; exact h
  have q9 : ∀ W, (binOp .eql 57 (.agg cellsB) (.agg cellsB)).run Try.prog W = .ok (.bool true) W := fun W => by
    have h := eql_it (resI 0 3 4) (resI 0 3 4) (fit_may (by decide)) (fit_may (by decide)) W
    rw [show itV (resI 0 3 4) = .agg cellsB from congrArg Value.agg cellsB_eq, same_self] at h; exact h
  have HCT : Hid (Calls Try.prog 34 #[memV p2 c2 mc] w7 (Made (.returned (.agg #[.int .i64 3, .int .i64 0, .int .i64 0, .int .i64 0])) w7)) := Lib.hid (by
    have h := top_any p2 c2 mc HK.out.oc w7 HH7.out
    unfold arrC at h
    rw [HK.out.e4.1, HK.out.e4.2.1, HK.out.e4.2.2.1, HK.out.e4.2.2.2] at h; exact h)
  go_wp2_with fail
  refine HCT.out.mono ?_
  rintro e w8 ⟨rfl, hb⟩
  have HB8 := Lib.hid (HB7.out.trans (hb.mono HB7.out.size))
  clear hb HCT
  go_wp2_with fail
  go_ret
  exact ⟨rfl, HB8.out⟩
end Go.Proofs.Ytokkcbhmmhmfmaa.Cap
