/- Layer 10 (view): the contract of Join. -/
import Derived.Test.YtgkgpehjedmejaaVewA
import Derived.Test.YtgkgpehjedmejaaFlowG
import Derived.Deep.LoopGhost
import Derived.Laws.Tables
namespace Go.Proofs.Ytgkgpehjedmejaa.Vew
open Go.RowKit Go.Proofs.Ytgkgpehjedmejaa.Mem Go.Proofs.Ytgkgpehjedmejaa.Flow

def joins (v : Nat → Int) (us : List (Nat → Int)) : Nat → Int := us.foldl maxF v
theorem joins_take (v : Nat → Int) (us : List (Nat → Int)) (k : Nat) (u : Nat → Int) (h : us[k]? = some u) : joins v (us.take (k + 1)) = maxF (joins v (us.take k)) u := by
  unfold joins
  rw [List.take_add_one, h]
  simp [List.foldl_append]
/-- A row of views lies there. -/
structure VRow (w : World) (g : Nat) (us : List (Nat → Int)) : Prop where
  lt : g < w.heap.size
  cell : ∀ k u, us[k]? = some u → ∀ i, i < 8 → w.cell? ⟨g, k * 8 + i, none⟩ = some (.int .i64 (u i))
theorem VRow.below {w w' : World} {g : Nat} {us : List (Nat → Int)} (h : VRow w g us) (hb : Below w.heap.size w w') : VRow w' g us :=
  ⟨Nat.lt_of_lt_of_le h.lt hb.size, fun k u hk i hi => (hb.cell (p := ⟨g, k * 8 + i, none⟩) h.lt).trans (h.cell k u hk i hi)⟩
abbrev zero8 : Array Value := #[.int .i64 0, .int .i64 0, .int .i64 0, .int .i64 0, .int .i64 0, .int .i64 0, .int .i64 0, .int .i64 0]
structure JoinAt (w : World) (v : Nat → Int) (wx : World) : Prop where
  at2 : Sits wx w.heap.size 50 (vewCells v)
  at4 : Sits wx (w.heap.size + 1) 50 zero8
  low : Below w.heap.size w wx
theorem JoinAt.grown {w wx wy : World} {v : Nat → Int} (h : JoinAt w v wx) (hb : Below wx.heap.size wx wy) : JoinAt w v wy :=
  ⟨h.at2.below hb h.at2.lt, h.at4.below hb h.at4.lt, h.low.trans (hb.mono h.low.size)⟩
theorem JoinAt.put {w wx : World} {v : Nat → Int} (h : JoinAt w v wx) (u : Nat → Int) : JoinAt w u (wx.setRow w.heap.size (vewCells u)) :=
  ⟨setRow_heap wx _ _ _ _ _ h.at2, (setRow_other wx _ _ _ (by omega)).trans h.at4, ⟨h.low.os, h.low.tape, h.low.output, by simpa [World.setRow] using h.low.size, fun b hb => (setRow_other wx _ _ _ (by omega)).trans (h.low.block b hb)⟩⟩
theorem JoinAt.out {w wx : World} {v : Nat → Int} (h : JoinAt w v wx) (u : Nat → Int) : Below w.heap.size w (wx.setRow (w.heap.size + 1) (vewCells u)) :=
  ⟨h.low.os, h.low.tape, h.low.output, by simpa [World.setRow] using h.low.size, fun b hb => (setRow_other wx _ _ _ (by omega)).trans (h.low.block b hb)⟩
theorem vewSize : (Try.prog.info? 50).map (·.size) = some 8 := by kernel_rfl
theorem vew_one (f : Nat → Int) : (vewCells f).all (·.oneCell') = true := by simp [vewCells, Value.oneCell']

set_option maxRecDepth 100000 in
set_option maxHeartbeats 1000000 in
theorem join_any (v : Nat → Int) (us : List (Nat → Int)) (g c : Nat) (hn : us.length ≤ 1000000) (w : World) (hr : VRow w g us) :
    Calls Try.prog 58 #[vewV v, .slice (some ⟨g, 0, none⟩) us.length c] w (Made (.returned (vewV (joins v us))) w) := by
  have HR := Lib.hid hr
  clear hr
  have H0 : Hid (JoinAt w v ((w.alloc (.cells (vewCells v) 50)).alloc (.cells zero8 50))) := Lib.hid ⟨(Sits.new _ _ _).alloc _, Sits.made (by simp) _ _, below_more (below_more (Below.refl _ w) (Nat.le_refl _) _) (by simp) _⟩
  have i1 : (us.length : Int) ≤ 1000000 := by omega
  have hlen := Lib.hid hn
  clear hn
  go_enter Try.func58, Try.ntmps58
  go_wp2
  generalize (w.alloc (.cells (vewCells v) 50)).alloc (.cells zero8 50) = w0 at H0 ⊢
  go_loopg [9] us.length (fun gg v9 wx => ∃ k, k ≤ us.length ∧ gg = us.length - k ∧ v9 = .int .i64 (k : Nat) ∧ Hid (JoinAt w (joins v (us.take k)) wx))
  case atStart => exact ⟨0, by omega, by omega, rfl, H0⟩
  case round =>
    obtain ⟨k, hk, rfl, rfl, HJ⟩ := hrel
    by_cases hlt : k < us.length
    · have j1 : (k : Int) < (us.length : Int) := by omega
      have j0 : (0 : Int) ≤ (k : Int) := by omega
      have hik : us[k]? = some us[k] := List.getElem?_eq_getElem hlt
      have HT := Lib.hid (joins_take v us k _ hik)
      have HC := Lib.hid (HR.out.below HJ.out.low |>.cell k _ hik)
      generalize us[k] = u at HT HC
      generalize joins v (us.take k) = x at HT HJ
      have c0 := HC.out 0 (by omega)
      have c1 := HC.out 1 (by omega)
      have c2 := HC.out 2 (by omega)
      have c3 := HC.out 3 (by omega)
      have c4 := HC.out 4 (by omega)
      have c5 := HC.out 5 (by omega)
      have c6 := HC.out 6 (by omega)
      have c7 := HC.out 7 (by omega)
      have HJA : Hid (JoinAt w x (wr.alloc (.cells (vewCells u) 50))) := Lib.hid (HJ.out.grown ((Below.refl _ _).alloc (Nat.le_refl _) _))
      have HU : Hid (Sits (wr.alloc (.cells (vewCells u) 50)) wr.heap.size 50 (vewCells u)) := Lib.hid (Sits.new _ _ _)
      clear hik HC HJ
      simp only [Nat.add_zero] at c0
      go_wp2_with fail
      change Code.wp _ _ _ _ (wr.alloc (.cells (vewCells u) 50))
      generalize wr.alloc (.cells (vewCells u) 50) = wa at HJA HU ⊢
      clear c0 c1 c2 c3 c4 c5 c6 c7
      generalize wr.heap.size = gu at HU ⊢
      refine wp_flowG [13, 14, 15, 16, 17, 18, 19, 20, 21, 22, 23] [eqV (.pointer (some ⟨w.heap.size, 0, none⟩)), eqV (arr x), eqV (.pointer (some ⟨gu, 0, none⟩)), eqV (arr u), eqV (arr (maxF x u)), eqV (.pointer (some ⟨w.heap.size, 4, none⟩)), eqV (arr (from_ 4 x)), eqV (.pointer (some ⟨gu, 4, none⟩)), eqV (arr (from_ 4 u)), eqV (arr (maxF (from_ 4 x) (from_ 4 u))), eqV (vewV (maxF x u))] (by kernel_rfl) (by kernel_rfl) (by kernel_rfl) (by kernel_rfl) (by rfl)
        (by simp only [List.mem_cons, List.not_mem_nil, or_false, forall_eq_or_imp, forall_eq]; refine ⟨?_, ?_, ?_, ?_, ?_, ?_, ?_, ?_, ?_, ?_, ?_⟩ <;> (first | exact eqV_mono _ | exact rowV_mono _ _ _)) ?_ ?_
      · intro i o hi ho A W hW hk he
        simp only [List.length_cons, List.length_nil, Nat.zero_add, Nat.reduceAdd] at hi
        obtain rfl | rfl | rfl | rfl | rfl | rfl | rfl | rfl | rfl | rfl | rfl : i = 0 ∨ i = 1 ∨ i = 2 ∨ i = 3 ∨ i = 4 ∨ i = 5 ∨ i = 6 ∨ i = 7 ∨ i = 8 ∨ i = 9 ∨ i = 10 := by omega
        · injection ho with ho; subst ho
          refine .inl ⟨wanted_free rfl, ?_⟩
          have h2 : A.tmps[2]?.getD undef = .pointer (some ⟨w.heap.size, 0, none⟩) := hk 2 (by rfl)
          go_simp
          exact ⟨rfl, Below.refl _ _⟩
        · injection ho with ho; subst ho
          refine .inl ⟨wanted_free rfl, ?_⟩
          have h13 : A.tmps[13]?.getD undef = .pointer (some ⟨w.heap.size, 0, none⟩) := he 0 (by kernel_rfl)
          have c0 := ((HJA.out.grown hW).at2).cell 0
          have c1 := ((HJA.out.grown hW).at2).cell 1
          have c2 := ((HJA.out.grown hW).at2).cell 2
          have c3 := ((HJA.out.grown hW).at2).cell 3
          go_simp
          exact ⟨rfl, Below.refl _ _⟩
        · injection ho with ho; subst ho
          refine .inl ⟨wanted_free rfl, ?_⟩
          have h6 : A.tmps[6]?.getD undef = .pointer (some ⟨gu, 0, none⟩) := hk 6 (by rfl)
          go_simp
          exact ⟨rfl, Below.refl _ _⟩
        · injection ho with ho; subst ho
          refine .inl ⟨wanted_free rfl, ?_⟩
          have h15 : A.tmps[15]?.getD undef = .pointer (some ⟨gu, 0, none⟩) := he 2 (by kernel_rfl)
          have c0 := ((HU.out.below hW HU.out.lt)).cell 0
          have c1 := ((HU.out.below hW HU.out.lt)).cell 1
          have c2 := ((HU.out.below hW HU.out.lt)).cell 2
          have c3 := ((HU.out.below hW HU.out.lt)).cell 3
          go_simp
          exact ⟨rfl, Below.refl _ _⟩
        · injection ho with ho; subst ho
          refine .inl ⟨wanted_free rfl, ?_⟩
          have h14 : A.tmps[14]?.getD undef = arr x := he 1 (by kernel_rfl)
          have h16 : A.tmps[16]?.getD undef = arr u := he 3 (by kernel_rfl)
          go_simp
          refine Calls.mono (later_any x u W) ?_
          rintro e' w' ⟨rfl, hb⟩
          exact ⟨_, rfl, rfl, hb⟩
        · injection ho with ho; subst ho
          refine .inl ⟨wanted_free rfl, ?_⟩
          have h2 : A.tmps[2]?.getD undef = .pointer (some ⟨w.heap.size, 0, none⟩) := hk 2 (by rfl)
          go_simp
          exact ⟨rfl, Below.refl _ _⟩
        · injection ho with ho; subst ho
          refine .inl ⟨wanted_free rfl, ?_⟩
          have h18 : A.tmps[18]?.getD undef = .pointer (some ⟨w.heap.size, 4, none⟩) := he 5 (by kernel_rfl)
          have c0 := ((HJA.out.grown hW).at2).cell 4
          have c1 := ((HJA.out.grown hW).at2).cell 5
          have c2 := ((HJA.out.grown hW).at2).cell 6
          have c3 := ((HJA.out.grown hW).at2).cell 7
          go_simp
          exact ⟨rfl, Below.refl _ _⟩
        · injection ho with ho; subst ho
          refine .inl ⟨wanted_free rfl, ?_⟩
          have h6 : A.tmps[6]?.getD undef = .pointer (some ⟨gu, 0, none⟩) := hk 6 (by rfl)
          go_simp
          exact ⟨rfl, Below.refl _ _⟩
        · injection ho with ho; subst ho
          refine .inl ⟨wanted_free rfl, ?_⟩
          have h20 : A.tmps[20]?.getD undef = .pointer (some ⟨gu, 4, none⟩) := he 7 (by kernel_rfl)
          have c0 := ((HU.out.below hW HU.out.lt)).cell 4
          have c1 := ((HU.out.below hW HU.out.lt)).cell 5
          have c2 := ((HU.out.below hW HU.out.lt)).cell 6
          have c3 := ((HU.out.below hW HU.out.lt)).cell 7
          go_simp
          exact ⟨rfl, Below.refl _ _⟩
        · injection ho with ho; subst ho
          refine .inl ⟨wanted_free rfl, ?_⟩
          have h19 : A.tmps[19]?.getD undef = arr (from_ 4 x) := he 6 (by kernel_rfl)
          have h21 : A.tmps[21]?.getD undef = arr (from_ 4 u) := he 8 (by kernel_rfl)
          go_simp
          refine Calls.mono (later_any (from_ 4 x) (from_ 4 u) W) ?_
          rintro e' w' ⟨rfl, hb⟩
          exact ⟨_, rfl, rfl, hb⟩
        · injection ho with ho; subst ho
          refine .inl ⟨wanted_free rfl, ?_⟩
          have h17 : A.tmps[17]?.getD undef = arr (maxF x u) := he 4 (by kernel_rfl)
          have h22 : A.tmps[22]?.getD undef = arr (maxF (from_ 4 x) (from_ 4 u)) := he 9 (by kernel_rfl)
          go_simp
          exact ⟨rfl, Below.refl _ _⟩
      · intro xs W hW hV
        have e23 : xs 10 = vewV (maxF x u) := hV 10 (by simp)
        simp only [List.length_cons, List.length_nil, Nat.zero_add, Nat.reduceAdd, List.drop_succ_cons, List.drop_zero, putL, Act.put, List.setIfInBounds_toArray, List.set_cons_zero, List.set_cons_succ, e23]
        clear hV e23
        have HB := Lib.hid (HJA.out.grown hW)
        clear hW
        refine wpList_store_row rfl 50 _ _ rfl w.heap.size (vewCells (maxF x u)) rfl rfl 50 (vewCells x) HB.out.at2 vewSize rfl (vew_one _) ?_
        have HS := Lib.hid (HB.out.put (maxF x u))
        generalize W.setRow w.heap.size (vewCells (maxF x u)) = W2 at HS ⊢
        go_wp2_with fail
        go_roundg (us.length - (k + 1))
        case measure => omega
        case rel => exact ⟨k + 1, by omega, rfl, by go_num, Lib.hid (by rw [HT.out]; exact HS.out)⟩
    · have HE : Hid (us.take k = us) := Lib.hid (List.take_of_length_le (by omega))
      have j1 : ¬ (k : Int) < (us.length : Int) := by omega
      rw [HE.out] at HJ
      clear HE
      have h2 := HJ.out.at2
      have h4 := HJ.out.at4
      have c0 := h2.cell 0
      have c1 := h2.cell 1
      have c2 := h2.cell 2
      have c3 := h2.cell 3
      have c4 := h2.cell 4
      have c5 := h2.cell 5
      have c6 := h2.cell 6
      have c7 := h2.cell 7
      have HS4 := Lib.hid h4
      clear h2 h4
      go_wp2_with (refine wpList_store_row rfl 50 _ _ rfl (w.heap.size + 1) (vewCells (joins v us)) rfl rfl 50 zero8 HS4.out vewSize rfl (vew_one _) ?_)
      have HB := Lib.hid (HJ.out.out (joins v us))
      have s4 : Sits (wr.setRow (w.heap.size + 1) (vewCells (joins v us))) (w.heap.size + 1) 50 (vewCells (joins v us)) := setRow_heap wr _ _ _ _ _ HS4.out
      generalize wr.setRow (w.heap.size + 1) (vewCells (joins v us)) = W2 at s4 HB ⊢
      clear c0 c1 c2 c3 c4 c5 c6 c7
      have c0 := s4.cell 0
      have c1 := s4.cell 1
      have c2 := s4.cell 2
      have c3 := s4.cell 3
      have c4 := s4.cell 4
      have c5 := s4.cell 5
      have c6 := s4.cell 6
      have c7 := s4.cell 7
      clear s4
      go_wp2_with fail
      exact bodyPost_ret (v := vewV (joins v us)) (by simp [results, Try.results58, go_sem, c0, c1, c2, c3, c4, c5, c6, c7]) rfl ⟨rfl, HB.out⟩
end Go.Proofs.Ytgkgpehjedmejaa.Vew
