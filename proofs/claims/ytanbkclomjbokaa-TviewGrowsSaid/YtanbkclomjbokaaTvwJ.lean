/- Layer 13 (tview): Join of views that lie amid a block. -/
import Derived.Test.YtanbkclomjbokaaTvwA
namespace Go.Proofs.Ytanbkclomjbokaa.Tvw
open Go.RowKit Go.Proofs.Ytanbkclomjbokaa.Mem Go.Proofs.Ytanbkclomjbokaa.Flow Go.Proofs.Ytanbkclomjbokaa.Vew

/-- A row of views lies there. -/
structure ORow (w : World) (g o : Nat) (us : List (Nat → Int)) : Prop where
  lt : g < w.heap.size
  cell : ∀ k u, us[k]? = some u → ∀ i, i < 8 → w.cell? ⟨g, o + k * 8 + i, none⟩ = some (.int .i64 (u i))
theorem ORow.below {w w' : World} {g o : Nat} {us : List (Nat → Int)} (h : ORow w g o us) (hb : Below w.heap.size w w') : ORow w' g o us :=
  ⟨Nat.lt_of_lt_of_le h.lt hb.size, fun k u hk i hi => (hb.cell (p := ⟨g, o + k * 8 + i, none⟩) h.lt).trans (h.cell k u hk i hi)⟩
set_option maxRecDepth 100000 in
set_option maxHeartbeats 1000000 in
theorem join_off (v : Nat → Int) (us : List (Nat → Int)) (g o c : Nat) (hn : us.length ≤ 1000000) (w : World) (hr : ORow w g o us) :
    Calls Try.prog 21 #[vewV v, .slice (some ⟨g, o, none⟩) us.length c] w (Made (.returned (vewV (joins v us))) w) := by
  have HR := Lib.hid hr
  clear hr
  have H0 : Hid (JoinAt w v ((w.alloc (.cells (vewCells v) 26)).alloc (.cells zero8 26))) := Lib.hid ⟨(Sits.new _ _ _).alloc _, Sits.made (by simp) _ _, below_more (below_more (Below.refl _ w) (Nat.le_refl _) _) (by simp) _⟩
  have i1 : (us.length : Int) ≤ 1000000 := by omega
  have hlen := Lib.hid hn
  clear hn
  go_enter Try.func21, Try.ntmps21
  go_wp2
  generalize (w.alloc (.cells (vewCells v) 26)).alloc (.cells zero8 26) = w0 at H0 ⊢
  go_loopg [9] us.length (fun gg v9 wx => ∃ k, k ≤ us.length ∧ gg = us.length - k ∧ v9 = .int .i64 (k : Nat) ∧ Hid (JoinAt w (joins v (us.take k)) wx))
  case atStart => exact ⟨0, by omega, by omega, rfl, H0⟩
  case round =>
    obtain ⟨k, hk, rfl, rfl, HJ⟩ := hrel
    by_cases hlt : k < us.length
    · have j1 : (k : Int) < (us.length : Int) := by omega
      have j0 : (0 : Int) ≤ (k : Int) := by omega
      have hik : us[k]? = some us[k] := List.getElem?_eq_getElem hlt
      have HT := Lib.hid (joins_take v us k _ hik)
      have HC := Lib.hid (HR.out.below HJ.out.low |>.cell k _ hik)
      generalize us[k] = u at HT HC
      generalize joins v (us.take k) = x at HT HJ
      have c0 := HC.out 0 (by omega)
      have c1 := HC.out 1 (by omega)
      have c2 := HC.out 2 (by omega)
      have c3 := HC.out 3 (by omega)
      have c4 := HC.out 4 (by omega)
      have c5 := HC.out 5 (by omega)
      have c6 := HC.out 6 (by omega)
      have c7 := HC.out 7 (by omega)
      have HJA : Hid (JoinAt w x (wr.alloc (.cells (vewCells u) 26))) := Lib.hid (HJ.out.grown ((Below.refl _ _).alloc (Nat.le_refl _) _))
      have HU : Hid (Sits (wr.alloc (.cells (vewCells u) 26)) wr.heap.size 26 (vewCells u)) := Lib.hid (Sits.new _ _ _)
      clear hik HC HJ
      simp only [Nat.add_zero] at c0
      go_wp2_with fail
      change Code.wp _ _ _ _ (wr.alloc (.cells (vewCells u) 26))
      generalize wr.alloc (.cells (vewCells u) 26) = wa at HJA HU ⊢
      clear c0 c1 c2 c3 c4 c5 c6 c7
      generalize wr.heap.size = gu at HU ⊢
      refine wp_flowG [13, 14, 15, 16, 17, 18, 19, 20, 21, 22, 23] [eqV (.pointer (some ⟨w.heap.size, 0, none⟩)), eqV (arr x), eqV (.pointer (some ⟨gu, 0, none⟩)), eqV (arr u), eqV (arr (maxF x u)), eqV (.pointer (some ⟨w.heap.size, 4, none⟩)), eqV (arr (from_ 4 x)), eqV (.pointer (some ⟨gu, 4, none⟩)), eqV (arr (from_ 4 u)), eqV (arr (maxF (from_ 4 x) (from_ 4 u))), eqV (vewV (maxF x u))] (by kernel_rfl) (by kernel_rfl) (by kernel_rfl) (by kernel_rfl) (by rfl)
        (by simp only [List.mem_cons, List.not_mem_nil, or_false, forall_eq_or_imp, forall_eq]; refine ⟨?_, ?_, ?_, ?_, ?_, ?_, ?_, ?_, ?_, ?_, ?_⟩ <;> (first | exact eqV_mono _ | exact rowV_mono _ _ _)) ?_ ?_
      · intro i o hi ho A W hW hk he
        simp only [List.length_cons, List.length_nil, Nat.zero_add, Nat.reduceAdd] at hi
        obtain rfl | rfl | rfl | rfl | rfl | rfl | rfl | rfl | rfl | rfl | rfl : i = 0 ∨ i = 1 ∨ i = 2 ∨ i = 3 ∨ i = 4 ∨ i = 5 ∨ i = 6 ∨ i = 7 ∨ i = 8 ∨ i = 9 ∨ i = 10 := by omega
        · injection ho with ho; subst ho
          refine .inl ⟨wanted_free rfl, ?_⟩
          have h2 : A.tmps[2]?.getD undef = .pointer (some ⟨w.heap.size, 0, none⟩) := hk 2 (by rfl)
          go_simp
          exact ⟨rfl, Below.refl _ _⟩
        · injection ho with ho; subst ho
          refine .inl ⟨wanted_free rfl, ?_⟩
          have h13 : A.tmps[13]?.getD undef = .pointer (some ⟨w.heap.size, 0, none⟩) := he 0 (by kernel_rfl)
          have c0 := ((HJA.out.grown hW).at2).cell 0
          have c1 := ((HJA.out.grown hW).at2).cell 1
          have c2 := ((HJA.out.grown hW).at2).cell 2
          have c3 := ((HJA.out.grown hW).at2).cell 3
          go_simp
          exact ⟨rfl, Below.refl _ _⟩
        · injection ho with ho; subst ho
          refine .inl ⟨wanted_free rfl, ?_⟩
          have h6 : A.tmps[6]?.getD undef = .pointer (some ⟨gu, 0, none⟩) := hk 6 (by rfl)
          go_simp
          exact ⟨rfl, Below.refl _ _⟩
        · injection ho with ho; subst ho
          refine .inl ⟨wanted_free rfl, ?_⟩
          have h15 : A.tmps[15]?.getD undef = .pointer (some ⟨gu, 0, none⟩) := he 2 (by kernel_rfl)
          have c0 := ((HU.out.below hW HU.out.lt)).cell 0
          have c1 := ((HU.out.below hW HU.out.lt)).cell 1
          have c2 := ((HU.out.below hW HU.out.lt)).cell 2
          have c3 := ((HU.out.below hW HU.out.lt)).cell 3
          go_simp
          exact ⟨rfl, Below.refl _ _⟩
        · injection ho with ho; subst ho
          refine .inl ⟨wanted_free rfl, ?_⟩
          have h14 : A.tmps[14]?.getD undef = arr x := he 1 (by kernel_rfl)
          have h16 : A.tmps[16]?.getD undef = arr u := he 3 (by kernel_rfl)
          go_simp
          refine Calls.mono (later_any x u W) ?_
          rintro e' w' ⟨rfl, hb⟩
          exact ⟨_, rfl, rfl, hb⟩
        · injection ho with ho; subst ho
          refine .inl ⟨wanted_free rfl, ?_⟩
          have h2 : A.tmps[2]?.getD undef = .pointer (some ⟨w.heap.size, 0, none⟩) := hk 2 (by rfl)
          go_simp
          exact ⟨rfl, Below.refl _ _⟩
        · injection ho with ho; subst ho
          refine .inl ⟨wanted_free rfl, ?_⟩
          have h18 : A.tmps[18]?.getD undef = .pointer (some ⟨w.heap.size, 4, none⟩) := he 5 (by kernel_rfl)
          have c0 := ((HJA.out.grown hW).at2).cell 4
          have c1 := ((HJA.out.grown hW).at2).cell 5
          have c2 := ((HJA.out.grown hW).at2).cell 6
          have c3 := ((HJA.out.grown hW).at2).cell 7
          go_simp
          exact ⟨rfl, Below.refl _ _⟩
        · injection ho with ho; subst ho
          refine .inl ⟨wanted_free rfl, ?_⟩
          have h6 : A.tmps[6]?.getD undef = .pointer (some ⟨gu, 0, none⟩) := hk 6 (by rfl)
          go_simp
          exact ⟨rfl, Below.refl _ _⟩
        · injection ho with ho; subst ho
          refine .inl ⟨wanted_free rfl, ?_⟩
          have h20 : A.tmps[20]?.getD undef = .pointer (some ⟨gu, 4, none⟩) := he 7 (by kernel_rfl)
          have c0 := ((HU.out.below hW HU.out.lt)).cell 4
          have c1 := ((HU.out.below hW HU.out.lt)).cell 5
          have c2 := ((HU.out.below hW HU.out.lt)).cell 6
          have c3 := ((HU.out.below hW HU.out.lt)).cell 7
          go_simp
          exact ⟨rfl, Below.refl _ _⟩
        · injection ho with ho; subst ho
          refine .inl ⟨wanted_free rfl, ?_⟩
          have h19 : A.tmps[19]?.getD undef = arr (from_ 4 x) := he 6 (by kernel_rfl)
          have h21 : A.tmps[21]?.getD undef = arr (from_ 4 u) := he 8 (by kernel_rfl)
          go_simp
          refine Calls.mono (later_any (from_ 4 x) (from_ 4 u) W) ?_
          rintro e' w' ⟨rfl, hb⟩
          exact ⟨_, rfl, rfl, hb⟩
        · injection ho with ho; subst ho
          refine .inl ⟨wanted_free rfl, ?_⟩
          have h17 : A.tmps[17]?.getD undef = arr (maxF x u) := he 4 (by kernel_rfl)
          have h22 : A.tmps[22]?.getD undef = arr (maxF (from_ 4 x) (from_ 4 u)) := he 9 (by kernel_rfl)
          go_simp
          exact ⟨rfl, Below.refl _ _⟩
      · intro xs W hW hV
        have e23 : xs 10 = vewV (maxF x u) := hV 10 (by simp)
        simp only [List.length_cons, List.length_nil, Nat.zero_add, Nat.reduceAdd, List.drop_succ_cons, List.drop_zero, putL, Act.put, List.setIfInBounds_toArray, List.set_cons_zero, List.set_cons_succ, e23]
        clear hV e23
        have HB := Lib.hid (HJA.out.grown hW)
        clear hW
        refine wpList_store_row rfl 26 _ _ rfl w.heap.size (vewCells (maxF x u)) rfl rfl 26 (vewCells x) HB.out.at2 vewSize rfl (vew_one _) ?_
        have HS := Lib.hid (HB.out.put (maxF x u))
        generalize W.setRow w.heap.size (vewCells (maxF x u)) = W2 at HS ⊢
        go_wp2_with fail
        go_roundg (us.length - (k + 1))
        case measure => omega
        case rel => exact ⟨k + 1, by omega, rfl, by go_num, Lib.hid (by rw [HT.out]; exact HS.out)⟩
    · have HE : Hid (us.take k = us) := Lib.hid (List.take_of_length_le (by omega))
      have j1 : ¬ (k : Int) < (us.length : Int) := by omega
      rw [HE.out] at HJ
      clear HE
      have h2 := HJ.out.at2
      have h4 := HJ.out.at4
      have c0 := h2.cell 0
      have c1 := h2.cell 1
      have c2 := h2.cell 2
      have c3 := h2.cell 3
      have c4 := h2.cell 4
      have c5 := h2.cell 5
      have c6 := h2.cell 6
      have c7 := h2.cell 7
      have HS4 := Lib.hid h4
      clear h2 h4
      go_wp2_with (refine wpList_store_row rfl 26 _ _ rfl (w.heap.size + 1) (vewCells (joins v us)) rfl rfl 26 zero8 HS4.out vewSize rfl (vew_one _) ?_)
      have HB := Lib.hid (HJ.out.out (joins v us))
      have s4 : Sits (wr.setRow (w.heap.size + 1) (vewCells (joins v us))) (w.heap.size + 1) 26 (vewCells (joins v us)) := setRow_heap wr _ _ _ _ _ HS4.out
      generalize wr.setRow (w.heap.size + 1) (vewCells (joins v us)) = W2 at s4 HB ⊢
      clear c0 c1 c2 c3 c4 c5 c6 c7
      have c0 := s4.cell 0
      have c1 := s4.cell 1
      have c2 := s4.cell 2
      have c3 := s4.cell 3
      have c4 := s4.cell 4
      have c5 := s4.cell 5
      have c6 := s4.cell 6
      have c7 := s4.cell 7
      clear s4
      go_wp2_with fail
      exact bodyPost_ret (v := vewV (joins v us)) (by simp [results, Try.results21, go_sem, c0, c1, c2, c3, c4, c5, c6, c7]) rfl ⟨rfl, HB.out⟩
end Go.Proofs.Ytanbkclomjbokaa.Tvw
