/- Layer 11 (memory): the document's items, made into the program's. -/
import Derived.Test.YtgkgpehjedmejaaMmrO
import Derived.Test.YtgkgpehjedmejaaMmrP
namespace Go.Proofs.Ytgkgpehjedmejaa.Mmr
open Go.RowKit Go.Proofs.Ytgkgpehjedmejaa.Mem Go.Proofs.Ytgkgpehjedmejaa.Flow

/-- An item as the document has it. -/
abbrev rtCells (x : It) : Array Value := #[.int .i64 x.loc, .int .i64 x.a, .int .i64 x.b, .int .u64 x.n, .int .i64 (x.v 0), .int .i64 (x.v 1), .int .i64 (x.v 2), .int .i64 (x.v 3), .int .i64 (x.v 4), .int .i64 (x.v 5), .int .i64 (x.v 6), .int .i64 (x.v 7), .bool x.res, .int .i64 x.owner]
abbrev rtV (x : It) : Value := .agg (rtCells x)
/-- Its times fit an int. -/
def Rng (x : It) : Prop := x.a.natAbs ≤ 2 ^ 64 ∧ x.b.natAbs ≤ 2 ^ 64
/-- The program's item for one of the document's. -/
def lawI (x : It) : It := if Spn.mayF x.a x.b = true then x else { x with a := -1, b := 0 }
theorem fw_m1 : fw (-1) = 13830554455654793216 := by decide
theorem law_fit (x : It) : FitI (lawI x) := by
  unfold lawI
  by_cases h : Spn.mayF x.a x.b = true
  · rw [if_pos h]; exact fit_may h
  · rw [if_neg h]; exact ⟨by show (-1 : Int).natAbs < 2 ^ 53; decide, by show (0 : Int).natAbs < 2 ^ 53; decide⟩
set_option maxRecDepth 100000 in
theorem view_any (v : Nat → Int) (w : World) : Calls Try.prog 37 #[Vew.vewV v] w (Made (.returned (Vew.vewV v)) w) := by
  go_enter Try.func37, Try.ntmps37
  go_wp2
  exact bodyPost_ret (v := Vew.vewV v) (by simp [results, Try.results37, go_sem]) rfl ⟨rfl, two_low _ _ _⟩
structure ItmAt (w : World) (x : It) (W : World) : Prop where
  at1 : Sits W w.heap.size 60 (rtCells x)
  at2 : Sits W (w.heap.size + 1) 52 zeroIt
  low : Below w.heap.size w W
theorem ItmAt.grown {w W W' : World} {x : It} (h : ItmAt w x W) (hb : Below W.heap.size W W') : ItmAt w x W' :=
  ⟨h.at1.below hb h.at1.lt, h.at2.below hb h.at2.lt, h.low.trans (hb.mono h.low.size)⟩
abbrev outCells (x : It) (p q : Nat) : Array Value := #[.int .i64 x.loc, .complex .f64 p q, .int .u64 x.n, .int .i64 (x.v 0), .int .i64 (x.v 1), .int .i64 (x.v 2), .int .i64 (x.v 3), .int .i64 (x.v 4), .int .i64 (x.v 5), .int .i64 (x.v 6), .int .i64 (x.v 7), .bool x.res, .int .i64 x.owner]
theorem out_one (x : It) (p q : Nat) : (outCells x p q).all (·.oneCell') = true := by simp [outCells, Value.oneCell']
set_option maxRecDepth 100000 in
set_option maxHeartbeats 2000000 in
theorem item_any (x : It) (hr : Rng x) (w : World) : Calls Try.prog 15 #[rtV x] w (Made (.returned (itV (lawI x))) w) := by
  have H0 : Hid (ItmAt w x ((w.alloc (.cells (rtCells x) 60)).alloc (.cells zeroIt 52))) := Lib.hid
    ⟨(Sits.new _ _ _).alloc _, Sits.made (by simp) _ _, two_low _ _ _⟩
  have HRA := Lib.hid hr
  clear hr
  go_enter Try.func15, Try.ntmps15
  go_upto_region 1 with (fail)
  generalize ((w.alloc (.cells (rtCells x) 60)).alloc (.cells zeroIt 52)) = w0 at H0 ⊢
  have c1 : w0.cell? ⟨w.heap.size, 1, none⟩ = some (.int .i64 x.a) := H0.out.at1.cell 1
  have c2 : w0.cell? ⟨w.heap.size, 2, none⟩ = some (.int .i64 x.b) := H0.out.at1.cell 2
  have l1 := H0.out.at1.lt
  cases hm : Spn.mayF x.a x.b
  · have HV : Hid (outCells x 13830554455654793216 0 = itCells (lawI x)) := Lib.hid (by unfold lawI; rw [if_neg (by rw [hm]; simp)]; simp only [itCells, fw_m1, fw_0])
    have HC := Lib.hid (Spn.of_no HRA.out.1 HRA.out.2 hm w0)
    clear hm
    go_wp2_with fail
    refine HC.out.mono ?_
    rintro e w1 ⟨rfl, rfl⟩
    clear HC c1 c2 l1
    have H1 := H0
    clear H0
    go_upto_region 4 with (fail)
    refine wp_flowG [17, 18, 19, 20, 21, 22, 23, 24, 25, 26, 27, 28, 29] [eqV (.pointer (some ⟨w.heap.size, 0, none⟩)), eqV (.int .i64 x.loc), eqV (.complex .f64 13830554455654793216 0), eqV (.pointer (some ⟨w.heap.size, 3, none⟩)), eqV (.int .u64 x.n), eqV (.pointer (some ⟨w.heap.size, 4, none⟩)), eqV (Vew.vewV x.v), eqV (Vew.vewV x.v), eqV (.pointer (some ⟨w.heap.size, 12, none⟩)), eqV (.bool x.res), eqV (.pointer (some ⟨w.heap.size, 13, none⟩)), eqV (.int .i64 x.owner), eqV (.agg (outCells x 13830554455654793216 0))] (by kernel_rfl) (by kernel_rfl) (by kernel_rfl) (by kernel_rfl) (by rfl)
      (by simp only [List.mem_cons, List.not_mem_nil, or_false, forall_eq_or_imp, forall_eq]; refine ⟨?_, ?_, ?_, ?_, ?_, ?_, ?_, ?_, ?_, ?_, ?_, ?_, ?_⟩ <;> exact eqV_mono _) ?_ ?_
    · intro i o hi ho A W hW hk he
      simp only [List.length_cons, List.length_nil, Nat.zero_add, Nat.reduceAdd] at hi
      obtain rfl | rfl | rfl | rfl | rfl | rfl | rfl | rfl | rfl | rfl | rfl | rfl | rfl : i = 0 ∨ i = 1 ∨ i = 2 ∨ i = 3 ∨ i = 4 ∨ i = 5 ∨ i = 6 ∨ i = 7 ∨ i = 8 ∨ i = 9 ∨ i = 10 ∨ i = 11 ∨ i = 12 := by omega
      · injection ho with ho; subst ho
        refine .inl ⟨wanted_free rfl, ?_⟩
        have h1 : A.tmps[1]?.getD undef = .pointer (some ⟨w.heap.size, 0, none⟩) := hk 1 (by rfl)
        go_simp
        exact ⟨rfl, Below.refl _ _⟩
      · injection ho with ho; subst ho
        refine .inl ⟨wanted_free rfl, ?_⟩
        have h17 : A.tmps[17]?.getD undef = .pointer (some ⟨w.heap.size, 0, none⟩) := he 0 (by kernel_rfl)
        have c0 := ((H1.out.grown hW).at1).cell 0
        go_simp
        exact ⟨rfl, Below.refl _ _⟩
      · injection ho with ho; subst ho
        refine .inl ⟨wanted_free rfl, ?_⟩
        have h3 : A.tmps[3]?.getD undef = .complex .f64 13830554455654793216 0 := hk 3 (by rfl)
        go_simp
        exact ⟨rfl, Below.refl _ _⟩
      · injection ho with ho; subst ho
        refine .inl ⟨wanted_free rfl, ?_⟩
        have h1 : A.tmps[1]?.getD undef = .pointer (some ⟨w.heap.size, 0, none⟩) := hk 1 (by rfl)
        go_simp
        exact ⟨rfl, Below.refl _ _⟩
      · injection ho with ho; subst ho
        refine .inl ⟨wanted_free rfl, ?_⟩
        have h20 : A.tmps[20]?.getD undef = .pointer (some ⟨w.heap.size, 3, none⟩) := he 3 (by kernel_rfl)
        have c3 := ((H1.out.grown hW).at1).cell 3
        go_simp
        exact ⟨rfl, Below.refl _ _⟩
      · injection ho with ho; subst ho
        refine .inl ⟨wanted_free rfl, ?_⟩
        have h1 : A.tmps[1]?.getD undef = .pointer (some ⟨w.heap.size, 0, none⟩) := hk 1 (by rfl)
        go_simp
        exact ⟨rfl, Below.refl _ _⟩
      · injection ho with ho; subst ho
        refine .inl ⟨wanted_free rfl, ?_⟩
        have h22 : A.tmps[22]?.getD undef = .pointer (some ⟨w.heap.size, 4, none⟩) := he 5 (by kernel_rfl)
        have c0 := ((H1.out.grown hW).at1).cell 4
        have c1 := ((H1.out.grown hW).at1).cell 5
        have c2 := ((H1.out.grown hW).at1).cell 6
        have c3 := ((H1.out.grown hW).at1).cell 7
        have c4 := ((H1.out.grown hW).at1).cell 8
        have c5 := ((H1.out.grown hW).at1).cell 9
        have c6 := ((H1.out.grown hW).at1).cell 10
        have c7 := ((H1.out.grown hW).at1).cell 11
        go_simp
        exact ⟨rfl, Below.refl _ _⟩
      · injection ho with ho; subst ho
        refine .inl ⟨wanted_free rfl, ?_⟩
        have h23 : A.tmps[23]?.getD undef = Vew.vewV x.v := he 6 (by kernel_rfl)
        go_simp
        refine Calls.mono (view_any x.v W) ?_
        rintro e' w' ⟨rfl, hb⟩
        exact ⟨_, rfl, rfl, hb⟩
      · injection ho with ho; subst ho
        refine .inl ⟨wanted_free rfl, ?_⟩
        have h1 : A.tmps[1]?.getD undef = .pointer (some ⟨w.heap.size, 0, none⟩) := hk 1 (by rfl)
        go_simp
        exact ⟨rfl, Below.refl _ _⟩
      · injection ho with ho; subst ho
        refine .inl ⟨wanted_free rfl, ?_⟩
        have h25 : A.tmps[25]?.getD undef = .pointer (some ⟨w.heap.size, 12, none⟩) := he 8 (by kernel_rfl)
        have c12 := ((H1.out.grown hW).at1).cell 12
        go_simp
        exact ⟨rfl, Below.refl _ _⟩
      · injection ho with ho; subst ho
        refine .inl ⟨wanted_free rfl, ?_⟩
        have h1 : A.tmps[1]?.getD undef = .pointer (some ⟨w.heap.size, 0, none⟩) := hk 1 (by rfl)
        go_simp
        exact ⟨rfl, Below.refl _ _⟩
      · injection ho with ho; subst ho
        refine .inl ⟨wanted_free rfl, ?_⟩
        have h27 : A.tmps[27]?.getD undef = .pointer (some ⟨w.heap.size, 13, none⟩) := he 10 (by kernel_rfl)
        have c13 := ((H1.out.grown hW).at1).cell 13
        go_simp
        exact ⟨rfl, Below.refl _ _⟩
      · injection ho with ho; subst ho
        refine .inl ⟨wanted_free rfl, ?_⟩
        have h18 : A.tmps[18]?.getD undef = .int .i64 x.loc := he 1 (by kernel_rfl)
        have h19 : A.tmps[19]?.getD undef = .complex .f64 13830554455654793216 0 := he 2 (by kernel_rfl)
        have h21 : A.tmps[21]?.getD undef = .int .u64 x.n := he 4 (by kernel_rfl)
        have h24 : A.tmps[24]?.getD undef = Vew.vewV x.v := he 7 (by kernel_rfl)
        have h26 : A.tmps[26]?.getD undef = .bool x.res := he 9 (by kernel_rfl)
        have h28 : A.tmps[28]?.getD undef = .int .i64 x.owner := he 11 (by kernel_rfl)
        go_simp
        exact ⟨rfl, Below.refl _ _⟩
    · intro xs W hW hV
      have e29 : xs 12 = .agg (outCells x 13830554455654793216 0) := hV 12 (by simp)
      simp only [List.length_cons, List.length_nil, Nat.zero_add, Nat.reduceAdd, List.drop_succ_cons, List.drop_zero, putL, Act.put, List.setIfInBounds_toArray, List.set_cons_zero, List.set_cons_succ, e29]
      clear hV e29
      have HB := Lib.hid (H1.out.grown hW)
      clear hW
      refine wpList_store_row rfl 52 _ _ rfl (w.heap.size + 1) (outCells x 13830554455654793216 0) rfl rfl 52 _ HB.out.at2 itSize rfl (out_one _ _ _) ?_
      have s2 : Sits (W.setRow (w.heap.size + 1) (outCells x 13830554455654793216 0)) (w.heap.size + 1) 52 (outCells x 13830554455654793216 0) := setRow_heap W _ _ _ _ _ HB.out.at2
      have HL := Lib.hid (row_low HB.out.low (by omega : w.heap.size ≤ w.heap.size + 1) (outCells x 13830554455654793216 0))
      generalize W.setRow (w.heap.size + 1) (outCells x 13830554455654793216 0) = W2 at s2 HL ⊢
      have c0 := s2.cell 0
      have c1 := s2.cell 1
      have c2 := s2.cell 2
      have c3 := s2.cell 3
      have c4 := s2.cell 4
      have c5 := s2.cell 5
      have c6 := s2.cell 6
      have c7 := s2.cell 7
      have c8 := s2.cell 8
      have c9 := s2.cell 9
      have c10 := s2.cell 10
      have c11 := s2.cell 11
      have c12 := s2.cell 12
      clear s2
      go_wp2_with fail
      exact bodyPost_ret (v := .agg (outCells x 13830554455654793216 0)) (by simp [results, Try.results15, go_sem, c0, c1, c2, c3, c4, c5, c6, c7, c8, c9, c10, c11, c12]) rfl (by have e : Value.agg (outCells x 13830554455654793216 0) = itV (lawI x) := congrArg Value.agg HV.out; rw [e]; exact ⟨rfl, HL.out⟩)
  · have HV : Hid (outCells x (fw x.a) (fw x.b) = itCells (lawI x)) := Lib.hid (by unfold lawI; rw [if_pos hm])
    have HC := Lib.hid (Spn.of_yes HRA.out.1 HRA.out.2 hm w0)
    clear hm
    go_wp2_with fail
    refine HC.out.mono ?_
    rintro e w1 ⟨rfl, rfl⟩
    clear HC c1 c2 l1
    have H1 := H0
    clear H0
    go_upto_region 4 with (fail)
    refine wp_flowG [17, 18, 19, 20, 21, 22, 23, 24, 25, 26, 27, 28, 29] [eqV (.pointer (some ⟨w.heap.size, 0, none⟩)), eqV (.int .i64 x.loc), eqV (.complex .f64 (fw x.a) (fw x.b)), eqV (.pointer (some ⟨w.heap.size, 3, none⟩)), eqV (.int .u64 x.n), eqV (.pointer (some ⟨w.heap.size, 4, none⟩)), eqV (Vew.vewV x.v), eqV (Vew.vewV x.v), eqV (.pointer (some ⟨w.heap.size, 12, none⟩)), eqV (.bool x.res), eqV (.pointer (some ⟨w.heap.size, 13, none⟩)), eqV (.int .i64 x.owner), eqV (.agg (outCells x (fw x.a) (fw x.b)))] (by kernel_rfl) (by kernel_rfl) (by kernel_rfl) (by kernel_rfl) (by rfl)
      (by simp only [List.mem_cons, List.not_mem_nil, or_false, forall_eq_or_imp, forall_eq]; refine ⟨?_, ?_, ?_, ?_, ?_, ?_, ?_, ?_, ?_, ?_, ?_, ?_, ?_⟩ <;> exact eqV_mono _) ?_ ?_
    · intro i o hi ho A W hW hk he
      simp only [List.length_cons, List.length_nil, Nat.zero_add, Nat.reduceAdd] at hi
      obtain rfl | rfl | rfl | rfl | rfl | rfl | rfl | rfl | rfl | rfl | rfl | rfl | rfl : i = 0 ∨ i = 1 ∨ i = 2 ∨ i = 3 ∨ i = 4 ∨ i = 5 ∨ i = 6 ∨ i = 7 ∨ i = 8 ∨ i = 9 ∨ i = 10 ∨ i = 11 ∨ i = 12 := by omega
      · injection ho with ho; subst ho
        refine .inl ⟨wanted_free rfl, ?_⟩
        have h1 : A.tmps[1]?.getD undef = .pointer (some ⟨w.heap.size, 0, none⟩) := hk 1 (by rfl)
        go_simp
        exact ⟨rfl, Below.refl _ _⟩
      · injection ho with ho; subst ho
        refine .inl ⟨wanted_free rfl, ?_⟩
        have h17 : A.tmps[17]?.getD undef = .pointer (some ⟨w.heap.size, 0, none⟩) := he 0 (by kernel_rfl)
        have c0 := ((H1.out.grown hW).at1).cell 0
        go_simp
        exact ⟨rfl, Below.refl _ _⟩
      · injection ho with ho; subst ho
        refine .inl ⟨wanted_free rfl, ?_⟩
        have h3 : A.tmps[3]?.getD undef = .complex .f64 (fw x.a) (fw x.b) := hk 3 (by rfl)
        go_simp
        exact ⟨rfl, Below.refl _ _⟩
      · injection ho with ho; subst ho
        refine .inl ⟨wanted_free rfl, ?_⟩
        have h1 : A.tmps[1]?.getD undef = .pointer (some ⟨w.heap.size, 0, none⟩) := hk 1 (by rfl)
        go_simp
        exact ⟨rfl, Below.refl _ _⟩
      · injection ho with ho; subst ho
        refine .inl ⟨wanted_free rfl, ?_⟩
        have h20 : A.tmps[20]?.getD undef = .pointer (some ⟨w.heap.size, 3, none⟩) := he 3 (by kernel_rfl)
        have c3 := ((H1.out.grown hW).at1).cell 3
        go_simp
        exact ⟨rfl, Below.refl _ _⟩
      · injection ho with ho; subst ho
        refine .inl ⟨wanted_free rfl, ?_⟩
        have h1 : A.tmps[1]?.getD undef = .pointer (some ⟨w.heap.size, 0, none⟩) := hk 1 (by rfl)
        go_simp
        exact ⟨rfl, Below.refl _ _⟩
      · injection ho with ho; subst ho
        refine .inl ⟨wanted_free rfl, ?_⟩
        have h22 : A.tmps[22]?.getD undef = .pointer (some ⟨w.heap.size, 4, none⟩) := he 5 (by kernel_rfl)
        have c0 := ((H1.out.grown hW).at1).cell 4
        have c1 := ((H1.out.grown hW).at1).cell 5
        have c2 := ((H1.out.grown hW).at1).cell 6
        have c3 := ((H1.out.grown hW).at1).cell 7
        have c4 := ((H1.out.grown hW).at1).cell 8
        have c5 := ((H1.out.grown hW).at1).cell 9
        have c6 := ((H1.out.grown hW).at1).cell 10
        have c7 := ((H1.out.grown hW).at1).cell 11
        go_simp
        exact ⟨rfl, Below.refl _ _⟩
      · injection ho with ho; subst ho
        refine .inl ⟨wanted_free rfl, ?_⟩
        have h23 : A.tmps[23]?.getD undef = Vew.vewV x.v := he 6 (by kernel_rfl)
        go_simp
        refine Calls.mono (view_any x.v W) ?_
        rintro e' w' ⟨rfl, hb⟩
        exact ⟨_, rfl, rfl, hb⟩
      · injection ho with ho; subst ho
        refine .inl ⟨wanted_free rfl, ?_⟩
        have h1 : A.tmps[1]?.getD undef = .pointer (some ⟨w.heap.size, 0, none⟩) := hk 1 (by rfl)
        go_simp
        exact ⟨rfl, Below.refl _ _⟩
      · injection ho with ho; subst ho
        refine .inl ⟨wanted_free rfl, ?_⟩
        have h25 : A.tmps[25]?.getD undef = .pointer (some ⟨w.heap.size, 12, none⟩) := he 8 (by kernel_rfl)
        have c12 := ((H1.out.grown hW).at1).cell 12
        go_simp
        exact ⟨rfl, Below.refl _ _⟩
      · injection ho with ho; subst ho
        refine .inl ⟨wanted_free rfl, ?_⟩
        have h1 : A.tmps[1]?.getD undef = .pointer (some ⟨w.heap.size, 0, none⟩) := hk 1 (by rfl)
        go_simp
        exact ⟨rfl, Below.refl _ _⟩
      · injection ho with ho; subst ho
        refine .inl ⟨wanted_free rfl, ?_⟩
        have h27 : A.tmps[27]?.getD undef = .pointer (some ⟨w.heap.size, 13, none⟩) := he 10 (by kernel_rfl)
        have c13 := ((H1.out.grown hW).at1).cell 13
        go_simp
        exact ⟨rfl, Below.refl _ _⟩
      · injection ho with ho; subst ho
        refine .inl ⟨wanted_free rfl, ?_⟩
        have h18 : A.tmps[18]?.getD undef = .int .i64 x.loc := he 1 (by kernel_rfl)
        have h19 : A.tmps[19]?.getD undef = .complex .f64 (fw x.a) (fw x.b) := he 2 (by kernel_rfl)
        have h21 : A.tmps[21]?.getD undef = .int .u64 x.n := he 4 (by kernel_rfl)
        have h24 : A.tmps[24]?.getD undef = Vew.vewV x.v := he 7 (by kernel_rfl)
        have h26 : A.tmps[26]?.getD undef = .bool x.res := he 9 (by kernel_rfl)
        have h28 : A.tmps[28]?.getD undef = .int .i64 x.owner := he 11 (by kernel_rfl)
        go_simp
        exact ⟨rfl, Below.refl _ _⟩
    · intro xs W hW hV
      have e29 : xs 12 = .agg (outCells x (fw x.a) (fw x.b)) := hV 12 (by simp)
      simp only [List.length_cons, List.length_nil, Nat.zero_add, Nat.reduceAdd, List.drop_succ_cons, List.drop_zero, putL, Act.put, List.setIfInBounds_toArray, List.set_cons_zero, List.set_cons_succ, e29]
      clear hV e29
      have HB := Lib.hid (H1.out.grown hW)
      clear hW
      refine wpList_store_row rfl 52 _ _ rfl (w.heap.size + 1) (outCells x (fw x.a) (fw x.b)) rfl rfl 52 _ HB.out.at2 itSize rfl (out_one _ _ _) ?_
      have s2 : Sits (W.setRow (w.heap.size + 1) (outCells x (fw x.a) (fw x.b))) (w.heap.size + 1) 52 (outCells x (fw x.a) (fw x.b)) := setRow_heap W _ _ _ _ _ HB.out.at2
      have HL := Lib.hid (row_low HB.out.low (by omega : w.heap.size ≤ w.heap.size + 1) (outCells x (fw x.a) (fw x.b)))
      generalize W.setRow (w.heap.size + 1) (outCells x (fw x.a) (fw x.b)) = W2 at s2 HL ⊢
      have c0 := s2.cell 0
      have c1 := s2.cell 1
      have c2 := s2.cell 2
      have c3 := s2.cell 3
      have c4 := s2.cell 4
      have c5 := s2.cell 5
      have c6 := s2.cell 6
      have c7 := s2.cell 7
      have c8 := s2.cell 8
      have c9 := s2.cell 9
      have c10 := s2.cell 10
      have c11 := s2.cell 11
      have c12 := s2.cell 12
      clear s2
      go_wp2_with fail
      exact bodyPost_ret (v := .agg (outCells x (fw x.a) (fw x.b))) (by simp [results, Try.results15, go_sem, c0, c1, c2, c3, c4, c5, c6, c7, c8, c9, c10, c11, c12]) rfl (by have e : Value.agg (outCells x (fw x.a) (fw x.b)) = itV (lawI x) := congrArg Value.agg HV.out; rw [e]; exact ⟨rfl, HL.out⟩)
end Go.Proofs.Ytgkgpehjedmejaa.Mmr
