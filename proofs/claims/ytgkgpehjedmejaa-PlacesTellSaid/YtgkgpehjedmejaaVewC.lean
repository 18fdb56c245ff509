/- Layer 10 (view): the contracts of Join of none, one, two; Within, May, At. -/
import Derived.Test.YtgkgpehjedmejaaVewB
namespace Go.Proofs.Ytgkgpehjedmejaa.Vew
open Go.RowKit Go.Proofs.Ytgkgpehjedmejaa.Mem Go.Proofs.Ytgkgpehjedmejaa.Flow

abbrev vews1 (a : Nat → Int) : Array Value := vewCells a
abbrev vews2 (a b : Nat → Int) : Array Value := #[.int .i64 (a 0), .int .i64 (a 1), .int .i64 (a 2), .int .i64 (a 3), .int .i64 (a 4), .int .i64 (a 5), .int .i64 (a 6), .int .i64 (a 7), .int .i64 (b 0), .int .i64 (b 1), .int .i64 (b 2), .int .i64 (b 3), .int .i64 (b 4), .int .i64 (b 5), .int .i64 (b 6), .int .i64 (b 7)]
theorem at8 (f : Nat → Int) : ∀ i, i < 8 → (vewCells f)[i]? = some (.int .i64 (f i))
  | 0, _ => rfl
  | 1, _ => rfl
  | 2, _ => rfl
  | 3, _ => rfl
  | 4, _ => rfl
  | 5, _ => rfl
  | 6, _ => rfl
  | 7, _ => rfl
  | (n + 8), h => absurd h (by omega)
theorem row_one {w : World} {g : Nat} {a : Nat → Int} (h : Sits w g 50 (vewCells a)) : VRow w g [a] :=
  ⟨h.lt, fun k u hk i hi => by
    cases k with
    | zero => simp only [List.getElem?_cons_zero, Option.some.injEq] at hk; subst hk; rw [h.cell, Nat.zero_mul, Nat.zero_add]; exact at8 a i hi
    | succ k => simp at hk⟩
theorem at16 (a b : Nat → Int) (i : Nat) (h : i < 8) : (vews2 a b)[i]? = some (.int .i64 (a i)) ∧ (vews2 a b)[8 + i]? = some (.int .i64 (b i)) := by
  rcases (by omega : i = 0 ∨ i = 1 ∨ i = 2 ∨ i = 3 ∨ i = 4 ∨ i = 5 ∨ i = 6 ∨ i = 7) with rfl | rfl | rfl | rfl | rfl | rfl | rfl | rfl <;> exact ⟨rfl, rfl⟩
theorem row_two {w : World} {g : Nat} {a b : Nat → Int} (h : Sits w g 50 (vews2 a b)) : VRow w g [a, b] :=
  ⟨h.lt, fun k u hk i hi => by
    rcases k with _ | _ | k
    · simp only [List.getElem?_cons_zero, Option.some.injEq] at hk; subst hk; rw [h.cell, Nat.zero_mul, Nat.zero_add]; exact (at16 a b i hi).1
    · simp only [Nat.zero_add, List.getElem?_cons_succ, List.getElem?_cons_zero, Option.some.injEq] at hk; subst hk; rw [h.cell]; exact (at16 a b i hi).2
    · simp at hk⟩
theorem join_one (v u : Nat → Int) (g c : Nat) (w : World) (h : Sits w g 50 (vewCells u)) :
    Calls Try.prog 58 #[vewV v, .slice (some ⟨g, 0, none⟩) 1 c] w (Made (.returned (vewV (maxF v u))) w) := join_any v [u] g c (by simp) w (row_one h)
theorem join_two (v u x : Nat → Int) (g c : Nat) (w : World) (h : Sits w g 50 (vews2 u x)) :
    Calls Try.prog 58 #[vewV v, .slice (some ⟨g, 0, none⟩) 2 c] w (Made (.returned (vewV (maxF (maxF v u) x))) w) := join_any v [u, x] g c (by simp) w (row_two h)
set_option maxRecDepth 100000 in
theorem join_none (v : Nat → Int) (w : World) :
    Calls Try.prog 58 #[vewV v, .slice none 0 0] w (Made (.returned (vewV v)) w) := by
  go_enter Try.func58, Try.ntmps58
  go_wp2
  refine wp_loop_rounds 1 ?_
  simp only [Code.rounds]
  go_wp2
  exact bodyPost_ret (v := vewV v) (by simp [results, Try.results58, go_sem]) rfl ⟨rfl, below_more (below_more (Below.refl _ w) (Nat.le_refl _) _) (by simp) _⟩

theorem eql_vew (f g : Nat → Int) (W : World) : (binOp .eql 50 (vewV f) (vewV g)).run Try.prog W = .ok (.bool (sameF 8 f g)) W := by
  rw [run_eql_struct, eq_vew]; rfl
theorem neq_vew (f g : Nat → Int) (W : World) : (binOp .neq 50 (vewV f) (vewV g)).run Try.prog W = .ok (.bool (!sameF 8 f g)) W := by
  rw [run_neq_struct, eq_vew]; rfl
theorem guard_vew (op : BinOp) (x y : Operand) (f g : Nat → Int) (W : World) : (eqGuard op 50 x y (vewV f) (vewV g)).run Try.prog W = .ok () W :=
  run_eqGuard_agg W op 50 x y _ _ (by kernel_rfl)
/-- Two views lie side by side, at a function's beginning. -/
structure TwoV (w : World) (g h : Nat) (a b : Nat → Int) (W : World) : Prop where
  fst : Sits W g 50 (vewCells a)
  snd : Sits W h 50 (vewCells b)
  low : Below w.heap.size w W
theorem TwoV.grown {w W W' : World} {g h : Nat} {a b : Nat → Int} (t : TwoV w g h a b W) (hb : Below W.heap.size W W') : TwoV w g h a b W' :=
  ⟨t.fst.below hb t.fst.lt, t.snd.below hb t.snd.lt, t.low.trans (hb.mono t.low.size)⟩
theorem twoV_new (w : World) (a b : Nat → Int) : TwoV w w.heap.size (w.heap.size + 1) a b ((w.alloc (.cells (vewCells a) 50)).alloc (.cells (vewCells b) 50)) :=
  ⟨(Sits.new _ _ _).alloc _, Sits.made (by simp) _ _, below_more (below_more (Below.refl _ w) (Nat.le_refl _) _) (by simp) _⟩
set_option maxRecDepth 100000 in
set_option maxHeartbeats 1000000 in
theorem within_any (a b : Nat → Int) (w : World) :
    Calls Try.prog 53 #[vewV a, vewV b] w (Made (.returned (.bool (withF a b))) w) := by
  have HT := Lib.hid (twoV_new w a b)
  have HQ : Hid (∀ W, (binOp .eql 50 (vewV (maxF b a)) (vewV b)).run Try.prog W = .ok (.bool (withF a b)) W) := Lib.hid (fun W => eql_vew (maxF b a) b W)
  go_enter Try.func53, Try.ntmps53
  go_wp2_with fail
  change Code.wp _ _ _ _ ((w.alloc (.cells (vewCells a) 50)).alloc (.cells (vewCells b) 50))
  generalize (w.alloc (.cells (vewCells a) 50)).alloc (.cells (vewCells b) 50) = wa at HT ⊢
  generalize w.heap.size + 1 = g2 at HT ⊢
  generalize hg1 : w.heap.size = g1 at HT ⊢
  refine wp_flowG [5, 6, 7, 8, 9, 10] [eqV (vewV b), eqV (vewV a), rowV 50 1 #[.int .i64 (a 0), .int .i64 (a 1), .int .i64 (a 2), .int .i64 (a 3), .int .i64 (a 4), .int .i64 (a 5), .int .i64 (a 6), .int .i64 (a 7)], eqV (vewV (maxF b a)), eqV (vewV b), eqV (.bool (withF a b))] (by kernel_rfl) (by kernel_rfl) (by kernel_rfl) (by kernel_rfl) (by rfl)
    (by simp only [List.mem_cons, List.not_mem_nil, or_false, forall_eq_or_imp, forall_eq]; refine ⟨?_, ?_, ?_, ?_, ?_, ?_⟩ <;> (first | exact eqV_mono _ | exact rowV_mono _ _ _)) ?_ ?_
  · intro i o hi ho A W hW hk he
    simp only [List.length_cons, List.length_nil, Nat.zero_add, Nat.reduceAdd] at hi
    obtain rfl | rfl | rfl | rfl | rfl | rfl : i = 0 ∨ i = 1 ∨ i = 2 ∨ i = 3 ∨ i = 4 ∨ i = 5 := by omega
    · injection ho with ho; subst ho
      refine .inl ⟨wanted_free rfl, ?_⟩
      have h3 : A.tmps[3]?.getD undef = .pointer (some ⟨g2, 0, none⟩) := hk 3 (by rfl)
      have c0 := ((HT.out.grown hW).snd).cell 0
      have c1 := ((HT.out.grown hW).snd).cell 1
      have c2 := ((HT.out.grown hW).snd).cell 2
      have c3 := ((HT.out.grown hW).snd).cell 3
      have c4 := ((HT.out.grown hW).snd).cell 4
      have c5 := ((HT.out.grown hW).snd).cell 5
      have c6 := ((HT.out.grown hW).snd).cell 6
      have c7 := ((HT.out.grown hW).snd).cell 7
      go_simp
      exact ⟨rfl, Below.refl _ _⟩
    · injection ho with ho; subst ho
      refine .inl ⟨wanted_free rfl, ?_⟩
      have h2 : A.tmps[2]?.getD undef = .pointer (some ⟨g1, 0, none⟩) := hk 2 (by rfl)
      have c0 := ((HT.out.grown hW).fst).cell 0
      have c1 := ((HT.out.grown hW).fst).cell 1
      have c2 := ((HT.out.grown hW).fst).cell 2
      have c3 := ((HT.out.grown hW).fst).cell 3
      have c4 := ((HT.out.grown hW).fst).cell 4
      have c5 := ((HT.out.grown hW).fst).cell 5
      have c6 := ((HT.out.grown hW).fst).cell 6
      have c7 := ((HT.out.grown hW).fst).cell 7
      go_simp
      exact ⟨rfl, Below.refl _ _⟩
    · injection ho with ho; subst ho
      refine .inl ⟨wanted_free rfl, ?_⟩
      have h6 : A.tmps[6]?.getD undef = vewV a := he 1 (by kernel_rfl)
      go_simp
      exact ⟨⟨_, rfl, Sits.new _ _ _⟩, (Below.refl _ _).alloc (Nat.le_refl _) _⟩
    · injection ho with ho; subst ho
      refine .inl ⟨wanted_free rfl, ?_⟩
      have h5 : A.tmps[5]?.getD undef = vewV b := he 0 (by kernel_rfl)
      obtain ⟨gr7, h7, hr7⟩ : rowV 50 1 #[.int .i64 (a 0), .int .i64 (a 1), .int .i64 (a 2), .int .i64 (a 3), .int .i64 (a 4), .int .i64 (a 5), .int .i64 (a 6), .int .i64 (a 7)] (A.tmps[7]?.getD undef) W := he 2 (by kernel_rfl)
      go_simp
      refine Calls.mono (join_one b a gr7 _ W hr7) ?_
      rintro e' w' ⟨rfl, hb⟩
      exact ⟨_, rfl, rfl, hb⟩
    · injection ho with ho; subst ho
      refine .inl ⟨wanted_free rfl, ?_⟩
      have h3 : A.tmps[3]?.getD undef = .pointer (some ⟨g2, 0, none⟩) := hk 3 (by rfl)
      have c0 := ((HT.out.grown hW).snd).cell 0
      have c1 := ((HT.out.grown hW).snd).cell 1
      have c2 := ((HT.out.grown hW).snd).cell 2
      have c3 := ((HT.out.grown hW).snd).cell 3
      have c4 := ((HT.out.grown hW).snd).cell 4
      have c5 := ((HT.out.grown hW).snd).cell 5
      have c6 := ((HT.out.grown hW).snd).cell 6
      have c7 := ((HT.out.grown hW).snd).cell 7
      go_simp
      exact ⟨rfl, Below.refl _ _⟩
    · injection ho with ho; subst ho
      refine .inl ⟨wanted_free rfl, ?_⟩
      have h8 : A.tmps[8]?.getD undef = vewV (maxF b a) := he 3 (by kernel_rfl)
      have h9 : A.tmps[9]?.getD undef = vewV b := he 4 (by kernel_rfl)
      have hq := HQ.out W
      have hgd : ∀ x y, _ = _ := fun x y => guard_vew .eql x y (maxF b a) (b) W
      generalize vewV (maxF b a) = X at h8 hq hgd
      generalize vewV (b) = Y at h9 hq hgd
      go_simp
      exact ⟨rfl, Below.refl _ _⟩
  · intro xs W hW hV
    have e10 : xs 5 = .bool (withF a b) := hV 5 (by simp)
    simp only [List.length_cons, List.length_nil, Nat.zero_add, Nat.reduceAdd, List.drop_succ_cons, List.drop_zero, putL, Act.put, List.setIfInBounds_toArray, List.set_cons_zero, List.set_cons_succ, e10]
    clear hV e10
    have HB := Lib.hid (HT.out.grown hW)
    clear hW
    go_wp2_with fail
    go_ret
    exact ⟨rfl, HB.out.low⟩

theorem guard_arr (op : BinOp) (x y : Operand) (f g : Nat → Int) (W : World) : (eqGuard op 48 x y (arr f) (arr g)).run Try.prog W = .ok () W :=
  run_eqGuard_agg W op 48 x y _ _ (by kernel_rfl)
theorem one_new (w : World) (a : Nat → Int) : Sits (w.alloc (.cells (vewCells a) 50)) w.heap.size 50 (vewCells a) := Sits.new _ _ _
theorem one_low (w : World) (o : Obj) : Below w.heap.size w (w.alloc o) := below_more (Below.refl _ w) (Nat.le_refl _) o
set_option maxRecDepth 100000 in
set_option maxHeartbeats 1000000 in
theorem may_any (v : Nat → Int) (w : World) :
    Calls Try.prog 45 #[vewV v] w (Made (.returned (.bool (mayF v))) w) := by
  have HT := Lib.hid (one_new w v)
  have HL := Lib.hid (one_low w (.cells (vewCells v) 50))
  have HQ : Hid (∀ W, (binOp .eql 48 (arr (maxF v (from_ 4 v))) (arr (from_ 4 v))).run Try.prog W = .ok (.bool (sameF 4 (maxF v (from_ 4 v)) (from_ 4 v))) W) := Lib.hid (fun W => eql_arr _ _ W)
  cases hz : withF zeroF v
  · have HM : Hid (mayF v = false) := Lib.hid (by unfold mayF; rw [hz]; rfl)
    have HZ : Hid (∀ W, Calls Try.prog 53 #[vewV zeroF, vewV v] W (Made (.returned (.bool false)) W)) := Lib.hid (fun W => hz ▸ within_any zeroF v W)
    clear hz
    go_enter Try.func45, Try.ntmps45
    go_wp2_with fail
    change Code.wp _ _ _ _ (w.alloc (.cells (vewCells v) 50))
    generalize w.alloc (.cells (vewCells v) 50) = wa at HT HL ⊢
    generalize hg1 : w.heap.size = g1 at HT HL ⊢
    refine wp_flowG [3, 4, 5, 6, 7, 8, 9, 10, 11, 12, 13, 14, 15] [eqV (vewV zeroF), eqV (vewV v), eqV (.bool false), eqV (.bool false), eqV undef, eqV undef, eqV undef, eqV undef, eqV undef, eqV undef, eqV undef, eqV undef, eqV (.bool false)] (by kernel_rfl) (by kernel_rfl) (by kernel_rfl) (by kernel_rfl) (by rfl)
      (by simp only [List.mem_cons, List.not_mem_nil, or_false, forall_eq_or_imp, forall_eq]; refine ⟨?_, ?_, ?_, ?_, ?_, ?_, ?_, ?_, ?_, ?_, ?_, ?_, ?_⟩ <;> (first | exact eqV_mono _ | exact rowV_mono _ _ _)) ?_ ?_
    · intro i o hi ho A W hW hk he
      simp only [List.length_cons, List.length_nil, Nat.zero_add, Nat.reduceAdd] at hi
      obtain rfl | rfl | rfl | rfl | rfl | rfl | rfl | rfl | rfl | rfl | rfl | rfl | rfl : i = 0 ∨ i = 1 ∨ i = 2 ∨ i = 3 ∨ i = 4 ∨ i = 5 ∨ i = 6 ∨ i = 7 ∨ i = 8 ∨ i = 9 ∨ i = 10 ∨ i = 11 ∨ i = 12 := by omega
      · injection ho with ho; subst ho
        refine .inl ⟨wanted_free rfl, ?_⟩
        go_simp
        exact ⟨rfl, Below.refl _ _⟩
      · injection ho with ho; subst ho
        refine .inl ⟨wanted_free rfl, ?_⟩
        have h1 : A.tmps[1]?.getD undef = .pointer (some ⟨g1, 0, none⟩) := hk 1 (by rfl)
        have c0 := ((HT.out.below hW HT.out.lt)).cell 0
        have c1 := ((HT.out.below hW HT.out.lt)).cell 1
        have c2 := ((HT.out.below hW HT.out.lt)).cell 2
        have c3 := ((HT.out.below hW HT.out.lt)).cell 3
        have c4 := ((HT.out.below hW HT.out.lt)).cell 4
        have c5 := ((HT.out.below hW HT.out.lt)).cell 5
        have c6 := ((HT.out.below hW HT.out.lt)).cell 6
        have c7 := ((HT.out.below hW HT.out.lt)).cell 7
        go_simp
        exact ⟨rfl, Below.refl _ _⟩
      · injection ho with ho; subst ho
        refine .inl ⟨wanted_free rfl, ?_⟩
        have h3 : A.tmps[3]?.getD undef = vewV zeroF := he 0 (by kernel_rfl)
        have h4 : A.tmps[4]?.getD undef = vewV v := he 1 (by kernel_rfl)
        go_simp
        refine Calls.mono (HZ.out W) ?_
        rintro e' w' ⟨rfl, hb⟩
        exact ⟨_, rfl, rfl, hb⟩
      · injection ho with ho; subst ho
        refine .inl ⟨wanted_free rfl, ?_⟩
        have h5 : A.tmps[5]?.getD undef = .bool false := he 2 (by kernel_rfl)
        go_simp
        exact ⟨rfl, Below.refl _ _⟩
      · injection ho with ho; subst ho
        have hg : A.tmps[6]?.getD undef = .bool false := he 3 (by kernel_rfl)
        exact .inr ⟨wanted_no (d := 6) rfl (by kernel_rfl) hg, rfl⟩
      · injection ho with ho; subst ho
        have hg : A.tmps[6]?.getD undef = .bool false := he 3 (by kernel_rfl)
        exact .inr ⟨wanted_no (d := 6) rfl (by kernel_rfl) hg, rfl⟩
      · injection ho with ho; subst ho
        have hg : A.tmps[6]?.getD undef = .bool false := he 3 (by kernel_rfl)
        exact .inr ⟨wanted_no (d := 6) rfl (by kernel_rfl) hg, rfl⟩
      · injection ho with ho; subst ho
        have hg : A.tmps[6]?.getD undef = .bool false := he 3 (by kernel_rfl)
        exact .inr ⟨wanted_no (d := 6) rfl (by kernel_rfl) hg, rfl⟩
      · injection ho with ho; subst ho
        have hg : A.tmps[6]?.getD undef = .bool false := he 3 (by kernel_rfl)
        exact .inr ⟨wanted_no (d := 6) rfl (by kernel_rfl) hg, rfl⟩
      · injection ho with ho; subst ho
        have hg : A.tmps[6]?.getD undef = .bool false := he 3 (by kernel_rfl)
        exact .inr ⟨wanted_no (d := 6) rfl (by kernel_rfl) hg, rfl⟩
      · injection ho with ho; subst ho
        have hg : A.tmps[6]?.getD undef = .bool false := he 3 (by kernel_rfl)
        exact .inr ⟨wanted_no (d := 6) rfl (by kernel_rfl) hg, rfl⟩
      · injection ho with ho; subst ho
        have hg : A.tmps[6]?.getD undef = .bool false := he 3 (by kernel_rfl)
        exact .inr ⟨wanted_no (d := 6) rfl (by kernel_rfl) hg, rfl⟩
      · injection ho with ho; subst ho
        refine .inl ⟨wanted_free rfl, ?_⟩
        have h6 : A.tmps[6]?.getD undef = .bool false := he 3 (by kernel_rfl)
        have h14 : A.tmps[14]?.getD undef = undef := he 11 (by kernel_rfl)
        go_simp
        exact ⟨rfl, Below.refl _ _⟩
    · intro xs W hW hV
      have e15 : xs 12 = .bool false := hV 12 (by simp)
      simp only [List.length_cons, List.length_nil, Nat.zero_add, Nat.reduceAdd, List.drop_succ_cons, List.drop_zero, putL, Act.put, List.setIfInBounds_toArray, List.set_cons_zero, List.set_cons_succ, e15]
      clear hV e15
      have HB := Lib.hid (HL.out.trans (hW.mono (hg1 ▸ HL.out.size)))
      clear hW
      go_wp2_with fail
      go_ret
      subst hg1
      exact ⟨ret_bool HM.out.symm, HB.out⟩
  · have HM : Hid (mayF v = sameF 4 (maxF v (from_ 4 v)) (from_ 4 v)) := Lib.hid (by unfold mayF; rw [hz]; rfl)
    have HZ : Hid (∀ W, Calls Try.prog 53 #[vewV zeroF, vewV v] W (Made (.returned (.bool true)) W)) := Lib.hid (fun W => hz ▸ within_any zeroF v W)
    clear hz
    go_enter Try.func45, Try.ntmps45
    go_wp2_with fail
    change Code.wp _ _ _ _ (w.alloc (.cells (vewCells v) 50))
    generalize w.alloc (.cells (vewCells v) 50) = wa at HT HL ⊢
    generalize hg1 : w.heap.size = g1 at HT HL ⊢
    refine wp_flowG [3, 4, 5, 6, 7, 8, 9, 10, 11, 12, 13, 14, 15] [eqV (vewV zeroF), eqV (vewV v), eqV (.bool true), eqV (.bool true), eqV (.pointer (some ⟨g1, 0, none⟩)), eqV (arr v), eqV (.pointer (some ⟨g1, 4, none⟩)), eqV (arr (from_ 4 v)), eqV (arr (maxF v (from_ 4 v))), eqV (.pointer (some ⟨g1, 4, none⟩)), eqV (arr (from_ 4 v)), eqV (.bool (sameF 4 (maxF v (from_ 4 v)) (from_ 4 v))), eqV (.bool (sameF 4 (maxF v (from_ 4 v)) (from_ 4 v)))] (by kernel_rfl) (by kernel_rfl) (by kernel_rfl) (by kernel_rfl) (by rfl)
      (by simp only [List.mem_cons, List.not_mem_nil, or_false, forall_eq_or_imp, forall_eq]; refine ⟨?_, ?_, ?_, ?_, ?_, ?_, ?_, ?_, ?_, ?_, ?_, ?_, ?_⟩ <;> (first | exact eqV_mono _ | exact rowV_mono _ _ _)) ?_ ?_
    · intro i o hi ho A W hW hk he
      simp only [List.length_cons, List.length_nil, Nat.zero_add, Nat.reduceAdd] at hi
      obtain rfl | rfl | rfl | rfl | rfl | rfl | rfl | rfl | rfl | rfl | rfl | rfl | rfl : i = 0 ∨ i = 1 ∨ i = 2 ∨ i = 3 ∨ i = 4 ∨ i = 5 ∨ i = 6 ∨ i = 7 ∨ i = 8 ∨ i = 9 ∨ i = 10 ∨ i = 11 ∨ i = 12 := by omega
      · injection ho with ho; subst ho
        refine .inl ⟨wanted_free rfl, ?_⟩
        go_simp
        exact ⟨rfl, Below.refl _ _⟩
      · injection ho with ho; subst ho
        refine .inl ⟨wanted_free rfl, ?_⟩
        have h1 : A.tmps[1]?.getD undef = .pointer (some ⟨g1, 0, none⟩) := hk 1 (by rfl)
        have c0 := ((HT.out.below hW HT.out.lt)).cell 0
        have c1 := ((HT.out.below hW HT.out.lt)).cell 1
        have c2 := ((HT.out.below hW HT.out.lt)).cell 2
        have c3 := ((HT.out.below hW HT.out.lt)).cell 3
        have c4 := ((HT.out.below hW HT.out.lt)).cell 4
        have c5 := ((HT.out.below hW HT.out.lt)).cell 5
        have c6 := ((HT.out.below hW HT.out.lt)).cell 6
        have c7 := ((HT.out.below hW HT.out.lt)).cell 7
        go_simp
        exact ⟨rfl, Below.refl _ _⟩
      · injection ho with ho; subst ho
        refine .inl ⟨wanted_free rfl, ?_⟩
        have h3 : A.tmps[3]?.getD undef = vewV zeroF := he 0 (by kernel_rfl)
        have h4 : A.tmps[4]?.getD undef = vewV v := he 1 (by kernel_rfl)
        go_simp
        refine Calls.mono (HZ.out W) ?_
        rintro e' w' ⟨rfl, hb⟩
        exact ⟨_, rfl, rfl, hb⟩
      · injection ho with ho; subst ho
        refine .inl ⟨wanted_free rfl, ?_⟩
        have h5 : A.tmps[5]?.getD undef = .bool true := he 2 (by kernel_rfl)
        go_simp
        exact ⟨rfl, Below.refl _ _⟩
      · injection ho with ho; subst ho
        have hg : A.tmps[6]?.getD undef = .bool true := he 3 (by kernel_rfl)
        refine .inl ⟨wanted_yes (d := 6) rfl (by kernel_rfl) hg, ?_⟩
        have h1 : A.tmps[1]?.getD undef = .pointer (some ⟨g1, 0, none⟩) := hk 1 (by rfl)
        go_simp
        exact ⟨rfl, Below.refl _ _⟩
      · injection ho with ho; subst ho
        have hg : A.tmps[6]?.getD undef = .bool true := he 3 (by kernel_rfl)
        refine .inl ⟨wanted_yes (d := 6) rfl (by kernel_rfl) hg, ?_⟩
        have h7 : A.tmps[7]?.getD undef = .pointer (some ⟨g1, 0, none⟩) := he 4 (by kernel_rfl)
        have c0 := ((HT.out.below hW HT.out.lt)).cell 0
        have c1 := ((HT.out.below hW HT.out.lt)).cell 1
        have c2 := ((HT.out.below hW HT.out.lt)).cell 2
        have c3 := ((HT.out.below hW HT.out.lt)).cell 3
        go_simp
        exact ⟨rfl, Below.refl _ _⟩
      · injection ho with ho; subst ho
        have hg : A.tmps[6]?.getD undef = .bool true := he 3 (by kernel_rfl)
        refine .inl ⟨wanted_yes (d := 6) rfl (by kernel_rfl) hg, ?_⟩
        have h1 : A.tmps[1]?.getD undef = .pointer (some ⟨g1, 0, none⟩) := hk 1 (by rfl)
        go_simp
        exact ⟨rfl, Below.refl _ _⟩
      · injection ho with ho; subst ho
        have hg : A.tmps[6]?.getD undef = .bool true := he 3 (by kernel_rfl)
        refine .inl ⟨wanted_yes (d := 6) rfl (by kernel_rfl) hg, ?_⟩
        have h9 : A.tmps[9]?.getD undef = .pointer (some ⟨g1, 4, none⟩) := he 6 (by kernel_rfl)
        have c0 := ((HT.out.below hW HT.out.lt)).cell 4
        have c1 := ((HT.out.below hW HT.out.lt)).cell 5
        have c2 := ((HT.out.below hW HT.out.lt)).cell 6
        have c3 := ((HT.out.below hW HT.out.lt)).cell 7
        go_simp
        exact ⟨rfl, Below.refl _ _⟩
      · injection ho with ho; subst ho
        have hg : A.tmps[6]?.getD undef = .bool true := he 3 (by kernel_rfl)
        refine .inl ⟨wanted_yes (d := 6) rfl (by kernel_rfl) hg, ?_⟩
        have h8 : A.tmps[8]?.getD undef = arr v := he 5 (by kernel_rfl)
        have h10 : A.tmps[10]?.getD undef = arr (from_ 4 v) := he 7 (by kernel_rfl)
        go_simp
        refine Calls.mono (later_any v (from_ 4 v) W) ?_
        rintro e' w' ⟨rfl, hb⟩
        exact ⟨_, rfl, rfl, hb⟩
      · injection ho with ho; subst ho
        have hg : A.tmps[6]?.getD undef = .bool true := he 3 (by kernel_rfl)
        refine .inl ⟨wanted_yes (d := 6) rfl (by kernel_rfl) hg, ?_⟩
        have h1 : A.tmps[1]?.getD undef = .pointer (some ⟨g1, 0, none⟩) := hk 1 (by rfl)
        go_simp
        exact ⟨rfl, Below.refl _ _⟩
      · injection ho with ho; subst ho
        have hg : A.tmps[6]?.getD undef = .bool true := he 3 (by kernel_rfl)
        refine .inl ⟨wanted_yes (d := 6) rfl (by kernel_rfl) hg, ?_⟩
        have h12 : A.tmps[12]?.getD undef = .pointer (some ⟨g1, 4, none⟩) := he 9 (by kernel_rfl)
        have c0 := ((HT.out.below hW HT.out.lt)).cell 4
        have c1 := ((HT.out.below hW HT.out.lt)).cell 5
        have c2 := ((HT.out.below hW HT.out.lt)).cell 6
        have c3 := ((HT.out.below hW HT.out.lt)).cell 7
        go_simp
        exact ⟨rfl, Below.refl _ _⟩
      · injection ho with ho; subst ho
        have hg : A.tmps[6]?.getD undef = .bool true := he 3 (by kernel_rfl)
        refine .inl ⟨wanted_yes (d := 6) rfl (by kernel_rfl) hg, ?_⟩
        have h11 : A.tmps[11]?.getD undef = arr (maxF v (from_ 4 v)) := he 8 (by kernel_rfl)
        have h13 : A.tmps[13]?.getD undef = arr (from_ 4 v) := he 10 (by kernel_rfl)
        have hq := HQ.out W
        have hgd : ∀ x y, _ = _ := fun x y => guard_arr .eql x y (maxF v (from_ 4 v)) (from_ 4 v) W
        generalize arr (maxF v (from_ 4 v)) = X at h11 hq hgd
        generalize arr (from_ 4 v) = Y at h13 hq hgd
        go_simp
        exact ⟨rfl, Below.refl _ _⟩
      · injection ho with ho; subst ho
        refine .inl ⟨wanted_free rfl, ?_⟩
        have h6 : A.tmps[6]?.getD undef = .bool true := he 3 (by kernel_rfl)
        have h14 : A.tmps[14]?.getD undef = .bool (sameF 4 (maxF v (from_ 4 v)) (from_ 4 v)) := he 11 (by kernel_rfl)
        go_simp
        exact ⟨rfl, Below.refl _ _⟩
    · intro xs W hW hV
      have e15 : xs 12 = .bool (sameF 4 (maxF v (from_ 4 v)) (from_ 4 v)) := hV 12 (by simp)
      simp only [List.length_cons, List.length_nil, Nat.zero_add, Nat.reduceAdd, List.drop_succ_cons, List.drop_zero, putL, Act.put, List.setIfInBounds_toArray, List.set_cons_zero, List.set_cons_succ, e15]
      clear hV e15
      have HB := Lib.hid (HL.out.trans (hW.mono (hg1 ▸ HL.out.size)))
      clear hW
      go_wp2_with fail
      go_ret
      subst hg1
      exact ⟨ret_bool HM.out.symm, HB.out⟩
/-- The view that knows one time. -/
def atF (loc t : Int) (pln : Bool) (i : Nat) : Int := if 0 ≤ loc ∧ loc < 4 ∧ 0 ≤ t ∧ ((i : Int) = loc + 4 ∨ (pln = true ∧ (i : Int) = loc)) then t else 0
theorem at_no {loc t : Int} {pln : Bool} (h : ¬ (0 ≤ loc ∧ loc < 4 ∧ 0 ≤ t)) : vewCells (atF loc t pln) = zero8 := by
  have : ∀ i, atF loc t pln i = 0 := fun i => if_neg (fun k => h ⟨k.1, k.2.1, k.2.2.1⟩)
  simp only [vewCells, this]
end Go.Proofs.Ytgkgpehjedmejaa.Vew
