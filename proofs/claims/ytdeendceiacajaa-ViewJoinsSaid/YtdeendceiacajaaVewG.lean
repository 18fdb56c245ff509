/- Layer 10 (view): the walk of ViewJoins. -/
import Derived.Test.YtdeendceiacajaaVewE
import Derived.Deep.DeepCutAuto
namespace Go.Proofs.Ytdeendceiacajaa.Vew
open Go.RowKit Go.Proofs.Ytdeendceiacajaa.Mem Go.Proofs.Ytdeendceiacajaa.Flow

/-- Four views lie in blocks of their own. -/
structure Four (w : World) (g3 g4 g5 g7 : Nat) (a b c j : Nat → Int) (W : World) : Prop where
  a : Sits W g3 24 (vewCells a)
  b : Sits W g4 24 (vewCells b)
  c : Sits W g5 24 (vewCells c)
  j : Sits W g7 24 (vewCells j)
  low : Below w.heap.size w W
theorem Four.grown {w W W' : World} {g3 g4 g5 g7 : Nat} {a b c j : Nat → Int} (h : Four w g3 g4 g5 g7 a b c j W) (hb : Below W.heap.size W W') : Four w g3 g4 g5 g7 a b c j W' :=
  ⟨h.a.below hb h.a.lt, h.b.below hb h.b.lt, h.c.below hb h.c.lt, h.j.below hb h.j.lt, h.low.trans (hb.mono h.low.size)⟩
structure Three (w : World) (g3 g4 g5 : Nat) (a b c : Nat → Int) (W : World) : Prop where
  a : Sits W g3 24 (vewCells a)
  b : Sits W g4 24 (vewCells b)
  c : Sits W g5 24 (vewCells c)
  low : Below w.heap.size w W
theorem Three.grown {w W W' : World} {g3 g4 g5 : Nat} {a b c : Nat → Int} (h : Three w g3 g4 g5 a b c W) (hb : Below W.heap.size W W') : Three w g3 g4 g5 a b c W' :=
  ⟨h.a.below hb h.a.lt, h.b.below hb h.b.lt, h.c.below hb h.c.lt, h.low.trans (hb.mono h.low.size)⟩
theorem Three.four {w W : World} {g3 g4 g5 : Nat} {a b c : Nat → Int} (h : Three w g3 g4 g5 a b c W) (j : Nat → Int) : Four w g3 g4 g5 W.heap.size a b c j (W.alloc (.cells (vewCells j) 24)) :=
  ⟨h.a.alloc _, h.b.alloc _, h.c.alloc _, Sits.new _ _ _, h.low.trans ((one_low W _).mono h.low.size)⟩
theorem three_new (w : World) (a b c : Nat → Int) : Three w w.heap.size (w.heap.size + 1) (w.heap.size + 1 + 1) a b c (((w.alloc (.cells (vewCells a) 24)).alloc (.cells (vewCells b) 24)).alloc (.cells (vewCells c) 24)) :=
  ⟨((Sits.new _ _ _).alloc _).alloc _, (Sits.made (by simp) _ _).alloc _, Sits.made (by simp) _ _, below3 _ _ _ _⟩

theorem with_l (a b : Nat → Int) : withF a (maxF a b) = true := with_iff.2 fun i _ => by rw [max_at]; omega
theorem with_r (a b : Nat → Int) : withF b (maxF a b) = true := with_iff.2 fun i _ => by rw [max_at]; omega
theorem join_l (a b : Nat → Int) : maxF (maxF a b) a = maxF a b := by funext i; simp only [max_at]; omega
theorem with_join {a b c : Nat → Int} (h : withF a c = true) (k : withF b c = true) : withF (maxF a b) c = true :=
  with_iff.2 fun i hi => by have h1 := with_iff.1 h i hi; have h2 := with_iff.1 k i hi; rw [max_at]; omega
theorem with_anti {a b : Nat → Int} (h : withF a b = true) (k : withF b a = true) : sameF 8 a b = true :=
  same_iff.2 fun i hi => by have h1 := with_iff.1 h i hi; have h2 := with_iff.1 k i hi; omega
theorem anti_arr {a b : Nat → Int} (h : withF a b = true) (k : withF b a = true) (W : World) : (Op.equalIn 9999 22 (.agg #[.int .i64 (a 0), .int .i64 (a 1), .int .i64 (a 2), .int .i64 (a 3)]) (.agg #[.int .i64 (b 0), .int .i64 (b 1), .int .i64 (b 2), .int .i64 (b 3)])).run Try.prog W = .ok true W ∧
    (Op.equalIn 9999 22 (.agg #[.int .i64 (a 4), .int .i64 (a 5), .int .i64 (a 6), .int .i64 (a 7)]) (.agg #[.int .i64 (b 4), .int .i64 (b 5), .int .i64 (b 6), .int .i64 (b 7)])).run Try.prog W = .ok true W := by
  have hs := with_anti h k
  rw [same8, Bool.and_eq_true] at hs
  have e1 := eq_arr 9997 a b W
  have e2 := eq_arr 9997 (from_ 4 a) (from_ 4 b) W
  rw [hs.1] at e1
  rw [hs.2] at e2
  exact ⟨e1, e2⟩
theorem may_join {a b : Nat → Int} (h : mayF a = true) (k : mayF b = true) : mayF (maxF a b) = true := by
  obtain ⟨h1, h2⟩ := may_iff.1 h
  obtain ⟨k1, k2⟩ := may_iff.1 k
  refine may_iff.2 ⟨fun i hi => ?_, fun i hi => ?_⟩
  · have := h1 i hi; rw [max_at]; omega
  · have := h2 i hi; have := k2 i hi; rw [max_at, max_at]; omega
theorem same_self (a : Nat → Int) : sameF 8 a a = true := same_iff.2 fun _ _ => rfl
theorem neq_self (a : Nat → Int) (W : World) : (binOp .neq 24 (vewV a) (vewV a)).run Try.prog W = .ok (.bool false) W := by
  rw [neq_vew, same_self]; rfl

/-- All that is called with these views. -/
structure Says3 (a b c j d e : Nat → Int) : Prop where
  ab : ∀ W g, Sits W g 24 (vewCells b) → Calls Try.prog 5 #[vewV a, .slice (some ⟨g, 0, none⟩) 1 1] W (Made (.returned (vewV j)) W)
  ba : ∀ W g, Sits W g 24 (vewCells a) → Calls Try.prog 5 #[vewV b, .slice (some ⟨g, 0, none⟩) 1 1] W (Made (.returned (vewV j)) W)
  ja : ∀ W g, Sits W g 24 (vewCells a) → Calls Try.prog 5 #[vewV j, .slice (some ⟨g, 0, none⟩) 1 1] W (Made (.returned (vewV j)) W)
  aa : ∀ W g, Sits W g 24 (vewCells a) → Calls Try.prog 5 #[vewV a, .slice (some ⟨g, 0, none⟩) 1 1] W (Made (.returned (vewV a)) W)
  abc : ∀ W g, Sits W g 24 (vews2 b c) → Calls Try.prog 5 #[vewV a, .slice (some ⟨g, 0, none⟩) 2 2] W (Made (.returned (vewV d)) W)
  jc : ∀ W g, Sits W g 24 (vewCells c) → Calls Try.prog 5 #[vewV j, .slice (some ⟨g, 0, none⟩) 1 1] W (Made (.returned (vewV d)) W)
  bc : ∀ W g, Sits W g 24 (vewCells c) → Calls Try.prog 5 #[vewV b, .slice (some ⟨g, 0, none⟩) 1 1] W (Made (.returned (vewV e)) W)
  ae : ∀ W g, Sits W g 24 (vewCells e) → Calls Try.prog 5 #[vewV a, .slice (some ⟨g, 0, none⟩) 1 1] W (Made (.returned (vewV d)) W)
  wa : ∀ W, Calls Try.prog 11 #[vewV a, vewV j] W (Made (.returned (.bool true)) W)
  wb : ∀ W, Calls Try.prog 11 #[vewV b, vewV j] W (Made (.returned (.bool true)) W)
  least : withF a c = true → withF b c = true → withF j c = true
  may : mayF a = true → mayF b = true → mayF j = true
theorem says3 (a b c : Nat → Int) : Says3 a b c (maxF a b) (maxF (maxF a b) c) (maxF b c) where
  ab := fun W g h => join_one a b g 1 W h
  ba := fun W g h => by have k := join_one b a g 1 W h; rwa [max_comm b a] at k
  ja := fun W g h => by have k := join_one (maxF a b) a g 1 W h; rwa [join_l] at k
  aa := fun W g h => by have k := join_one a a g 1 W h; rwa [max_self] at k
  abc := fun W g h => join_two a b c g 2 W h
  jc := fun W g h => join_one (maxF a b) c g 1 W h
  bc := fun W g h => join_one b c g 1 W h
  ae := fun W g h => by have k := join_one a (maxF b c) g 1 W h; rwa [← max_assoc] at k
  wa := fun W => by have k := within_any a (maxF a b) W; rwa [with_l] at k
  wb := fun W => by have k := within_any b (maxF a b) W; rwa [with_r] at k
  least := with_join
  may := may_join

set_option maxRecDepth 100000 in
set_option maxHeartbeats 4000000 in
theorem joins_law (a b c : Nat → Int) (w : World) :
    Calls Try.prog 4 #[vewV a, vewV b, vewV c] w (Made (.returned (.bool true)) w) := by
  have HT := Lib.hid (three_new w a b c)
  have HS := Lib.hid (says3 a b c)
  have HQJ : Hid (∀ f W, (binOp .neq 24 (vewV f) (vewV f)).run Try.prog W = .ok (.bool false) W) := Lib.hid neq_self
  have HR : Hid (Sits ((((w.alloc (.cells (vewCells a) 24)).alloc (.cells (vewCells b) 24)).alloc (.cells (vewCells c) 24)).alloc (.cells (vewCells b) 24)) (w.heap.size + 1 + 1 + 1) 24 (vewCells b)) := Lib.hid (Sits.made (by simp) _ _)
  generalize maxF (maxF a b) c = d at HS
  generalize maxF b c = e at HS
  generalize maxF a b = j at HS
  go_enter Try.func4, Try.ntmps4
  go_wp2_with fail
  generalize ((w.alloc (.cells (vewCells a) 24)).alloc (.cells (vewCells b) 24)).alloc (.cells (vewCells c) 24) = w0 at HT HR ⊢
  generalize w.heap.size + 1 + 1 = g5 at HT HR ⊢
  generalize w.heap.size + 1 = g4 at HT ⊢
  generalize hg3 : w.heap.size = g3 at HT ⊢
  have HT1 : Hid (Three w g3 g4 g5 a b c (w0.alloc (.cells (vewCells b) 24))) := Lib.hid (HT.out.grown (one_low w0 _))
  clear hg3
  refine (HS.out.ab _ _ HR.out).mono ?_
  rintro e' w1 ⟨rfl, hb⟩
  have HT2 := Lib.hid (HT1.out.grown hb)
  clear hb HT1 HT HR
  go_upto_region 2 with fail
  have HX := Lib.hid (HT2.out.four j)
  change Code.wp _ _ _ _ (w1.alloc (.cells (vewCells j) 24))
  generalize w1.alloc (.cells (vewCells j) 24) = w2 at HX ⊢
  generalize w1.heap.size = g7 at HX ⊢
  clear HT2
  refine wp_flowG [12, 13, 14, 15, 16, 17, 18, 19, 20, 21, 22, 23, 24, 25, 26, 27, 28, 29, 30, 31, 32, 33, 34, 35, 36, 37, 38, 39, 40, 41, 42, 43, 44, 45, 46, 47, 48, 49, 50, 51, 52, 53, 54, 55, 56, 57, 58, 59, 60, 61, 62, 63, 64, 65, 66, 67, 68, 69, 70] [eqV (vewV a), eqV (vewV j), eqV (.bool true), eqV (.bool false), eqV (.bool false), eqV (vewV b), eqV (vewV j), eqV (.bool true), eqV (.bool false), eqV (.bool false), eqV (.bool false), eqV (vewV j), eqV (vewV b), eqV (vewV a), rowV 24 1 #[.int .i64 (a 0), .int .i64 (a 1), .int .i64 (a 2), .int .i64 (a 3), .int .i64 (a 4), .int .i64 (a 5), .int .i64 (a 6), .int .i64 (a 7)], eqV (vewV j), eqV (.bool false), eqV (.bool false), eqV (.bool false), eqV (vewV j), eqV (vewV a), rowV 24 1 #[.int .i64 (a 0), .int .i64 (a 1), .int .i64 (a 2), .int .i64 (a 3), .int .i64 (a 4), .int .i64 (a 5), .int .i64 (a 6), .int .i64 (a 7)], eqV (vewV j), eqV (vewV j), eqV (.bool false), eqV (.bool false), eqV (.bool false), eqV (vewV a), eqV (vewV a), rowV 24 1 #[.int .i64 (a 0), .int .i64 (a 1), .int .i64 (a 2), .int .i64 (a 3), .int .i64 (a 4), .int .i64 (a 5), .int .i64 (a 6), .int .i64 (a 7)], eqV (vewV a), eqV (vewV a), eqV (.bool false), eqV (.bool false), eqV (.bool false), eqV (vewV a), eqV (vewV b), eqV (vewV c), rowV 24 2 #[.int .i64 (b 0), .int .i64 (b 1), .int .i64 (b 2), .int .i64 (b 3), .int .i64 (b 4), .int .i64 (b 5), .int .i64 (b 6), .int .i64 (b 7), .int .i64 (c 0), .int .i64 (c 1), .int .i64 (c 2), .int .i64 (c 3), .int .i64 (c 4), .int .i64 (c 5), .int .i64 (c 6), .int .i64 (c 7)], eqV (vewV d), eqV (vewV j), eqV (vewV c), rowV 24 1 #[.int .i64 (c 0), .int .i64 (c 1), .int .i64 (c 2), .int .i64 (c 3), .int .i64 (c 4), .int .i64 (c 5), .int .i64 (c 6), .int .i64 (c 7)], eqV (vewV d), eqV (.bool false), eqV (.bool false), eqV (.bool false), eqV (vewV j), eqV (vewV c), rowV 24 1 #[.int .i64 (c 0), .int .i64 (c 1), .int .i64 (c 2), .int .i64 (c 3), .int .i64 (c 4), .int .i64 (c 5), .int .i64 (c 6), .int .i64 (c 7)], eqV (vewV d), eqV (vewV a), eqV (vewV b), eqV (vewV c), rowV 24 1 #[.int .i64 (c 0), .int .i64 (c 1), .int .i64 (c 2), .int .i64 (c 3), .int .i64 (c 4), .int .i64 (c 5), .int .i64 (c 6), .int .i64 (c 7)], eqV (vewV e), rowV 24 1 #[.int .i64 (e 0), .int .i64 (e 1), .int .i64 (e 2), .int .i64 (e 3), .int .i64 (e 4), .int .i64 (e 5), .int .i64 (e 6), .int .i64 (e 7)], eqV (vewV d), eqV (.bool false)] (by kernel_rfl) (by kernel_rfl) (by kernel_rfl) (by kernel_rfl) (by rfl)
    (by simp only [List.mem_cons, List.not_mem_nil, or_false, forall_eq_or_imp, forall_eq]; refine ⟨?_, ?_, ?_, ?_, ?_, ?_, ?_, ?_, ?_, ?_, ?_, ?_, ?_, ?_, ?_, ?_, ?_, ?_, ?_, ?_, ?_, ?_, ?_, ?_, ?_, ?_, ?_, ?_, ?_, ?_, ?_, ?_, ?_, ?_, ?_, ?_, ?_, ?_, ?_, ?_, ?_, ?_, ?_, ?_, ?_, ?_, ?_, ?_, ?_, ?_, ?_, ?_, ?_, ?_, ?_, ?_, ?_, ?_, ?_⟩ <;> (first | exact eqV_mono _ | exact rowV_mono _ _ _)) ?_ ?_
  · intro i o hi ho A W hW hk he
    simp only [List.length_cons, List.length_nil, Nat.zero_add, Nat.reduceAdd] at hi
    obtain rfl | rfl | rfl | rfl | rfl | rfl | rfl | rfl | rfl | rfl | rfl | rfl | rfl | rfl | rfl | rfl | rfl | rfl | rfl | rfl | rfl | rfl | rfl | rfl | rfl | rfl | rfl | rfl | rfl | rfl | rfl | rfl | rfl | rfl | rfl | rfl | rfl | rfl | rfl | rfl | rfl | rfl | rfl | rfl | rfl | rfl | rfl | rfl | rfl | rfl | rfl | rfl | rfl | rfl | rfl | rfl | rfl | rfl | rfl : i = 0 ∨ i = 1 ∨ i = 2 ∨ i = 3 ∨ i = 4 ∨ i = 5 ∨ i = 6 ∨ i = 7 ∨ i = 8 ∨ i = 9 ∨ i = 10 ∨ i = 11 ∨ i = 12 ∨ i = 13 ∨ i = 14 ∨ i = 15 ∨ i = 16 ∨ i = 17 ∨ i = 18 ∨ i = 19 ∨ i = 20 ∨ i = 21 ∨ i = 22 ∨ i = 23 ∨ i = 24 ∨ i = 25 ∨ i = 26 ∨ i = 27 ∨ i = 28 ∨ i = 29 ∨ i = 30 ∨ i = 31 ∨ i = 32 ∨ i = 33 ∨ i = 34 ∨ i = 35 ∨ i = 36 ∨ i = 37 ∨ i = 38 ∨ i = 39 ∨ i = 40 ∨ i = 41 ∨ i = 42 ∨ i = 43 ∨ i = 44 ∨ i = 45 ∨ i = 46 ∨ i = 47 ∨ i = 48 ∨ i = 49 ∨ i = 50 ∨ i = 51 ∨ i = 52 ∨ i = 53 ∨ i = 54 ∨ i = 55 ∨ i = 56 ∨ i = 57 ∨ i = 58 := by omega
    · injection ho with ho; subst ho
      refine .inl ⟨wanted_free rfl, ?_⟩
      have h3 : A.tmps[3]?.getD undef = .pointer (some ⟨g3, 0, none⟩) := hk 3 (by rfl)
      have c0 := ((HX.out.grown hW).a).cell 0
      have c1 := ((HX.out.grown hW).a).cell 1
      have c2 := ((HX.out.grown hW).a).cell 2
      have c3 := ((HX.out.grown hW).a).cell 3
      have c4 := ((HX.out.grown hW).a).cell 4
      have c5 := ((HX.out.grown hW).a).cell 5
      have c6 := ((HX.out.grown hW).a).cell 6
      have c7 := ((HX.out.grown hW).a).cell 7
      go_simp
      exact ⟨rfl, Below.refl _ _⟩
    · injection ho with ho; subst ho
      refine .inl ⟨wanted_free rfl, ?_⟩
      have h7 : A.tmps[7]?.getD undef = .pointer (some ⟨g7, 0, none⟩) := hk 7 (by rfl)
      have c0 := ((HX.out.grown hW).j).cell 0
      have c1 := ((HX.out.grown hW).j).cell 1
      have c2 := ((HX.out.grown hW).j).cell 2
      have c3 := ((HX.out.grown hW).j).cell 3
      have c4 := ((HX.out.grown hW).j).cell 4
      have c5 := ((HX.out.grown hW).j).cell 5
      have c6 := ((HX.out.grown hW).j).cell 6
      have c7 := ((HX.out.grown hW).j).cell 7
      go_simp
      exact ⟨rfl, Below.refl _ _⟩
    · injection ho with ho; subst ho
      refine .inl ⟨wanted_free rfl, ?_⟩
      have h12 : A.tmps[12]?.getD undef = vewV a := he 0 (by kernel_rfl)
      have h13 : A.tmps[13]?.getD undef = vewV j := he 1 (by kernel_rfl)
      go_simp
      refine Calls.mono (HS.out.wa W) ?_
      rintro e' w' ⟨rfl, hb⟩
      exact ⟨_, rfl, rfl, hb⟩
    · injection ho with ho; subst ho
      refine .inl ⟨wanted_free rfl, ?_⟩
      have h14 : A.tmps[14]?.getD undef = .bool true := he 2 (by kernel_rfl)
      go_simp
      exact ⟨rfl, Below.refl _ _⟩
    · injection ho with ho; subst ho
      refine .inl ⟨wanted_free rfl, ?_⟩
      have h15 : A.tmps[15]?.getD undef = .bool false := he 3 (by kernel_rfl)
      go_simp
      exact ⟨rfl, Below.refl _ _⟩
    · injection ho with ho; subst ho
      have hg : A.tmps[16]?.getD undef = .bool false := he 4 (by kernel_rfl)
      refine .inl ⟨wanted_yes (d := 16) rfl (by kernel_rfl) hg, ?_⟩
      have h4 : A.tmps[4]?.getD undef = .pointer (some ⟨g4, 0, none⟩) := hk 4 (by rfl)
      have c0 := ((HX.out.grown hW).b).cell 0
      have c1 := ((HX.out.grown hW).b).cell 1
      have c2 := ((HX.out.grown hW).b).cell 2
      have c3 := ((HX.out.grown hW).b).cell 3
      have c4 := ((HX.out.grown hW).b).cell 4
      have c5 := ((HX.out.grown hW).b).cell 5
      have c6 := ((HX.out.grown hW).b).cell 6
      have c7 := ((HX.out.grown hW).b).cell 7
      go_simp
      exact ⟨rfl, Below.refl _ _⟩
    · injection ho with ho; subst ho
      have hg : A.tmps[16]?.getD undef = .bool false := he 4 (by kernel_rfl)
      refine .inl ⟨wanted_yes (d := 16) rfl (by kernel_rfl) hg, ?_⟩
      have h7 : A.tmps[7]?.getD undef = .pointer (some ⟨g7, 0, none⟩) := hk 7 (by rfl)
      have c0 := ((HX.out.grown hW).j).cell 0
      have c1 := ((HX.out.grown hW).j).cell 1
      have c2 := ((HX.out.grown hW).j).cell 2
      have c3 := ((HX.out.grown hW).j).cell 3
      have c4 := ((HX.out.grown hW).j).cell 4
      have c5 := ((HX.out.grown hW).j).cell 5
      have c6 := ((HX.out.grown hW).j).cell 6
      have c7 := ((HX.out.grown hW).j).cell 7
      go_simp
      exact ⟨rfl, Below.refl _ _⟩
    · injection ho with ho; subst ho
      have hg : A.tmps[16]?.getD undef = .bool false := he 4 (by kernel_rfl)
      refine .inl ⟨wanted_yes (d := 16) rfl (by kernel_rfl) hg, ?_⟩
      have h17 : A.tmps[17]?.getD undef = vewV b := he 5 (by kernel_rfl)
      have h18 : A.tmps[18]?.getD undef = vewV j := he 6 (by kernel_rfl)
      go_simp
      refine Calls.mono (HS.out.wb W) ?_
      rintro e' w' ⟨rfl, hb⟩
      exact ⟨_, rfl, rfl, hb⟩
    · injection ho with ho; subst ho
      have hg : A.tmps[16]?.getD undef = .bool false := he 4 (by kernel_rfl)
      refine .inl ⟨wanted_yes (d := 16) rfl (by kernel_rfl) hg, ?_⟩
      have h19 : A.tmps[19]?.getD undef = .bool true := he 7 (by kernel_rfl)
      go_simp
      exact ⟨rfl, Below.refl _ _⟩
    · injection ho with ho; subst ho
      refine .inl ⟨wanted_free rfl, ?_⟩
      have h16 : A.tmps[16]?.getD undef = .bool false := he 4 (by kernel_rfl)
      have h20 : A.tmps[20]?.getD undef = .bool false := he 8 (by kernel_rfl)
      go_simp
      exact ⟨rfl, Below.refl _ _⟩
    · injection ho with ho; subst ho
      refine .inl ⟨wanted_free rfl, ?_⟩
      have h21 : A.tmps[21]?.getD undef = .bool false := he 9 (by kernel_rfl)
      go_simp
      exact ⟨rfl, Below.refl _ _⟩
    · injection ho with ho; subst ho
      have hg : A.tmps[22]?.getD undef = .bool false := he 10 (by kernel_rfl)
      refine .inl ⟨wanted_yes (d := 22) rfl (by kernel_rfl) hg, ?_⟩
      have h7 : A.tmps[7]?.getD undef = .pointer (some ⟨g7, 0, none⟩) := hk 7 (by rfl)
      have c0 := ((HX.out.grown hW).j).cell 0
      have c1 := ((HX.out.grown hW).j).cell 1
      have c2 := ((HX.out.grown hW).j).cell 2
      have c3 := ((HX.out.grown hW).j).cell 3
      have c4 := ((HX.out.grown hW).j).cell 4
      have c5 := ((HX.out.grown hW).j).cell 5
      have c6 := ((HX.out.grown hW).j).cell 6
      have c7 := ((HX.out.grown hW).j).cell 7
      go_simp
      exact ⟨rfl, Below.refl _ _⟩
    · injection ho with ho; subst ho
      have hg : A.tmps[22]?.getD undef = .bool false := he 10 (by kernel_rfl)
      refine .inl ⟨wanted_yes (d := 22) rfl (by kernel_rfl) hg, ?_⟩
      have h4 : A.tmps[4]?.getD undef = .pointer (some ⟨g4, 0, none⟩) := hk 4 (by rfl)
      have c0 := ((HX.out.grown hW).b).cell 0
      have c1 := ((HX.out.grown hW).b).cell 1
      have c2 := ((HX.out.grown hW).b).cell 2
      have c3 := ((HX.out.grown hW).b).cell 3
      have c4 := ((HX.out.grown hW).b).cell 4
      have c5 := ((HX.out.grown hW).b).cell 5
      have c6 := ((HX.out.grown hW).b).cell 6
      have c7 := ((HX.out.grown hW).b).cell 7
      go_simp
      exact ⟨rfl, Below.refl _ _⟩
    · injection ho with ho; subst ho
      have hg : A.tmps[22]?.getD undef = .bool false := he 10 (by kernel_rfl)
      refine .inl ⟨wanted_yes (d := 22) rfl (by kernel_rfl) hg, ?_⟩
      have h3 : A.tmps[3]?.getD undef = .pointer (some ⟨g3, 0, none⟩) := hk 3 (by rfl)
      have c0 := ((HX.out.grown hW).a).cell 0
      have c1 := ((HX.out.grown hW).a).cell 1
      have c2 := ((HX.out.grown hW).a).cell 2
      have c3 := ((HX.out.grown hW).a).cell 3
      have c4 := ((HX.out.grown hW).a).cell 4
      have c5 := ((HX.out.grown hW).a).cell 5
      have c6 := ((HX.out.grown hW).a).cell 6
      have c7 := ((HX.out.grown hW).a).cell 7
      go_simp
      exact ⟨rfl, Below.refl _ _⟩
    · injection ho with ho; subst ho
      have hg : A.tmps[22]?.getD undef = .bool false := he 10 (by kernel_rfl)
      refine .inl ⟨wanted_yes (d := 22) rfl (by kernel_rfl) hg, ?_⟩
      have h25 : A.tmps[25]?.getD undef = vewV a := he 13 (by kernel_rfl)
      go_simp
      exact ⟨⟨_, rfl, Sits.new _ _ _⟩, (Below.refl _ _).alloc (Nat.le_refl _) _⟩
    · injection ho with ho; subst ho
      have hg : A.tmps[22]?.getD undef = .bool false := he 10 (by kernel_rfl)
      refine .inl ⟨wanted_yes (d := 22) rfl (by kernel_rfl) hg, ?_⟩
      have h24 : A.tmps[24]?.getD undef = vewV b := he 12 (by kernel_rfl)
      obtain ⟨gr26, h26, hr26⟩ : rowV 24 1 #[.int .i64 (a 0), .int .i64 (a 1), .int .i64 (a 2), .int .i64 (a 3), .int .i64 (a 4), .int .i64 (a 5), .int .i64 (a 6), .int .i64 (a 7)] (A.tmps[26]?.getD undef) W := he 14 (by kernel_rfl)
      go_simp
      refine Calls.mono (HS.out.ba W gr26 hr26) ?_
      rintro e' w' ⟨rfl, hb⟩
      exact ⟨_, rfl, rfl, hb⟩
    · injection ho with ho; subst ho
      have hg : A.tmps[22]?.getD undef = .bool false := he 10 (by kernel_rfl)
      refine .inl ⟨wanted_yes (d := 22) rfl (by kernel_rfl) hg, ?_⟩
      have h23 : A.tmps[23]?.getD undef = vewV j := he 11 (by kernel_rfl)
      have h27 : A.tmps[27]?.getD undef = vewV j := he 15 (by kernel_rfl)
      have hq := HQJ.out j W
      have hgd : ∀ x y, (eqGuard .neq 24 x y (vewV j) (vewV j)).run Try.prog W = .ok () W := fun x y => guard_vew .neq x y (j) (j) W
      generalize vewV j = X at h23 h27 hq hgd
      go_simp
      exact ⟨rfl, Below.refl _ _⟩
    · injection ho with ho; subst ho
      refine .inl ⟨wanted_free rfl, ?_⟩
      have h22 : A.tmps[22]?.getD undef = .bool false := he 10 (by kernel_rfl)
      have h28 : A.tmps[28]?.getD undef = .bool false := he 16 (by kernel_rfl)
      go_simp
      exact ⟨rfl, Below.refl _ _⟩
    · injection ho with ho; subst ho
      refine .inl ⟨wanted_free rfl, ?_⟩
      have h29 : A.tmps[29]?.getD undef = .bool false := he 17 (by kernel_rfl)
      go_simp
      exact ⟨rfl, Below.refl _ _⟩
    · injection ho with ho; subst ho
      have hg : A.tmps[30]?.getD undef = .bool false := he 18 (by kernel_rfl)
      refine .inl ⟨wanted_yes (d := 30) rfl (by kernel_rfl) hg, ?_⟩
      have h7 : A.tmps[7]?.getD undef = .pointer (some ⟨g7, 0, none⟩) := hk 7 (by rfl)
      have c0 := ((HX.out.grown hW).j).cell 0
      have c1 := ((HX.out.grown hW).j).cell 1
      have c2 := ((HX.out.grown hW).j).cell 2
      have c3 := ((HX.out.grown hW).j).cell 3
      have c4 := ((HX.out.grown hW).j).cell 4
      have c5 := ((HX.out.grown hW).j).cell 5
      have c6 := ((HX.out.grown hW).j).cell 6
      have c7 := ((HX.out.grown hW).j).cell 7
      go_simp
      exact ⟨rfl, Below.refl _ _⟩
    · injection ho with ho; subst ho
      have hg : A.tmps[30]?.getD undef = .bool false := he 18 (by kernel_rfl)
      refine .inl ⟨wanted_yes (d := 30) rfl (by kernel_rfl) hg, ?_⟩
      have h3 : A.tmps[3]?.getD undef = .pointer (some ⟨g3, 0, none⟩) := hk 3 (by rfl)
      have c0 := ((HX.out.grown hW).a).cell 0
      have c1 := ((HX.out.grown hW).a).cell 1
      have c2 := ((HX.out.grown hW).a).cell 2
      have c3 := ((HX.out.grown hW).a).cell 3
      have c4 := ((HX.out.grown hW).a).cell 4
      have c5 := ((HX.out.grown hW).a).cell 5
      have c6 := ((HX.out.grown hW).a).cell 6
      have c7 := ((HX.out.grown hW).a).cell 7
      go_simp
      exact ⟨rfl, Below.refl _ _⟩
    · injection ho with ho; subst ho
      have hg : A.tmps[30]?.getD undef = .bool false := he 18 (by kernel_rfl)
      refine .inl ⟨wanted_yes (d := 30) rfl (by kernel_rfl) hg, ?_⟩
      have h32 : A.tmps[32]?.getD undef = vewV a := he 20 (by kernel_rfl)
      go_simp
      exact ⟨⟨_, rfl, Sits.new _ _ _⟩, (Below.refl _ _).alloc (Nat.le_refl _) _⟩
    · injection ho with ho; subst ho
      have hg : A.tmps[30]?.getD undef = .bool false := he 18 (by kernel_rfl)
      refine .inl ⟨wanted_yes (d := 30) rfl (by kernel_rfl) hg, ?_⟩
      have h31 : A.tmps[31]?.getD undef = vewV j := he 19 (by kernel_rfl)
      obtain ⟨gr33, h33, hr33⟩ : rowV 24 1 #[.int .i64 (a 0), .int .i64 (a 1), .int .i64 (a 2), .int .i64 (a 3), .int .i64 (a 4), .int .i64 (a 5), .int .i64 (a 6), .int .i64 (a 7)] (A.tmps[33]?.getD undef) W := he 21 (by kernel_rfl)
      go_simp
      refine Calls.mono (HS.out.ja W gr33 hr33) ?_
      rintro e' w' ⟨rfl, hb⟩
      exact ⟨_, rfl, rfl, hb⟩
    · injection ho with ho; subst ho
      have hg : A.tmps[30]?.getD undef = .bool false := he 18 (by kernel_rfl)
      refine .inl ⟨wanted_yes (d := 30) rfl (by kernel_rfl) hg, ?_⟩
      have h7 : A.tmps[7]?.getD undef = .pointer (some ⟨g7, 0, none⟩) := hk 7 (by rfl)
      have c0 := ((HX.out.grown hW).j).cell 0
      have c1 := ((HX.out.grown hW).j).cell 1
      have c2 := ((HX.out.grown hW).j).cell 2
      have c3 := ((HX.out.grown hW).j).cell 3
      have c4 := ((HX.out.grown hW).j).cell 4
      have c5 := ((HX.out.grown hW).j).cell 5
      have c6 := ((HX.out.grown hW).j).cell 6
      have c7 := ((HX.out.grown hW).j).cell 7
      go_simp
      exact ⟨rfl, Below.refl _ _⟩
    · injection ho with ho; subst ho
      have hg : A.tmps[30]?.getD undef = .bool false := he 18 (by kernel_rfl)
      refine .inl ⟨wanted_yes (d := 30) rfl (by kernel_rfl) hg, ?_⟩
      have h34 : A.tmps[34]?.getD undef = vewV j := he 22 (by kernel_rfl)
      have h35 : A.tmps[35]?.getD undef = vewV j := he 23 (by kernel_rfl)
      have hq := HQJ.out j W
      have hgd : ∀ x y, (eqGuard .neq 24 x y (vewV j) (vewV j)).run Try.prog W = .ok () W := fun x y => guard_vew .neq x y (j) (j) W
      generalize vewV j = X at h34 h35 hq hgd
      go_simp
      exact ⟨rfl, Below.refl _ _⟩
    · injection ho with ho; subst ho
      refine .inl ⟨wanted_free rfl, ?_⟩
      have h30 : A.tmps[30]?.getD undef = .bool false := he 18 (by kernel_rfl)
      have h36 : A.tmps[36]?.getD undef = .bool false := he 24 (by kernel_rfl)
      go_simp
      exact ⟨rfl, Below.refl _ _⟩
    · injection ho with ho; subst ho
      refine .inl ⟨wanted_free rfl, ?_⟩
      have h37 : A.tmps[37]?.getD undef = .bool false := he 25 (by kernel_rfl)
      go_simp
      exact ⟨rfl, Below.refl _ _⟩
    · injection ho with ho; subst ho
      have hg : A.tmps[38]?.getD undef = .bool false := he 26 (by kernel_rfl)
      refine .inl ⟨wanted_yes (d := 38) rfl (by kernel_rfl) hg, ?_⟩
      have h3 : A.tmps[3]?.getD undef = .pointer (some ⟨g3, 0, none⟩) := hk 3 (by rfl)
      have c0 := ((HX.out.grown hW).a).cell 0
      have c1 := ((HX.out.grown hW).a).cell 1
      have c2 := ((HX.out.grown hW).a).cell 2
      have c3 := ((HX.out.grown hW).a).cell 3
      have c4 := ((HX.out.grown hW).a).cell 4
      have c5 := ((HX.out.grown hW).a).cell 5
      have c6 := ((HX.out.grown hW).a).cell 6
      have c7 := ((HX.out.grown hW).a).cell 7
      go_simp
      exact ⟨rfl, Below.refl _ _⟩
    · injection ho with ho; subst ho
      have hg : A.tmps[38]?.getD undef = .bool false := he 26 (by kernel_rfl)
      refine .inl ⟨wanted_yes (d := 38) rfl (by kernel_rfl) hg, ?_⟩
      have h3 : A.tmps[3]?.getD undef = .pointer (some ⟨g3, 0, none⟩) := hk 3 (by rfl)
      have c0 := ((HX.out.grown hW).a).cell 0
      have c1 := ((HX.out.grown hW).a).cell 1
      have c2 := ((HX.out.grown hW).a).cell 2
      have c3 := ((HX.out.grown hW).a).cell 3
      have c4 := ((HX.out.grown hW).a).cell 4
      have c5 := ((HX.out.grown hW).a).cell 5
      have c6 := ((HX.out.grown hW).a).cell 6
      have c7 := ((HX.out.grown hW).a).cell 7
      go_simp
      exact ⟨rfl, Below.refl _ _⟩
    · injection ho with ho; subst ho
      have hg : A.tmps[38]?.getD undef = .bool false := he 26 (by kernel_rfl)
      refine .inl ⟨wanted_yes (d := 38) rfl (by kernel_rfl) hg, ?_⟩
      have h40 : A.tmps[40]?.getD undef = vewV a := he 28 (by kernel_rfl)
      go_simp
      exact ⟨⟨_, rfl, Sits.new _ _ _⟩, (Below.refl _ _).alloc (Nat.le_refl _) _⟩
    · injection ho with ho; subst ho
      have hg : A.tmps[38]?.getD undef = .bool false := he 26 (by kernel_rfl)
      refine .inl ⟨wanted_yes (d := 38) rfl (by kernel_rfl) hg, ?_⟩
      have h39 : A.tmps[39]?.getD undef = vewV a := he 27 (by kernel_rfl)
      obtain ⟨gr41, h41, hr41⟩ : rowV 24 1 #[.int .i64 (a 0), .int .i64 (a 1), .int .i64 (a 2), .int .i64 (a 3), .int .i64 (a 4), .int .i64 (a 5), .int .i64 (a 6), .int .i64 (a 7)] (A.tmps[41]?.getD undef) W := he 29 (by kernel_rfl)
      go_simp
      refine Calls.mono (HS.out.aa W gr41 hr41) ?_
      rintro e' w' ⟨rfl, hb⟩
      exact ⟨_, rfl, rfl, hb⟩
    · injection ho with ho; subst ho
      have hg : A.tmps[38]?.getD undef = .bool false := he 26 (by kernel_rfl)
      refine .inl ⟨wanted_yes (d := 38) rfl (by kernel_rfl) hg, ?_⟩
      have h3 : A.tmps[3]?.getD undef = .pointer (some ⟨g3, 0, none⟩) := hk 3 (by rfl)
      have c0 := ((HX.out.grown hW).a).cell 0
      have c1 := ((HX.out.grown hW).a).cell 1
      have c2 := ((HX.out.grown hW).a).cell 2
      have c3 := ((HX.out.grown hW).a).cell 3
      have c4 := ((HX.out.grown hW).a).cell 4
      have c5 := ((HX.out.grown hW).a).cell 5
      have c6 := ((HX.out.grown hW).a).cell 6
      have c7 := ((HX.out.grown hW).a).cell 7
      go_simp
      exact ⟨rfl, Below.refl _ _⟩
    · injection ho with ho; subst ho
      have hg : A.tmps[38]?.getD undef = .bool false := he 26 (by kernel_rfl)
      refine .inl ⟨wanted_yes (d := 38) rfl (by kernel_rfl) hg, ?_⟩
      have h42 : A.tmps[42]?.getD undef = vewV a := he 30 (by kernel_rfl)
      have h43 : A.tmps[43]?.getD undef = vewV a := he 31 (by kernel_rfl)
      have hq := HQJ.out a W
      have hgd : ∀ x y, (eqGuard .neq 24 x y (vewV a) (vewV a)).run Try.prog W = .ok () W := fun x y => guard_vew .neq x y (a) (a) W
      generalize vewV a = X at h42 h43 hq hgd
      go_simp
      exact ⟨rfl, Below.refl _ _⟩
    · injection ho with ho; subst ho
      refine .inl ⟨wanted_free rfl, ?_⟩
      have h38 : A.tmps[38]?.getD undef = .bool false := he 26 (by kernel_rfl)
      have h44 : A.tmps[44]?.getD undef = .bool false := he 32 (by kernel_rfl)
      go_simp
      exact ⟨rfl, Below.refl _ _⟩
    · injection ho with ho; subst ho
      refine .inl ⟨wanted_free rfl, ?_⟩
      have h45 : A.tmps[45]?.getD undef = .bool false := he 33 (by kernel_rfl)
      go_simp
      exact ⟨rfl, Below.refl _ _⟩
    · injection ho with ho; subst ho
      have hg : A.tmps[46]?.getD undef = .bool false := he 34 (by kernel_rfl)
      refine .inl ⟨wanted_yes (d := 46) rfl (by kernel_rfl) hg, ?_⟩
      have h3 : A.tmps[3]?.getD undef = .pointer (some ⟨g3, 0, none⟩) := hk 3 (by rfl)
      have c0 := ((HX.out.grown hW).a).cell 0
      have c1 := ((HX.out.grown hW).a).cell 1
      have c2 := ((HX.out.grown hW).a).cell 2
      have c3 := ((HX.out.grown hW).a).cell 3
      have c4 := ((HX.out.grown hW).a).cell 4
      have c5 := ((HX.out.grown hW).a).cell 5
      have c6 := ((HX.out.grown hW).a).cell 6
      have c7 := ((HX.out.grown hW).a).cell 7
      go_simp
      exact ⟨rfl, Below.refl _ _⟩
    · injection ho with ho; subst ho
      have hg : A.tmps[46]?.getD undef = .bool false := he 34 (by kernel_rfl)
      refine .inl ⟨wanted_yes (d := 46) rfl (by kernel_rfl) hg, ?_⟩
      have h4 : A.tmps[4]?.getD undef = .pointer (some ⟨g4, 0, none⟩) := hk 4 (by rfl)
      have c0 := ((HX.out.grown hW).b).cell 0
      have c1 := ((HX.out.grown hW).b).cell 1
      have c2 := ((HX.out.grown hW).b).cell 2
      have c3 := ((HX.out.grown hW).b).cell 3
      have c4 := ((HX.out.grown hW).b).cell 4
      have c5 := ((HX.out.grown hW).b).cell 5
      have c6 := ((HX.out.grown hW).b).cell 6
      have c7 := ((HX.out.grown hW).b).cell 7
      go_simp
      exact ⟨rfl, Below.refl _ _⟩
    · injection ho with ho; subst ho
      have hg : A.tmps[46]?.getD undef = .bool false := he 34 (by kernel_rfl)
      refine .inl ⟨wanted_yes (d := 46) rfl (by kernel_rfl) hg, ?_⟩
      have h5 : A.tmps[5]?.getD undef = .pointer (some ⟨g5, 0, none⟩) := hk 5 (by rfl)
      have c0 := ((HX.out.grown hW).c).cell 0
      have c1 := ((HX.out.grown hW).c).cell 1
      have c2 := ((HX.out.grown hW).c).cell 2
      have c3 := ((HX.out.grown hW).c).cell 3
      have c4 := ((HX.out.grown hW).c).cell 4
      have c5 := ((HX.out.grown hW).c).cell 5
      have c6 := ((HX.out.grown hW).c).cell 6
      have c7 := ((HX.out.grown hW).c).cell 7
      go_simp
      exact ⟨rfl, Below.refl _ _⟩
    · injection ho with ho; subst ho
      have hg : A.tmps[46]?.getD undef = .bool false := he 34 (by kernel_rfl)
      refine .inl ⟨wanted_yes (d := 46) rfl (by kernel_rfl) hg, ?_⟩
      have h48 : A.tmps[48]?.getD undef = vewV b := he 36 (by kernel_rfl)
      have h49 : A.tmps[49]?.getD undef = vewV c := he 37 (by kernel_rfl)
      go_simp
      exact ⟨⟨_, rfl, Sits.new _ _ _⟩, (Below.refl _ _).alloc (Nat.le_refl _) _⟩
    · injection ho with ho; subst ho
      have hg : A.tmps[46]?.getD undef = .bool false := he 34 (by kernel_rfl)
      refine .inl ⟨wanted_yes (d := 46) rfl (by kernel_rfl) hg, ?_⟩
      have h47 : A.tmps[47]?.getD undef = vewV a := he 35 (by kernel_rfl)
      obtain ⟨gr50, h50, hr50⟩ : rowV 24 2 #[.int .i64 (b 0), .int .i64 (b 1), .int .i64 (b 2), .int .i64 (b 3), .int .i64 (b 4), .int .i64 (b 5), .int .i64 (b 6), .int .i64 (b 7), .int .i64 (c 0), .int .i64 (c 1), .int .i64 (c 2), .int .i64 (c 3), .int .i64 (c 4), .int .i64 (c 5), .int .i64 (c 6), .int .i64 (c 7)] (A.tmps[50]?.getD undef) W := he 38 (by kernel_rfl)
      go_simp
      refine Calls.mono (HS.out.abc W gr50 hr50) ?_
      rintro e' w' ⟨rfl, hb⟩
      exact ⟨_, rfl, rfl, hb⟩
    · injection ho with ho; subst ho
      have hg : A.tmps[46]?.getD undef = .bool false := he 34 (by kernel_rfl)
      refine .inl ⟨wanted_yes (d := 46) rfl (by kernel_rfl) hg, ?_⟩
      have h7 : A.tmps[7]?.getD undef = .pointer (some ⟨g7, 0, none⟩) := hk 7 (by rfl)
      have c0 := ((HX.out.grown hW).j).cell 0
      have c1 := ((HX.out.grown hW).j).cell 1
      have c2 := ((HX.out.grown hW).j).cell 2
      have c3 := ((HX.out.grown hW).j).cell 3
      have c4 := ((HX.out.grown hW).j).cell 4
      have c5 := ((HX.out.grown hW).j).cell 5
      have c6 := ((HX.out.grown hW).j).cell 6
      have c7 := ((HX.out.grown hW).j).cell 7
      go_simp
      exact ⟨rfl, Below.refl _ _⟩
    · injection ho with ho; subst ho
      have hg : A.tmps[46]?.getD undef = .bool false := he 34 (by kernel_rfl)
      refine .inl ⟨wanted_yes (d := 46) rfl (by kernel_rfl) hg, ?_⟩
      have h5 : A.tmps[5]?.getD undef = .pointer (some ⟨g5, 0, none⟩) := hk 5 (by rfl)
      have c0 := ((HX.out.grown hW).c).cell 0
      have c1 := ((HX.out.grown hW).c).cell 1
      have c2 := ((HX.out.grown hW).c).cell 2
      have c3 := ((HX.out.grown hW).c).cell 3
      have c4 := ((HX.out.grown hW).c).cell 4
      have c5 := ((HX.out.grown hW).c).cell 5
      have c6 := ((HX.out.grown hW).c).cell 6
      have c7 := ((HX.out.grown hW).c).cell 7
      go_simp
      exact ⟨rfl, Below.refl _ _⟩
    · injection ho with ho; subst ho
      have hg : A.tmps[46]?.getD undef = .bool false := he 34 (by kernel_rfl)
      refine .inl ⟨wanted_yes (d := 46) rfl (by kernel_rfl) hg, ?_⟩
      have h53 : A.tmps[53]?.getD undef = vewV c := he 41 (by kernel_rfl)
      go_simp
      exact ⟨⟨_, rfl, Sits.new _ _ _⟩, (Below.refl _ _).alloc (Nat.le_refl _) _⟩
    · injection ho with ho; subst ho
      have hg : A.tmps[46]?.getD undef = .bool false := he 34 (by kernel_rfl)
      refine .inl ⟨wanted_yes (d := 46) rfl (by kernel_rfl) hg, ?_⟩
      have h52 : A.tmps[52]?.getD undef = vewV j := he 40 (by kernel_rfl)
      obtain ⟨gr54, h54, hr54⟩ : rowV 24 1 #[.int .i64 (c 0), .int .i64 (c 1), .int .i64 (c 2), .int .i64 (c 3), .int .i64 (c 4), .int .i64 (c 5), .int .i64 (c 6), .int .i64 (c 7)] (A.tmps[54]?.getD undef) W := he 42 (by kernel_rfl)
      go_simp
      refine Calls.mono (HS.out.jc W gr54 hr54) ?_
      rintro e' w' ⟨rfl, hb⟩
      exact ⟨_, rfl, rfl, hb⟩
    · injection ho with ho; subst ho
      have hg : A.tmps[46]?.getD undef = .bool false := he 34 (by kernel_rfl)
      refine .inl ⟨wanted_yes (d := 46) rfl (by kernel_rfl) hg, ?_⟩
      have h51 : A.tmps[51]?.getD undef = vewV d := he 39 (by kernel_rfl)
      have h55 : A.tmps[55]?.getD undef = vewV d := he 43 (by kernel_rfl)
      have hq := HQJ.out d W
      have hgd : ∀ x y, (eqGuard .neq 24 x y (vewV d) (vewV d)).run Try.prog W = .ok () W := fun x y => guard_vew .neq x y (d) (d) W
      generalize vewV d = X at h51 h55 hq hgd
      go_simp
      exact ⟨rfl, Below.refl _ _⟩
    · injection ho with ho; subst ho
      refine .inl ⟨wanted_free rfl, ?_⟩
      have h46 : A.tmps[46]?.getD undef = .bool false := he 34 (by kernel_rfl)
      have h56 : A.tmps[56]?.getD undef = .bool false := he 44 (by kernel_rfl)
      go_simp
      exact ⟨rfl, Below.refl _ _⟩
    · injection ho with ho; subst ho
      refine .inl ⟨wanted_free rfl, ?_⟩
      have h57 : A.tmps[57]?.getD undef = .bool false := he 45 (by kernel_rfl)
      go_simp
      exact ⟨rfl, Below.refl _ _⟩
    · injection ho with ho; subst ho
      have hg : A.tmps[58]?.getD undef = .bool false := he 46 (by kernel_rfl)
      refine .inl ⟨wanted_yes (d := 58) rfl (by kernel_rfl) hg, ?_⟩
      have h7 : A.tmps[7]?.getD undef = .pointer (some ⟨g7, 0, none⟩) := hk 7 (by rfl)
      have c0 := ((HX.out.grown hW).j).cell 0
      have c1 := ((HX.out.grown hW).j).cell 1
      have c2 := ((HX.out.grown hW).j).cell 2
      have c3 := ((HX.out.grown hW).j).cell 3
      have c4 := ((HX.out.grown hW).j).cell 4
      have c5 := ((HX.out.grown hW).j).cell 5
      have c6 := ((HX.out.grown hW).j).cell 6
      have c7 := ((HX.out.grown hW).j).cell 7
      go_simp
      exact ⟨rfl, Below.refl _ _⟩
    · injection ho with ho; subst ho
      have hg : A.tmps[58]?.getD undef = .bool false := he 46 (by kernel_rfl)
      refine .inl ⟨wanted_yes (d := 58) rfl (by kernel_rfl) hg, ?_⟩
      have h5 : A.tmps[5]?.getD undef = .pointer (some ⟨g5, 0, none⟩) := hk 5 (by rfl)
      have c0 := ((HX.out.grown hW).c).cell 0
      have c1 := ((HX.out.grown hW).c).cell 1
      have c2 := ((HX.out.grown hW).c).cell 2
      have c3 := ((HX.out.grown hW).c).cell 3
      have c4 := ((HX.out.grown hW).c).cell 4
      have c5 := ((HX.out.grown hW).c).cell 5
      have c6 := ((HX.out.grown hW).c).cell 6
      have c7 := ((HX.out.grown hW).c).cell 7
      go_simp
      exact ⟨rfl, Below.refl _ _⟩
    · injection ho with ho; subst ho
      have hg : A.tmps[58]?.getD undef = .bool false := he 46 (by kernel_rfl)
      refine .inl ⟨wanted_yes (d := 58) rfl (by kernel_rfl) hg, ?_⟩
      have h60 : A.tmps[60]?.getD undef = vewV c := he 48 (by kernel_rfl)
      go_simp
      exact ⟨⟨_, rfl, Sits.new _ _ _⟩, (Below.refl _ _).alloc (Nat.le_refl _) _⟩
    · injection ho with ho; subst ho
      have hg : A.tmps[58]?.getD undef = .bool false := he 46 (by kernel_rfl)
      refine .inl ⟨wanted_yes (d := 58) rfl (by kernel_rfl) hg, ?_⟩
      have h59 : A.tmps[59]?.getD undef = vewV j := he 47 (by kernel_rfl)
      obtain ⟨gr61, h61, hr61⟩ : rowV 24 1 #[.int .i64 (c 0), .int .i64 (c 1), .int .i64 (c 2), .int .i64 (c 3), .int .i64 (c 4), .int .i64 (c 5), .int .i64 (c 6), .int .i64 (c 7)] (A.tmps[61]?.getD undef) W := he 49 (by kernel_rfl)
      go_simp
      refine Calls.mono (HS.out.jc W gr61 hr61) ?_
      rintro e' w' ⟨rfl, hb⟩
      exact ⟨_, rfl, rfl, hb⟩
    · injection ho with ho; subst ho
      have hg : A.tmps[58]?.getD undef = .bool false := he 46 (by kernel_rfl)
      refine .inl ⟨wanted_yes (d := 58) rfl (by kernel_rfl) hg, ?_⟩
      have h3 : A.tmps[3]?.getD undef = .pointer (some ⟨g3, 0, none⟩) := hk 3 (by rfl)
      have c0 := ((HX.out.grown hW).a).cell 0
      have c1 := ((HX.out.grown hW).a).cell 1
      have c2 := ((HX.out.grown hW).a).cell 2
      have c3 := ((HX.out.grown hW).a).cell 3
      have c4 := ((HX.out.grown hW).a).cell 4
      have c5 := ((HX.out.grown hW).a).cell 5
      have c6 := ((HX.out.grown hW).a).cell 6
      have c7 := ((HX.out.grown hW).a).cell 7
      go_simp
      exact ⟨rfl, Below.refl _ _⟩
    · injection ho with ho; subst ho
      have hg : A.tmps[58]?.getD undef = .bool false := he 46 (by kernel_rfl)
      refine .inl ⟨wanted_yes (d := 58) rfl (by kernel_rfl) hg, ?_⟩
      have h4 : A.tmps[4]?.getD undef = .pointer (some ⟨g4, 0, none⟩) := hk 4 (by rfl)
      have c0 := ((HX.out.grown hW).b).cell 0
      have c1 := ((HX.out.grown hW).b).cell 1
      have c2 := ((HX.out.grown hW).b).cell 2
      have c3 := ((HX.out.grown hW).b).cell 3
      have c4 := ((HX.out.grown hW).b).cell 4
      have c5 := ((HX.out.grown hW).b).cell 5
      have c6 := ((HX.out.grown hW).b).cell 6
      have c7 := ((HX.out.grown hW).b).cell 7
      go_simp
      exact ⟨rfl, Below.refl _ _⟩
    · injection ho with ho; subst ho
      have hg : A.tmps[58]?.getD undef = .bool false := he 46 (by kernel_rfl)
      refine .inl ⟨wanted_yes (d := 58) rfl (by kernel_rfl) hg, ?_⟩
      have h5 : A.tmps[5]?.getD undef = .pointer (some ⟨g5, 0, none⟩) := hk 5 (by rfl)
      have c0 := ((HX.out.grown hW).c).cell 0
      have c1 := ((HX.out.grown hW).c).cell 1
      have c2 := ((HX.out.grown hW).c).cell 2
      have c3 := ((HX.out.grown hW).c).cell 3
      have c4 := ((HX.out.grown hW).c).cell 4
      have c5 := ((HX.out.grown hW).c).cell 5
      have c6 := ((HX.out.grown hW).c).cell 6
      have c7 := ((HX.out.grown hW).c).cell 7
      go_simp
      exact ⟨rfl, Below.refl _ _⟩
    · injection ho with ho; subst ho
      have hg : A.tmps[58]?.getD undef = .bool false := he 46 (by kernel_rfl)
      refine .inl ⟨wanted_yes (d := 58) rfl (by kernel_rfl) hg, ?_⟩
      have h65 : A.tmps[65]?.getD undef = vewV c := he 53 (by kernel_rfl)
      go_simp
      exact ⟨⟨_, rfl, Sits.new _ _ _⟩, (Below.refl _ _).alloc (Nat.le_refl _) _⟩
    · injection ho with ho; subst ho
      have hg : A.tmps[58]?.getD undef = .bool false := he 46 (by kernel_rfl)
      refine .inl ⟨wanted_yes (d := 58) rfl (by kernel_rfl) hg, ?_⟩
      have h64 : A.tmps[64]?.getD undef = vewV b := he 52 (by kernel_rfl)
      obtain ⟨gr66, h66, hr66⟩ : rowV 24 1 #[.int .i64 (c 0), .int .i64 (c 1), .int .i64 (c 2), .int .i64 (c 3), .int .i64 (c 4), .int .i64 (c 5), .int .i64 (c 6), .int .i64 (c 7)] (A.tmps[66]?.getD undef) W := he 54 (by kernel_rfl)
      go_simp
      refine Calls.mono (HS.out.bc W gr66 hr66) ?_
      rintro e' w' ⟨rfl, hb⟩
      exact ⟨_, rfl, rfl, hb⟩
    · injection ho with ho; subst ho
      have hg : A.tmps[58]?.getD undef = .bool false := he 46 (by kernel_rfl)
      refine .inl ⟨wanted_yes (d := 58) rfl (by kernel_rfl) hg, ?_⟩
      have h67 : A.tmps[67]?.getD undef = vewV e := he 55 (by kernel_rfl)
      go_simp
      exact ⟨⟨_, rfl, Sits.new _ _ _⟩, (Below.refl _ _).alloc (Nat.le_refl _) _⟩
    · injection ho with ho; subst ho
      have hg : A.tmps[58]?.getD undef = .bool false := he 46 (by kernel_rfl)
      refine .inl ⟨wanted_yes (d := 58) rfl (by kernel_rfl) hg, ?_⟩
      have h63 : A.tmps[63]?.getD undef = vewV a := he 51 (by kernel_rfl)
      obtain ⟨gr68, h68, hr68⟩ : rowV 24 1 #[.int .i64 (e 0), .int .i64 (e 1), .int .i64 (e 2), .int .i64 (e 3), .int .i64 (e 4), .int .i64 (e 5), .int .i64 (e 6), .int .i64 (e 7)] (A.tmps[68]?.getD undef) W := he 56 (by kernel_rfl)
      go_simp
      refine Calls.mono (HS.out.ae W gr68 hr68) ?_
      rintro e' w' ⟨rfl, hb⟩
      exact ⟨_, rfl, rfl, hb⟩
    · injection ho with ho; subst ho
      have hg : A.tmps[58]?.getD undef = .bool false := he 46 (by kernel_rfl)
      refine .inl ⟨wanted_yes (d := 58) rfl (by kernel_rfl) hg, ?_⟩
      have h62 : A.tmps[62]?.getD undef = vewV d := he 50 (by kernel_rfl)
      have h69 : A.tmps[69]?.getD undef = vewV d := he 57 (by kernel_rfl)
      have hq := HQJ.out d W
      have hgd : ∀ x y, (eqGuard .neq 24 x y (vewV d) (vewV d)).run Try.prog W = .ok () W := fun x y => guard_vew .neq x y (d) (d) W
      generalize vewV d = X at h62 h69 hq hgd
      go_simp
      exact ⟨rfl, Below.refl _ _⟩
  · intro xs W hW hV
    have e58 : xs 46 = .bool false := hV 46 (by simp)
    have e70 : xs 58 = .bool false := hV 58 (by simp)
    simp only [List.length_cons, List.length_nil, Nat.zero_add, Nat.reduceAdd, List.drop_succ_cons, List.drop_zero, putL, Act.put, List.setIfInBounds_toArray, List.set_cons_zero, List.set_cons_succ, e58, e70]
    clear hV e58 e70
    have HX1 := Lib.hid (HX.out.grown hW)
    clear hW HX
    go_upto_region 4 with fail
    go_cut [100] (fun v100 wx => v100 = .bool false ∧ Hid (Four w g3 g4 g5 g7 a b c j wx))
    case first =>
      cases ha : withF a c
      · have HA : Hid (∀ W, Calls Try.prog 11 #[vewV a, vewV c] W (Made (.returned (.bool false)) W)) := Lib.hid (fun W => ha ▸ within_any a c W)
        clear ha
        cases hc : withF a b
        · have HC : Hid (∀ W, Calls Try.prog 11 #[vewV a, vewV b] W (Made (.returned (.bool false)) W)) := Lib.hid (fun W => hc ▸ within_any a b W)
          clear hc
          have ca0 := HX1.out.a.cell 0
          have ca1 := HX1.out.a.cell 1
          have ca2 := HX1.out.a.cell 2
          have ca3 := HX1.out.a.cell 3
          have ca4 := HX1.out.a.cell 4
          have ca5 := HX1.out.a.cell 5
          have ca6 := HX1.out.a.cell 6
          have ca7 := HX1.out.a.cell 7
          have cb0 := HX1.out.b.cell 0
          have cb1 := HX1.out.b.cell 1
          have cb2 := HX1.out.b.cell 2
          have cb3 := HX1.out.b.cell 3
          have cb4 := HX1.out.b.cell 4
          have cb5 := HX1.out.b.cell 5
          have cb6 := HX1.out.b.cell 6
          have cb7 := HX1.out.b.cell 7
          have cc0 := HX1.out.c.cell 0
          have cc1 := HX1.out.c.cell 1
          have cc2 := HX1.out.c.cell 2
          have cc3 := HX1.out.c.cell 3
          have cc4 := HX1.out.c.cell 4
          have cc5 := HX1.out.c.cell 5
          have cc6 := HX1.out.c.cell 6
          have cc7 := HX1.out.c.cell 7
          have cj0 := HX1.out.j.cell 0
          have cj1 := HX1.out.j.cell 1
          have cj2 := HX1.out.j.cell 2
          have cj3 := HX1.out.j.cell 3
          have cj4 := HX1.out.j.cell 4
          have cj5 := HX1.out.j.cell 5
          have cj6 := HX1.out.j.cell 6
          have cj7 := HX1.out.j.cell 7
          go_wp2_with fail
          refine (HA.out _).mono ?_
          rintro e' w' ⟨rfl, hb⟩
          have HX1a := Lib.hid (HX1.out.grown hb)
          clear ca0 ca1 ca2 ca3 ca4 ca5 ca6 ca7 cb0 cb1 cb2 cb3 cb4 cb5 cb6 cb7 cc0 cc1 cc2 cc3 cc4 cc5 cc6 cc7 cj0 cj1 cj2 cj3 cj4 cj5 cj6 cj7
          clear hb
          have ca0 := HX1a.out.a.cell 0
          have ca1 := HX1a.out.a.cell 1
          have ca2 := HX1a.out.a.cell 2
          have ca3 := HX1a.out.a.cell 3
          have ca4 := HX1a.out.a.cell 4
          have ca5 := HX1a.out.a.cell 5
          have ca6 := HX1a.out.a.cell 6
          have ca7 := HX1a.out.a.cell 7
          have cb0 := HX1a.out.b.cell 0
          have cb1 := HX1a.out.b.cell 1
          have cb2 := HX1a.out.b.cell 2
          have cb3 := HX1a.out.b.cell 3
          have cb4 := HX1a.out.b.cell 4
          have cb5 := HX1a.out.b.cell 5
          have cb6 := HX1a.out.b.cell 6
          have cb7 := HX1a.out.b.cell 7
          have cc0 := HX1a.out.c.cell 0
          have cc1 := HX1a.out.c.cell 1
          have cc2 := HX1a.out.c.cell 2
          have cc3 := HX1a.out.c.cell 3
          have cc4 := HX1a.out.c.cell 4
          have cc5 := HX1a.out.c.cell 5
          have cc6 := HX1a.out.c.cell 6
          have cc7 := HX1a.out.c.cell 7
          have cj0 := HX1a.out.j.cell 0
          have cj1 := HX1a.out.j.cell 1
          have cj2 := HX1a.out.j.cell 2
          have cj3 := HX1a.out.j.cell 3
          have cj4 := HX1a.out.j.cell 4
          have cj5 := HX1a.out.j.cell 5
          have cj6 := HX1a.out.j.cell 6
          have cj7 := HX1a.out.j.cell 7
          go_wp2_with fail
          refine (HC.out _).mono ?_
          rintro e' w' ⟨rfl, hb⟩
          have HX1b := Lib.hid (HX1a.out.grown hb)
          clear ca0 ca1 ca2 ca3 ca4 ca5 ca6 ca7 cb0 cb1 cb2 cb3 cb4 cb5 cb6 cb7 cc0 cc1 cc2 cc3 cc4 cc5 cc6 cc7 cj0 cj1 cj2 cj3 cj4 cj5 cj6 cj7
          clear hb HX1a
          have ca0 := HX1b.out.a.cell 0
          have ca1 := HX1b.out.a.cell 1
          have ca2 := HX1b.out.a.cell 2
          have ca3 := HX1b.out.a.cell 3
          have ca4 := HX1b.out.a.cell 4
          have ca5 := HX1b.out.a.cell 5
          have ca6 := HX1b.out.a.cell 6
          have ca7 := HX1b.out.a.cell 7
          have cb0 := HX1b.out.b.cell 0
          have cb1 := HX1b.out.b.cell 1
          have cb2 := HX1b.out.b.cell 2
          have cb3 := HX1b.out.b.cell 3
          have cb4 := HX1b.out.b.cell 4
          have cb5 := HX1b.out.b.cell 5
          have cb6 := HX1b.out.b.cell 6
          have cb7 := HX1b.out.b.cell 7
          have cc0 := HX1b.out.c.cell 0
          have cc1 := HX1b.out.c.cell 1
          have cc2 := HX1b.out.c.cell 2
          have cc3 := HX1b.out.c.cell 3
          have cc4 := HX1b.out.c.cell 4
          have cc5 := HX1b.out.c.cell 5
          have cc6 := HX1b.out.c.cell 6
          have cc7 := HX1b.out.c.cell 7
          have cj0 := HX1b.out.j.cell 0
          have cj1 := HX1b.out.j.cell 1
          have cj2 := HX1b.out.j.cell 2
          have cj3 := HX1b.out.j.cell 3
          have cj4 := HX1b.out.j.cell 4
          have cj5 := HX1b.out.j.cell 5
          have cj6 := HX1b.out.j.cell 6
          have cj7 := HX1b.out.j.cell 7
          go_wp2_with fail
          go_meet
          exact ⟨rfl, HX1b⟩
        · have HC : Hid (∀ W, Calls Try.prog 11 #[vewV a, vewV b] W (Made (.returned (.bool true)) W)) := Lib.hid (fun W => hc ▸ within_any a b W)
          cases hd : withF b a
          · have HD : Hid (∀ W, Calls Try.prog 11 #[vewV b, vewV a] W (Made (.returned (.bool false)) W)) := Lib.hid (fun W => hd ▸ within_any b a W)
            clear hc hd
            have ca0 := HX1.out.a.cell 0
            have ca1 := HX1.out.a.cell 1
            have ca2 := HX1.out.a.cell 2
            have ca3 := HX1.out.a.cell 3
            have ca4 := HX1.out.a.cell 4
            have ca5 := HX1.out.a.cell 5
            have ca6 := HX1.out.a.cell 6
            have ca7 := HX1.out.a.cell 7
            have cb0 := HX1.out.b.cell 0
            have cb1 := HX1.out.b.cell 1
            have cb2 := HX1.out.b.cell 2
            have cb3 := HX1.out.b.cell 3
            have cb4 := HX1.out.b.cell 4
            have cb5 := HX1.out.b.cell 5
            have cb6 := HX1.out.b.cell 6
            have cb7 := HX1.out.b.cell 7
            have cc0 := HX1.out.c.cell 0
            have cc1 := HX1.out.c.cell 1
            have cc2 := HX1.out.c.cell 2
            have cc3 := HX1.out.c.cell 3
            have cc4 := HX1.out.c.cell 4
            have cc5 := HX1.out.c.cell 5
            have cc6 := HX1.out.c.cell 6
            have cc7 := HX1.out.c.cell 7
            have cj0 := HX1.out.j.cell 0
            have cj1 := HX1.out.j.cell 1
            have cj2 := HX1.out.j.cell 2
            have cj3 := HX1.out.j.cell 3
            have cj4 := HX1.out.j.cell 4
            have cj5 := HX1.out.j.cell 5
            have cj6 := HX1.out.j.cell 6
            have cj7 := HX1.out.j.cell 7
            go_wp2_with fail
            refine (HA.out _).mono ?_
            rintro e' w' ⟨rfl, hb⟩
            have HX1a := Lib.hid (HX1.out.grown hb)
            clear ca0 ca1 ca2 ca3 ca4 ca5 ca6 ca7 cb0 cb1 cb2 cb3 cb4 cb5 cb6 cb7 cc0 cc1 cc2 cc3 cc4 cc5 cc6 cc7 cj0 cj1 cj2 cj3 cj4 cj5 cj6 cj7
            clear hb
            have ca0 := HX1a.out.a.cell 0
            have ca1 := HX1a.out.a.cell 1
            have ca2 := HX1a.out.a.cell 2
            have ca3 := HX1a.out.a.cell 3
            have ca4 := HX1a.out.a.cell 4
            have ca5 := HX1a.out.a.cell 5
            have ca6 := HX1a.out.a.cell 6
            have ca7 := HX1a.out.a.cell 7
            have cb0 := HX1a.out.b.cell 0
            have cb1 := HX1a.out.b.cell 1
            have cb2 := HX1a.out.b.cell 2
            have cb3 := HX1a.out.b.cell 3
            have cb4 := HX1a.out.b.cell 4
            have cb5 := HX1a.out.b.cell 5
            have cb6 := HX1a.out.b.cell 6
            have cb7 := HX1a.out.b.cell 7
            have cc0 := HX1a.out.c.cell 0
            have cc1 := HX1a.out.c.cell 1
            have cc2 := HX1a.out.c.cell 2
            have cc3 := HX1a.out.c.cell 3
            have cc4 := HX1a.out.c.cell 4
            have cc5 := HX1a.out.c.cell 5
            have cc6 := HX1a.out.c.cell 6
            have cc7 := HX1a.out.c.cell 7
            have cj0 := HX1a.out.j.cell 0
            have cj1 := HX1a.out.j.cell 1
            have cj2 := HX1a.out.j.cell 2
            have cj3 := HX1a.out.j.cell 3
            have cj4 := HX1a.out.j.cell 4
            have cj5 := HX1a.out.j.cell 5
            have cj6 := HX1a.out.j.cell 6
            have cj7 := HX1a.out.j.cell 7
            go_wp2_with fail
            refine (HC.out _).mono ?_
            rintro e' w' ⟨rfl, hb⟩
            have HX1b := Lib.hid (HX1a.out.grown hb)
            clear ca0 ca1 ca2 ca3 ca4 ca5 ca6 ca7 cb0 cb1 cb2 cb3 cb4 cb5 cb6 cb7 cc0 cc1 cc2 cc3 cc4 cc5 cc6 cc7 cj0 cj1 cj2 cj3 cj4 cj5 cj6 cj7
            clear hb HX1a
            have ca0 := HX1b.out.a.cell 0
            have ca1 := HX1b.out.a.cell 1
            have ca2 := HX1b.out.a.cell 2
            have ca3 := HX1b.out.a.cell 3
            have ca4 := HX1b.out.a.cell 4
            have ca5 := HX1b.out.a.cell 5
            have ca6 := HX1b.out.a.cell 6
            have ca7 := HX1b.out.a.cell 7
            have cb0 := HX1b.out.b.cell 0
            have cb1 := HX1b.out.b.cell 1
            have cb2 := HX1b.out.b.cell 2
            have cb3 := HX1b.out.b.cell 3
            have cb4 := HX1b.out.b.cell 4
            have cb5 := HX1b.out.b.cell 5
            have cb6 := HX1b.out.b.cell 6
            have cb7 := HX1b.out.b.cell 7
            have cc0 := HX1b.out.c.cell 0
            have cc1 := HX1b.out.c.cell 1
            have cc2 := HX1b.out.c.cell 2
            have cc3 := HX1b.out.c.cell 3
            have cc4 := HX1b.out.c.cell 4
            have cc5 := HX1b.out.c.cell 5
            have cc6 := HX1b.out.c.cell 6
            have cc7 := HX1b.out.c.cell 7
            have cj0 := HX1b.out.j.cell 0
            have cj1 := HX1b.out.j.cell 1
            have cj2 := HX1b.out.j.cell 2
            have cj3 := HX1b.out.j.cell 3
            have cj4 := HX1b.out.j.cell 4
            have cj5 := HX1b.out.j.cell 5
            have cj6 := HX1b.out.j.cell 6
            have cj7 := HX1b.out.j.cell 7
            go_wp2_with fail
            refine (HD.out _).mono ?_
            rintro e' w' ⟨rfl, hb⟩
            have HX1c := Lib.hid (HX1b.out.grown hb)
            clear ca0 ca1 ca2 ca3 ca4 ca5 ca6 ca7 cb0 cb1 cb2 cb3 cb4 cb5 cb6 cb7 cc0 cc1 cc2 cc3 cc4 cc5 cc6 cc7 cj0 cj1 cj2 cj3 cj4 cj5 cj6 cj7
            clear hb HX1b
            have ca0 := HX1c.out.a.cell 0
            have ca1 := HX1c.out.a.cell 1
            have ca2 := HX1c.out.a.cell 2
            have ca3 := HX1c.out.a.cell 3
            have ca4 := HX1c.out.a.cell 4
            have ca5 := HX1c.out.a.cell 5
            have ca6 := HX1c.out.a.cell 6
            have ca7 := HX1c.out.a.cell 7
            have cb0 := HX1c.out.b.cell 0
            have cb1 := HX1c.out.b.cell 1
            have cb2 := HX1c.out.b.cell 2
            have cb3 := HX1c.out.b.cell 3
            have cb4 := HX1c.out.b.cell 4
            have cb5 := HX1c.out.b.cell 5
            have cb6 := HX1c.out.b.cell 6
            have cb7 := HX1c.out.b.cell 7
            have cc0 := HX1c.out.c.cell 0
            have cc1 := HX1c.out.c.cell 1
            have cc2 := HX1c.out.c.cell 2
            have cc3 := HX1c.out.c.cell 3
            have cc4 := HX1c.out.c.cell 4
            have cc5 := HX1c.out.c.cell 5
            have cc6 := HX1c.out.c.cell 6
            have cc7 := HX1c.out.c.cell 7
            have cj0 := HX1c.out.j.cell 0
            have cj1 := HX1c.out.j.cell 1
            have cj2 := HX1c.out.j.cell 2
            have cj3 := HX1c.out.j.cell 3
            have cj4 := HX1c.out.j.cell 4
            have cj5 := HX1c.out.j.cell 5
            have cj6 := HX1c.out.j.cell 6
            have cj7 := HX1c.out.j.cell 7
            go_wp2_with fail
            go_meet
            exact ⟨rfl, HX1c⟩
          · have HD : Hid (∀ W, Calls Try.prog 11 #[vewV b, vewV a] W (Made (.returned (.bool true)) W)) := Lib.hid (fun W => hd ▸ within_any b a W)
            have HN := Lib.hid (anti_arr hc hd)
            clear hc hd
            have ca0 := HX1.out.a.cell 0
            have ca1 := HX1.out.a.cell 1
            have ca2 := HX1.out.a.cell 2
            have ca3 := HX1.out.a.cell 3
            have ca4 := HX1.out.a.cell 4
            have ca5 := HX1.out.a.cell 5
            have ca6 := HX1.out.a.cell 6
            have ca7 := HX1.out.a.cell 7
            have cb0 := HX1.out.b.cell 0
            have cb1 := HX1.out.b.cell 1
            have cb2 := HX1.out.b.cell 2
            have cb3 := HX1.out.b.cell 3
            have cb4 := HX1.out.b.cell 4
            have cb5 := HX1.out.b.cell 5
            have cb6 := HX1.out.b.cell 6
            have cb7 := HX1.out.b.cell 7
            have cc0 := HX1.out.c.cell 0
            have cc1 := HX1.out.c.cell 1
            have cc2 := HX1.out.c.cell 2
            have cc3 := HX1.out.c.cell 3
            have cc4 := HX1.out.c.cell 4
            have cc5 := HX1.out.c.cell 5
            have cc6 := HX1.out.c.cell 6
            have cc7 := HX1.out.c.cell 7
            have cj0 := HX1.out.j.cell 0
            have cj1 := HX1.out.j.cell 1
            have cj2 := HX1.out.j.cell 2
            have cj3 := HX1.out.j.cell 3
            have cj4 := HX1.out.j.cell 4
            have cj5 := HX1.out.j.cell 5
            have cj6 := HX1.out.j.cell 6
            have cj7 := HX1.out.j.cell 7
            go_wp2_with fail
            refine (HA.out _).mono ?_
            rintro e' w' ⟨rfl, hb⟩
            have HX1a := Lib.hid (HX1.out.grown hb)
            clear ca0 ca1 ca2 ca3 ca4 ca5 ca6 ca7 cb0 cb1 cb2 cb3 cb4 cb5 cb6 cb7 cc0 cc1 cc2 cc3 cc4 cc5 cc6 cc7 cj0 cj1 cj2 cj3 cj4 cj5 cj6 cj7
            clear hb
            have ca0 := HX1a.out.a.cell 0
            have ca1 := HX1a.out.a.cell 1
            have ca2 := HX1a.out.a.cell 2
            have ca3 := HX1a.out.a.cell 3
            have ca4 := HX1a.out.a.cell 4
            have ca5 := HX1a.out.a.cell 5
            have ca6 := HX1a.out.a.cell 6
            have ca7 := HX1a.out.a.cell 7
            have cb0 := HX1a.out.b.cell 0
            have cb1 := HX1a.out.b.cell 1
            have cb2 := HX1a.out.b.cell 2
            have cb3 := HX1a.out.b.cell 3
            have cb4 := HX1a.out.b.cell 4
            have cb5 := HX1a.out.b.cell 5
            have cb6 := HX1a.out.b.cell 6
            have cb7 := HX1a.out.b.cell 7
            have cc0 := HX1a.out.c.cell 0
            have cc1 := HX1a.out.c.cell 1
            have cc2 := HX1a.out.c.cell 2
            have cc3 := HX1a.out.c.cell 3
            have cc4 := HX1a.out.c.cell 4
            have cc5 := HX1a.out.c.cell 5
            have cc6 := HX1a.out.c.cell 6
            have cc7 := HX1a.out.c.cell 7
            have cj0 := HX1a.out.j.cell 0
            have cj1 := HX1a.out.j.cell 1
            have cj2 := HX1a.out.j.cell 2
            have cj3 := HX1a.out.j.cell 3
            have cj4 := HX1a.out.j.cell 4
            have cj5 := HX1a.out.j.cell 5
            have cj6 := HX1a.out.j.cell 6
            have cj7 := HX1a.out.j.cell 7
            go_wp2_with fail
            refine (HC.out _).mono ?_
            rintro e' w' ⟨rfl, hb⟩
            have HX1b := Lib.hid (HX1a.out.grown hb)
            clear ca0 ca1 ca2 ca3 ca4 ca5 ca6 ca7 cb0 cb1 cb2 cb3 cb4 cb5 cb6 cb7 cc0 cc1 cc2 cc3 cc4 cc5 cc6 cc7 cj0 cj1 cj2 cj3 cj4 cj5 cj6 cj7
            clear hb HX1a
            have ca0 := HX1b.out.a.cell 0
            have ca1 := HX1b.out.a.cell 1
            have ca2 := HX1b.out.a.cell 2
            have ca3 := HX1b.out.a.cell 3
            have ca4 := HX1b.out.a.cell 4
            have ca5 := HX1b.out.a.cell 5
            have ca6 := HX1b.out.a.cell 6
            have ca7 := HX1b.out.a.cell 7
            have cb0 := HX1b.out.b.cell 0
            have cb1 := HX1b.out.b.cell 1
            have cb2 := HX1b.out.b.cell 2
            have cb3 := HX1b.out.b.cell 3
            have cb4 := HX1b.out.b.cell 4
            have cb5 := HX1b.out.b.cell 5
            have cb6 := HX1b.out.b.cell 6
            have cb7 := HX1b.out.b.cell 7
            have cc0 := HX1b.out.c.cell 0
            have cc1 := HX1b.out.c.cell 1
            have cc2 := HX1b.out.c.cell 2
            have cc3 := HX1b.out.c.cell 3
            have cc4 := HX1b.out.c.cell 4
            have cc5 := HX1b.out.c.cell 5
            have cc6 := HX1b.out.c.cell 6
            have cc7 := HX1b.out.c.cell 7
            have cj0 := HX1b.out.j.cell 0
            have cj1 := HX1b.out.j.cell 1
            have cj2 := HX1b.out.j.cell 2
            have cj3 := HX1b.out.j.cell 3
            have cj4 := HX1b.out.j.cell 4
            have cj5 := HX1b.out.j.cell 5
            have cj6 := HX1b.out.j.cell 6
            have cj7 := HX1b.out.j.cell 7
            go_wp2_with fail
            refine (HD.out _).mono ?_
            rintro e' w' ⟨rfl, hb⟩
            have HX1c := Lib.hid (HX1b.out.grown hb)
            clear ca0 ca1 ca2 ca3 ca4 ca5 ca6 ca7 cb0 cb1 cb2 cb3 cb4 cb5 cb6 cb7 cc0 cc1 cc2 cc3 cc4 cc5 cc6 cc7 cj0 cj1 cj2 cj3 cj4 cj5 cj6 cj7
            clear hb HX1b
            have ca0 := HX1c.out.a.cell 0
            have ca1 := HX1c.out.a.cell 1
            have ca2 := HX1c.out.a.cell 2
            have ca3 := HX1c.out.a.cell 3
            have ca4 := HX1c.out.a.cell 4
            have ca5 := HX1c.out.a.cell 5
            have ca6 := HX1c.out.a.cell 6
            have ca7 := HX1c.out.a.cell 7
            have cb0 := HX1c.out.b.cell 0
            have cb1 := HX1c.out.b.cell 1
            have cb2 := HX1c.out.b.cell 2
            have cb3 := HX1c.out.b.cell 3
            have cb4 := HX1c.out.b.cell 4
            have cb5 := HX1c.out.b.cell 5
            have cb6 := HX1c.out.b.cell 6
            have cb7 := HX1c.out.b.cell 7
            have cc0 := HX1c.out.c.cell 0
            have cc1 := HX1c.out.c.cell 1
            have cc2 := HX1c.out.c.cell 2
            have cc3 := HX1c.out.c.cell 3
            have cc4 := HX1c.out.c.cell 4
            have cc5 := HX1c.out.c.cell 5
            have cc6 := HX1c.out.c.cell 6
            have cc7 := HX1c.out.c.cell 7
            have cj0 := HX1c.out.j.cell 0
            have cj1 := HX1c.out.j.cell 1
            have cj2 := HX1c.out.j.cell 2
            have cj3 := HX1c.out.j.cell 3
            have cj4 := HX1c.out.j.cell 4
            have cj5 := HX1c.out.j.cell 5
            have cj6 := HX1c.out.j.cell 6
            have cj7 := HX1c.out.j.cell 7
            have hq1 := fun W => (HN.out W).1
            have hq2 := fun W => (HN.out W).2
            go_wp2_with fail
            go_meet
            exact ⟨rfl, HX1c⟩
      · have HA : Hid (∀ W, Calls Try.prog 11 #[vewV a, vewV c] W (Made (.returned (.bool true)) W)) := Lib.hid (fun W => ha ▸ within_any a c W)
        cases hb2 : withF b c
        · have HB : Hid (∀ W, Calls Try.prog 11 #[vewV b, vewV c] W (Made (.returned (.bool false)) W)) := Lib.hid (fun W => hb2 ▸ within_any b c W)
          clear ha hb2
          cases hc : withF a b
          · have HC : Hid (∀ W, Calls Try.prog 11 #[vewV a, vewV b] W (Made (.returned (.bool false)) W)) := Lib.hid (fun W => hc ▸ within_any a b W)
            clear hc
            have ca0 := HX1.out.a.cell 0
            have ca1 := HX1.out.a.cell 1
            have ca2 := HX1.out.a.cell 2
            have ca3 := HX1.out.a.cell 3
            have ca4 := HX1.out.a.cell 4
            have ca5 := HX1.out.a.cell 5
            have ca6 := HX1.out.a.cell 6
            have ca7 := HX1.out.a.cell 7
            have cb0 := HX1.out.b.cell 0
            have cb1 := HX1.out.b.cell 1
            have cb2 := HX1.out.b.cell 2
            have cb3 := HX1.out.b.cell 3
            have cb4 := HX1.out.b.cell 4
            have cb5 := HX1.out.b.cell 5
            have cb6 := HX1.out.b.cell 6
            have cb7 := HX1.out.b.cell 7
            have cc0 := HX1.out.c.cell 0
            have cc1 := HX1.out.c.cell 1
            have cc2 := HX1.out.c.cell 2
            have cc3 := HX1.out.c.cell 3
            have cc4 := HX1.out.c.cell 4
            have cc5 := HX1.out.c.cell 5
            have cc6 := HX1.out.c.cell 6
            have cc7 := HX1.out.c.cell 7
            have cj0 := HX1.out.j.cell 0
            have cj1 := HX1.out.j.cell 1
            have cj2 := HX1.out.j.cell 2
            have cj3 := HX1.out.j.cell 3
            have cj4 := HX1.out.j.cell 4
            have cj5 := HX1.out.j.cell 5
            have cj6 := HX1.out.j.cell 6
            have cj7 := HX1.out.j.cell 7
            go_wp2_with fail
            refine (HA.out _).mono ?_
            rintro e' w' ⟨rfl, hb⟩
            have HX1a := Lib.hid (HX1.out.grown hb)
            clear ca0 ca1 ca2 ca3 ca4 ca5 ca6 ca7 cb0 cb1 cb2 cb3 cb4 cb5 cb6 cb7 cc0 cc1 cc2 cc3 cc4 cc5 cc6 cc7 cj0 cj1 cj2 cj3 cj4 cj5 cj6 cj7
            clear hb
            have ca0 := HX1a.out.a.cell 0
            have ca1 := HX1a.out.a.cell 1
            have ca2 := HX1a.out.a.cell 2
            have ca3 := HX1a.out.a.cell 3
            have ca4 := HX1a.out.a.cell 4
            have ca5 := HX1a.out.a.cell 5
            have ca6 := HX1a.out.a.cell 6
            have ca7 := HX1a.out.a.cell 7
            have cb0 := HX1a.out.b.cell 0
            have cb1 := HX1a.out.b.cell 1
            have cb2 := HX1a.out.b.cell 2
            have cb3 := HX1a.out.b.cell 3
            have cb4 := HX1a.out.b.cell 4
            have cb5 := HX1a.out.b.cell 5
            have cb6 := HX1a.out.b.cell 6
            have cb7 := HX1a.out.b.cell 7
            have cc0 := HX1a.out.c.cell 0
            have cc1 := HX1a.out.c.cell 1
            have cc2 := HX1a.out.c.cell 2
            have cc3 := HX1a.out.c.cell 3
            have cc4 := HX1a.out.c.cell 4
            have cc5 := HX1a.out.c.cell 5
            have cc6 := HX1a.out.c.cell 6
            have cc7 := HX1a.out.c.cell 7
            have cj0 := HX1a.out.j.cell 0
            have cj1 := HX1a.out.j.cell 1
            have cj2 := HX1a.out.j.cell 2
            have cj3 := HX1a.out.j.cell 3
            have cj4 := HX1a.out.j.cell 4
            have cj5 := HX1a.out.j.cell 5
            have cj6 := HX1a.out.j.cell 6
            have cj7 := HX1a.out.j.cell 7
            go_wp2_with fail
            refine (HB.out _).mono ?_
            rintro e' w' ⟨rfl, hb⟩
            have HX1b := Lib.hid (HX1a.out.grown hb)
            clear ca0 ca1 ca2 ca3 ca4 ca5 ca6 ca7 cb0 cb1 cb2 cb3 cb4 cb5 cb6 cb7 cc0 cc1 cc2 cc3 cc4 cc5 cc6 cc7 cj0 cj1 cj2 cj3 cj4 cj5 cj6 cj7
            clear hb HX1a
            have ca0 := HX1b.out.a.cell 0
            have ca1 := HX1b.out.a.cell 1
            have ca2 := HX1b.out.a.cell 2
            have ca3 := HX1b.out.a.cell 3
            have ca4 := HX1b.out.a.cell 4
            have ca5 := HX1b.out.a.cell 5
            have ca6 := HX1b.out.a.cell 6
            have ca7 := HX1b.out.a.cell 7
            have cb0 := HX1b.out.b.cell 0
            have cb1 := HX1b.out.b.cell 1
            have cb2 := HX1b.out.b.cell 2
            have cb3 := HX1b.out.b.cell 3
            have cb4 := HX1b.out.b.cell 4
            have cb5 := HX1b.out.b.cell 5
            have cb6 := HX1b.out.b.cell 6
            have cb7 := HX1b.out.b.cell 7
            have cc0 := HX1b.out.c.cell 0
            have cc1 := HX1b.out.c.cell 1
            have cc2 := HX1b.out.c.cell 2
            have cc3 := HX1b.out.c.cell 3
            have cc4 := HX1b.out.c.cell 4
            have cc5 := HX1b.out.c.cell 5
            have cc6 := HX1b.out.c.cell 6
            have cc7 := HX1b.out.c.cell 7
            have cj0 := HX1b.out.j.cell 0
            have cj1 := HX1b.out.j.cell 1
            have cj2 := HX1b.out.j.cell 2
            have cj3 := HX1b.out.j.cell 3
            have cj4 := HX1b.out.j.cell 4
            have cj5 := HX1b.out.j.cell 5
            have cj6 := HX1b.out.j.cell 6
            have cj7 := HX1b.out.j.cell 7
            go_wp2_with fail
            refine (HC.out _).mono ?_
            rintro e' w' ⟨rfl, hb⟩
            have HX1c := Lib.hid (HX1b.out.grown hb)
            clear ca0 ca1 ca2 ca3 ca4 ca5 ca6 ca7 cb0 cb1 cb2 cb3 cb4 cb5 cb6 cb7 cc0 cc1 cc2 cc3 cc4 cc5 cc6 cc7 cj0 cj1 cj2 cj3 cj4 cj5 cj6 cj7
            clear hb HX1b
            have ca0 := HX1c.out.a.cell 0
            have ca1 := HX1c.out.a.cell 1
            have ca2 := HX1c.out.a.cell 2
            have ca3 := HX1c.out.a.cell 3
            have ca4 := HX1c.out.a.cell 4
            have ca5 := HX1c.out.a.cell 5
            have ca6 := HX1c.out.a.cell 6
            have ca7 := HX1c.out.a.cell 7
            have cb0 := HX1c.out.b.cell 0
            have cb1 := HX1c.out.b.cell 1
            have cb2 := HX1c.out.b.cell 2
            have cb3 := HX1c.out.b.cell 3
            have cb4 := HX1c.out.b.cell 4
            have cb5 := HX1c.out.b.cell 5
            have cb6 := HX1c.out.b.cell 6
            have cb7 := HX1c.out.b.cell 7
            have cc0 := HX1c.out.c.cell 0
            have cc1 := HX1c.out.c.cell 1
            have cc2 := HX1c.out.c.cell 2
            have cc3 := HX1c.out.c.cell 3
            have cc4 := HX1c.out.c.cell 4
            have cc5 := HX1c.out.c.cell 5
            have cc6 := HX1c.out.c.cell 6
            have cc7 := HX1c.out.c.cell 7
            have cj0 := HX1c.out.j.cell 0
            have cj1 := HX1c.out.j.cell 1
            have cj2 := HX1c.out.j.cell 2
            have cj3 := HX1c.out.j.cell 3
            have cj4 := HX1c.out.j.cell 4
            have cj5 := HX1c.out.j.cell 5
            have cj6 := HX1c.out.j.cell 6
            have cj7 := HX1c.out.j.cell 7
            go_wp2_with fail
            go_meet
            exact ⟨rfl, HX1c⟩
          · have HC : Hid (∀ W, Calls Try.prog 11 #[vewV a, vewV b] W (Made (.returned (.bool true)) W)) := Lib.hid (fun W => hc ▸ within_any a b W)
            cases hd : withF b a
            · have HD : Hid (∀ W, Calls Try.prog 11 #[vewV b, vewV a] W (Made (.returned (.bool false)) W)) := Lib.hid (fun W => hd ▸ within_any b a W)
              clear hc hd
              have ca0 := HX1.out.a.cell 0
              have ca1 := HX1.out.a.cell 1
              have ca2 := HX1.out.a.cell 2
              have ca3 := HX1.out.a.cell 3
              have ca4 := HX1.out.a.cell 4
              have ca5 := HX1.out.a.cell 5
              have ca6 := HX1.out.a.cell 6
              have ca7 := HX1.out.a.cell 7
              have cb0 := HX1.out.b.cell 0
              have cb1 := HX1.out.b.cell 1
              have cb2 := HX1.out.b.cell 2
              have cb3 := HX1.out.b.cell 3
              have cb4 := HX1.out.b.cell 4
              have cb5 := HX1.out.b.cell 5
              have cb6 := HX1.out.b.cell 6
              have cb7 := HX1.out.b.cell 7
              have cc0 := HX1.out.c.cell 0
              have cc1 := HX1.out.c.cell 1
              have cc2 := HX1.out.c.cell 2
              have cc3 := HX1.out.c.cell 3
              have cc4 := HX1.out.c.cell 4
              have cc5 := HX1.out.c.cell 5
              have cc6 := HX1.out.c.cell 6
              have cc7 := HX1.out.c.cell 7
              have cj0 := HX1.out.j.cell 0
              have cj1 := HX1.out.j.cell 1
              have cj2 := HX1.out.j.cell 2
              have cj3 := HX1.out.j.cell 3
              have cj4 := HX1.out.j.cell 4
              have cj5 := HX1.out.j.cell 5
              have cj6 := HX1.out.j.cell 6
              have cj7 := HX1.out.j.cell 7
              go_wp2_with fail
              refine (HA.out _).mono ?_
              rintro e' w' ⟨rfl, hb⟩
              have HX1a := Lib.hid (HX1.out.grown hb)
              clear ca0 ca1 ca2 ca3 ca4 ca5 ca6 ca7 cb0 cb1 cb2 cb3 cb4 cb5 cb6 cb7 cc0 cc1 cc2 cc3 cc4 cc5 cc6 cc7 cj0 cj1 cj2 cj3 cj4 cj5 cj6 cj7
              clear hb
              have ca0 := HX1a.out.a.cell 0
              have ca1 := HX1a.out.a.cell 1
              have ca2 := HX1a.out.a.cell 2
              have ca3 := HX1a.out.a.cell 3
              have ca4 := HX1a.out.a.cell 4
              have ca5 := HX1a.out.a.cell 5
              have ca6 := HX1a.out.a.cell 6
              have ca7 := HX1a.out.a.cell 7
              have cb0 := HX1a.out.b.cell 0
              have cb1 := HX1a.out.b.cell 1
              have cb2 := HX1a.out.b.cell 2
              have cb3 := HX1a.out.b.cell 3
              have cb4 := HX1a.out.b.cell 4
              have cb5 := HX1a.out.b.cell 5
              have cb6 := HX1a.out.b.cell 6
              have cb7 := HX1a.out.b.cell 7
              have cc0 := HX1a.out.c.cell 0
              have cc1 := HX1a.out.c.cell 1
              have cc2 := HX1a.out.c.cell 2
              have cc3 := HX1a.out.c.cell 3
              have cc4 := HX1a.out.c.cell 4
              have cc5 := HX1a.out.c.cell 5
              have cc6 := HX1a.out.c.cell 6
              have cc7 := HX1a.out.c.cell 7
              have cj0 := HX1a.out.j.cell 0
              have cj1 := HX1a.out.j.cell 1
              have cj2 := HX1a.out.j.cell 2
              have cj3 := HX1a.out.j.cell 3
              have cj4 := HX1a.out.j.cell 4
              have cj5 := HX1a.out.j.cell 5
              have cj6 := HX1a.out.j.cell 6
              have cj7 := HX1a.out.j.cell 7
              go_wp2_with fail
              refine (HB.out _).mono ?_
              rintro e' w' ⟨rfl, hb⟩
              have HX1b := Lib.hid (HX1a.out.grown hb)
              clear ca0 ca1 ca2 ca3 ca4 ca5 ca6 ca7 cb0 cb1 cb2 cb3 cb4 cb5 cb6 cb7 cc0 cc1 cc2 cc3 cc4 cc5 cc6 cc7 cj0 cj1 cj2 cj3 cj4 cj5 cj6 cj7
              clear hb HX1a
              have ca0 := HX1b.out.a.cell 0
              have ca1 := HX1b.out.a.cell 1
              have ca2 := HX1b.out.a.cell 2
              have ca3 := HX1b.out.a.cell 3
              have ca4 := HX1b.out.a.cell 4
              have ca5 := HX1b.out.a.cell 5
              have ca6 := HX1b.out.a.cell 6
              have ca7 := HX1b.out.a.cell 7
              have cb0 := HX1b.out.b.cell 0
              have cb1 := HX1b.out.b.cell 1
              have cb2 := HX1b.out.b.cell 2
              have cb3 := HX1b.out.b.cell 3
              have cb4 := HX1b.out.b.cell 4
              have cb5 := HX1b.out.b.cell 5
              have cb6 := HX1b.out.b.cell 6
              have cb7 := HX1b.out.b.cell 7
              have cc0 := HX1b.out.c.cell 0
              have cc1 := HX1b.out.c.cell 1
              have cc2 := HX1b.out.c.cell 2
              have cc3 := HX1b.out.c.cell 3
              have cc4 := HX1b.out.c.cell 4
              have cc5 := HX1b.out.c.cell 5
              have cc6 := HX1b.out.c.cell 6
              have cc7 := HX1b.out.c.cell 7
              have cj0 := HX1b.out.j.cell 0
              have cj1 := HX1b.out.j.cell 1
              have cj2 := HX1b.out.j.cell 2
              have cj3 := HX1b.out.j.cell 3
              have cj4 := HX1b.out.j.cell 4
              have cj5 := HX1b.out.j.cell 5
              have cj6 := HX1b.out.j.cell 6
              have cj7 := HX1b.out.j.cell 7
              go_wp2_with fail
              refine (HC.out _).mono ?_
              rintro e' w' ⟨rfl, hb⟩
              have HX1c := Lib.hid (HX1b.out.grown hb)
              clear ca0 ca1 ca2 ca3 ca4 ca5 ca6 ca7 cb0 cb1 cb2 cb3 cb4 cb5 cb6 cb7 cc0 cc1 cc2 cc3 cc4 cc5 cc6 cc7 cj0 cj1 cj2 cj3 cj4 cj5 cj6 cj7
              clear hb HX1b
              have ca0 := HX1c.out.a.cell 0
              have ca1 := HX1c.out.a.cell 1
              have ca2 := HX1c.out.a.cell 2
              have ca3 := HX1c.out.a.cell 3
              have ca4 := HX1c.out.a.cell 4
              have ca5 := HX1c.out.a.cell 5
              have ca6 := HX1c.out.a.cell 6
              have ca7 := HX1c.out.a.cell 7
              have cb0 := HX1c.out.b.cell 0
              have cb1 := HX1c.out.b.cell 1
              have cb2 := HX1c.out.b.cell 2
              have cb3 := HX1c.out.b.cell 3
              have cb4 := HX1c.out.b.cell 4
              have cb5 := HX1c.out.b.cell 5
              have cb6 := HX1c.out.b.cell 6
              have cb7 := HX1c.out.b.cell 7
              have cc0 := HX1c.out.c.cell 0
              have cc1 := HX1c.out.c.cell 1
              have cc2 := HX1c.out.c.cell 2
              have cc3 := HX1c.out.c.cell 3
              have cc4 := HX1c.out.c.cell 4
              have cc5 := HX1c.out.c.cell 5
              have cc6 := HX1c.out.c.cell 6
              have cc7 := HX1c.out.c.cell 7
              have cj0 := HX1c.out.j.cell 0
              have cj1 := HX1c.out.j.cell 1
              have cj2 := HX1c.out.j.cell 2
              have cj3 := HX1c.out.j.cell 3
              have cj4 := HX1c.out.j.cell 4
              have cj5 := HX1c.out.j.cell 5
              have cj6 := HX1c.out.j.cell 6
              have cj7 := HX1c.out.j.cell 7
              go_wp2_with fail
              refine (HD.out _).mono ?_
              rintro e' w' ⟨rfl, hb⟩
              have HX1d := Lib.hid (HX1c.out.grown hb)
              clear ca0 ca1 ca2 ca3 ca4 ca5 ca6 ca7 cb0 cb1 cb2 cb3 cb4 cb5 cb6 cb7 cc0 cc1 cc2 cc3 cc4 cc5 cc6 cc7 cj0 cj1 cj2 cj3 cj4 cj5 cj6 cj7
              clear hb HX1c
              have ca0 := HX1d.out.a.cell 0
              have ca1 := HX1d.out.a.cell 1
              have ca2 := HX1d.out.a.cell 2
              have ca3 := HX1d.out.a.cell 3
              have ca4 := HX1d.out.a.cell 4
              have ca5 := HX1d.out.a.cell 5
              have ca6 := HX1d.out.a.cell 6
              have ca7 := HX1d.out.a.cell 7
              have cb0 := HX1d.out.b.cell 0
              have cb1 := HX1d.out.b.cell 1
              have cb2 := HX1d.out.b.cell 2
              have cb3 := HX1d.out.b.cell 3
              have cb4 := HX1d.out.b.cell 4
              have cb5 := HX1d.out.b.cell 5
              have cb6 := HX1d.out.b.cell 6
              have cb7 := HX1d.out.b.cell 7
              have cc0 := HX1d.out.c.cell 0
              have cc1 := HX1d.out.c.cell 1
              have cc2 := HX1d.out.c.cell 2
              have cc3 := HX1d.out.c.cell 3
              have cc4 := HX1d.out.c.cell 4
              have cc5 := HX1d.out.c.cell 5
              have cc6 := HX1d.out.c.cell 6
              have cc7 := HX1d.out.c.cell 7
              have cj0 := HX1d.out.j.cell 0
              have cj1 := HX1d.out.j.cell 1
              have cj2 := HX1d.out.j.cell 2
              have cj3 := HX1d.out.j.cell 3
              have cj4 := HX1d.out.j.cell 4
              have cj5 := HX1d.out.j.cell 5
              have cj6 := HX1d.out.j.cell 6
              have cj7 := HX1d.out.j.cell 7
              go_wp2_with fail
              go_meet
              exact ⟨rfl, HX1d⟩
            · have HD : Hid (∀ W, Calls Try.prog 11 #[vewV b, vewV a] W (Made (.returned (.bool true)) W)) := Lib.hid (fun W => hd ▸ within_any b a W)
              have HN := Lib.hid (anti_arr hc hd)
              clear hc hd
              have ca0 := HX1.out.a.cell 0
              have ca1 := HX1.out.a.cell 1
              have ca2 := HX1.out.a.cell 2
              have ca3 := HX1.out.a.cell 3
              have ca4 := HX1.out.a.cell 4
              have ca5 := HX1.out.a.cell 5
              have ca6 := HX1.out.a.cell 6
              have ca7 := HX1.out.a.cell 7
              have cb0 := HX1.out.b.cell 0
              have cb1 := HX1.out.b.cell 1
              have cb2 := HX1.out.b.cell 2
              have cb3 := HX1.out.b.cell 3
              have cb4 := HX1.out.b.cell 4
              have cb5 := HX1.out.b.cell 5
              have cb6 := HX1.out.b.cell 6
              have cb7 := HX1.out.b.cell 7
              have cc0 := HX1.out.c.cell 0
              have cc1 := HX1.out.c.cell 1
              have cc2 := HX1.out.c.cell 2
              have cc3 := HX1.out.c.cell 3
              have cc4 := HX1.out.c.cell 4
              have cc5 := HX1.out.c.cell 5
              have cc6 := HX1.out.c.cell 6
              have cc7 := HX1.out.c.cell 7
              have cj0 := HX1.out.j.cell 0
              have cj1 := HX1.out.j.cell 1
              have cj2 := HX1.out.j.cell 2
              have cj3 := HX1.out.j.cell 3
              have cj4 := HX1.out.j.cell 4
              have cj5 := HX1.out.j.cell 5
              have cj6 := HX1.out.j.cell 6
              have cj7 := HX1.out.j.cell 7
              go_wp2_with fail
              refine (HA.out _).mono ?_
              rintro e' w' ⟨rfl, hb⟩
              have HX1a := Lib.hid (HX1.out.grown hb)
              clear ca0 ca1 ca2 ca3 ca4 ca5 ca6 ca7 cb0 cb1 cb2 cb3 cb4 cb5 cb6 cb7 cc0 cc1 cc2 cc3 cc4 cc5 cc6 cc7 cj0 cj1 cj2 cj3 cj4 cj5 cj6 cj7
              clear hb
              have ca0 := HX1a.out.a.cell 0
              have ca1 := HX1a.out.a.cell 1
              have ca2 := HX1a.out.a.cell 2
              have ca3 := HX1a.out.a.cell 3
              have ca4 := HX1a.out.a.cell 4
              have ca5 := HX1a.out.a.cell 5
              have ca6 := HX1a.out.a.cell 6
              have ca7 := HX1a.out.a.cell 7
              have cb0 := HX1a.out.b.cell 0
              have cb1 := HX1a.out.b.cell 1
              have cb2 := HX1a.out.b.cell 2
              have cb3 := HX1a.out.b.cell 3
              have cb4 := HX1a.out.b.cell 4
              have cb5 := HX1a.out.b.cell 5
              have cb6 := HX1a.out.b.cell 6
              have cb7 := HX1a.out.b.cell 7
              have cc0 := HX1a.out.c.cell 0
              have cc1 := HX1a.out.c.cell 1
              have cc2 := HX1a.out.c.cell 2
              have cc3 := HX1a.out.c.cell 3
              have cc4 := HX1a.out.c.cell 4
              have cc5 := HX1a.out.c.cell 5
              have cc6 := HX1a.out.c.cell 6
              have cc7 := HX1a.out.c.cell 7
              have cj0 := HX1a.out.j.cell 0
              have cj1 := HX1a.out.j.cell 1
              have cj2 := HX1a.out.j.cell 2
              have cj3 := HX1a.out.j.cell 3
              have cj4 := HX1a.out.j.cell 4
              have cj5 := HX1a.out.j.cell 5
              have cj6 := HX1a.out.j.cell 6
              have cj7 := HX1a.out.j.cell 7
              go_wp2_with fail
              refine (HB.out _).mono ?_
              rintro e' w' ⟨rfl, hb⟩
              have HX1b := Lib.hid (HX1a.out.grown hb)
              clear ca0 ca1 ca2 ca3 ca4 ca5 ca6 ca7 cb0 cb1 cb2 cb3 cb4 cb5 cb6 cb7 cc0 cc1 cc2 cc3 cc4 cc5 cc6 cc7 cj0 cj1 cj2 cj3 cj4 cj5 cj6 cj7
              clear hb HX1a
              have ca0 := HX1b.out.a.cell 0
              have ca1 := HX1b.out.a.cell 1
              have ca2 := HX1b.out.a.cell 2
              have ca3 := HX1b.out.a.cell 3
              have ca4 := HX1b.out.a.cell 4
              have ca5 := HX1b.out.a.cell 5
              have ca6 := HX1b.out.a.cell 6
              have ca7 := HX1b.out.a.cell 7
              have cb0 := HX1b.out.b.cell 0
              have cb1 := HX1b.out.b.cell 1
              have cb2 := HX1b.out.b.cell 2
              have cb3 := HX1b.out.b.cell 3
              have cb4 := HX1b.out.b.cell 4
              have cb5 := HX1b.out.b.cell 5
              have cb6 := HX1b.out.b.cell 6
              have cb7 := HX1b.out.b.cell 7
              have cc0 := HX1b.out.c.cell 0
              have cc1 := HX1b.out.c.cell 1
              have cc2 := HX1b.out.c.cell 2
              have cc3 := HX1b.out.c.cell 3
              have cc4 := HX1b.out.c.cell 4
              have cc5 := HX1b.out.c.cell 5
              have cc6 := HX1b.out.c.cell 6
              have cc7 := HX1b.out.c.cell 7
              have cj0 := HX1b.out.j.cell 0
              have cj1 := HX1b.out.j.cell 1
              have cj2 := HX1b.out.j.cell 2
              have cj3 := HX1b.out.j.cell 3
              have cj4 := HX1b.out.j.cell 4
              have cj5 := HX1b.out.j.cell 5
              have cj6 := HX1b.out.j.cell 6
              have cj7 := HX1b.out.j.cell 7
              go_wp2_with fail
              refine (HC.out _).mono ?_
              rintro e' w' ⟨rfl, hb⟩
              have HX1c := Lib.hid (HX1b.out.grown hb)
              clear ca0 ca1 ca2 ca3 ca4 ca5 ca6 ca7 cb0 cb1 cb2 cb3 cb4 cb5 cb6 cb7 cc0 cc1 cc2 cc3 cc4 cc5 cc6 cc7 cj0 cj1 cj2 cj3 cj4 cj5 cj6 cj7
              clear hb HX1b
              have ca0 := HX1c.out.a.cell 0
              have ca1 := HX1c.out.a.cell 1
              have ca2 := HX1c.out.a.cell 2
              have ca3 := HX1c.out.a.cell 3
              have ca4 := HX1c.out.a.cell 4
              have ca5 := HX1c.out.a.cell 5
              have ca6 := HX1c.out.a.cell 6
              have ca7 := HX1c.out.a.cell 7
              have cb0 := HX1c.out.b.cell 0
              have cb1 := HX1c.out.b.cell 1
              have cb2 := HX1c.out.b.cell 2
              have cb3 := HX1c.out.b.cell 3
              have cb4 := HX1c.out.b.cell 4
              have cb5 := HX1c.out.b.cell 5
              have cb6 := HX1c.out.b.cell 6
              have cb7 := HX1c.out.b.cell 7
              have cc0 := HX1c.out.c.cell 0
              have cc1 := HX1c.out.c.cell 1
              have cc2 := HX1c.out.c.cell 2
              have cc3 := HX1c.out.c.cell 3
              have cc4 := HX1c.out.c.cell 4
              have cc5 := HX1c.out.c.cell 5
              have cc6 := HX1c.out.c.cell 6
              have cc7 := HX1c.out.c.cell 7
              have cj0 := HX1c.out.j.cell 0
              have cj1 := HX1c.out.j.cell 1
              have cj2 := HX1c.out.j.cell 2
              have cj3 := HX1c.out.j.cell 3
              have cj4 := HX1c.out.j.cell 4
              have cj5 := HX1c.out.j.cell 5
              have cj6 := HX1c.out.j.cell 6
              have cj7 := HX1c.out.j.cell 7
              go_wp2_with fail
              refine (HD.out _).mono ?_
              rintro e' w' ⟨rfl, hb⟩
              have HX1d := Lib.hid (HX1c.out.grown hb)
              clear ca0 ca1 ca2 ca3 ca4 ca5 ca6 ca7 cb0 cb1 cb2 cb3 cb4 cb5 cb6 cb7 cc0 cc1 cc2 cc3 cc4 cc5 cc6 cc7 cj0 cj1 cj2 cj3 cj4 cj5 cj6 cj7
              clear hb HX1c
              have ca0 := HX1d.out.a.cell 0
              have ca1 := HX1d.out.a.cell 1
              have ca2 := HX1d.out.a.cell 2
              have ca3 := HX1d.out.a.cell 3
              have ca4 := HX1d.out.a.cell 4
              have ca5 := HX1d.out.a.cell 5
              have ca6 := HX1d.out.a.cell 6
              have ca7 := HX1d.out.a.cell 7
              have cb0 := HX1d.out.b.cell 0
              have cb1 := HX1d.out.b.cell 1
              have cb2 := HX1d.out.b.cell 2
              have cb3 := HX1d.out.b.cell 3
              have cb4 := HX1d.out.b.cell 4
              have cb5 := HX1d.out.b.cell 5
              have cb6 := HX1d.out.b.cell 6
              have cb7 := HX1d.out.b.cell 7
              have cc0 := HX1d.out.c.cell 0
              have cc1 := HX1d.out.c.cell 1
              have cc2 := HX1d.out.c.cell 2
              have cc3 := HX1d.out.c.cell 3
              have cc4 := HX1d.out.c.cell 4
              have cc5 := HX1d.out.c.cell 5
              have cc6 := HX1d.out.c.cell 6
              have cc7 := HX1d.out.c.cell 7
              have cj0 := HX1d.out.j.cell 0
              have cj1 := HX1d.out.j.cell 1
              have cj2 := HX1d.out.j.cell 2
              have cj3 := HX1d.out.j.cell 3
              have cj4 := HX1d.out.j.cell 4
              have cj5 := HX1d.out.j.cell 5
              have cj6 := HX1d.out.j.cell 6
              have cj7 := HX1d.out.j.cell 7
              have hq1 := fun W => (HN.out W).1
              have hq2 := fun W => (HN.out W).2
              go_wp2_with fail
              go_meet
              exact ⟨rfl, HX1d⟩
        · have HB : Hid (∀ W, Calls Try.prog 11 #[vewV b, vewV c] W (Made (.returned (.bool true)) W)) := Lib.hid (fun W => hb2 ▸ within_any b c W)
          have hj := HS.out.least ha hb2
          have HJC : Hid (∀ W, Calls Try.prog 11 #[vewV j, vewV c] W (Made (.returned (.bool true)) W)) := Lib.hid (fun W => hj ▸ within_any j c W)
          clear ha hb2 hj
          cases hc : withF a b
          · have HC : Hid (∀ W, Calls Try.prog 11 #[vewV a, vewV b] W (Made (.returned (.bool false)) W)) := Lib.hid (fun W => hc ▸ within_any a b W)
            clear hc
            have ca0 := HX1.out.a.cell 0
            have ca1 := HX1.out.a.cell 1
            have ca2 := HX1.out.a.cell 2
            have ca3 := HX1.out.a.cell 3
            have ca4 := HX1.out.a.cell 4
            have ca5 := HX1.out.a.cell 5
            have ca6 := HX1.out.a.cell 6
            have ca7 := HX1.out.a.cell 7
            have cb0 := HX1.out.b.cell 0
            have cb1 := HX1.out.b.cell 1
            have cb2 := HX1.out.b.cell 2
            have cb3 := HX1.out.b.cell 3
            have cb4 := HX1.out.b.cell 4
            have cb5 := HX1.out.b.cell 5
            have cb6 := HX1.out.b.cell 6
            have cb7 := HX1.out.b.cell 7
            have cc0 := HX1.out.c.cell 0
            have cc1 := HX1.out.c.cell 1
            have cc2 := HX1.out.c.cell 2
            have cc3 := HX1.out.c.cell 3
            have cc4 := HX1.out.c.cell 4
            have cc5 := HX1.out.c.cell 5
            have cc6 := HX1.out.c.cell 6
            have cc7 := HX1.out.c.cell 7
            have cj0 := HX1.out.j.cell 0
            have cj1 := HX1.out.j.cell 1
            have cj2 := HX1.out.j.cell 2
            have cj3 := HX1.out.j.cell 3
            have cj4 := HX1.out.j.cell 4
            have cj5 := HX1.out.j.cell 5
            have cj6 := HX1.out.j.cell 6
            have cj7 := HX1.out.j.cell 7
            go_wp2_with fail
            refine (HA.out _).mono ?_
            rintro e' w' ⟨rfl, hb⟩
            have HX1a := Lib.hid (HX1.out.grown hb)
            clear ca0 ca1 ca2 ca3 ca4 ca5 ca6 ca7 cb0 cb1 cb2 cb3 cb4 cb5 cb6 cb7 cc0 cc1 cc2 cc3 cc4 cc5 cc6 cc7 cj0 cj1 cj2 cj3 cj4 cj5 cj6 cj7
            clear hb
            have ca0 := HX1a.out.a.cell 0
            have ca1 := HX1a.out.a.cell 1
            have ca2 := HX1a.out.a.cell 2
            have ca3 := HX1a.out.a.cell 3
            have ca4 := HX1a.out.a.cell 4
            have ca5 := HX1a.out.a.cell 5
            have ca6 := HX1a.out.a.cell 6
            have ca7 := HX1a.out.a.cell 7
            have cb0 := HX1a.out.b.cell 0
            have cb1 := HX1a.out.b.cell 1
            have cb2 := HX1a.out.b.cell 2
            have cb3 := HX1a.out.b.cell 3
            have cb4 := HX1a.out.b.cell 4
            have cb5 := HX1a.out.b.cell 5
            have cb6 := HX1a.out.b.cell 6
            have cb7 := HX1a.out.b.cell 7
            have cc0 := HX1a.out.c.cell 0
            have cc1 := HX1a.out.c.cell 1
            have cc2 := HX1a.out.c.cell 2
            have cc3 := HX1a.out.c.cell 3
            have cc4 := HX1a.out.c.cell 4
            have cc5 := HX1a.out.c.cell 5
            have cc6 := HX1a.out.c.cell 6
            have cc7 := HX1a.out.c.cell 7
            have cj0 := HX1a.out.j.cell 0
            have cj1 := HX1a.out.j.cell 1
            have cj2 := HX1a.out.j.cell 2
            have cj3 := HX1a.out.j.cell 3
            have cj4 := HX1a.out.j.cell 4
            have cj5 := HX1a.out.j.cell 5
            have cj6 := HX1a.out.j.cell 6
            have cj7 := HX1a.out.j.cell 7
            go_wp2_with fail
            refine (HB.out _).mono ?_
            rintro e' w' ⟨rfl, hb⟩
            have HX1b := Lib.hid (HX1a.out.grown hb)
            clear ca0 ca1 ca2 ca3 ca4 ca5 ca6 ca7 cb0 cb1 cb2 cb3 cb4 cb5 cb6 cb7 cc0 cc1 cc2 cc3 cc4 cc5 cc6 cc7 cj0 cj1 cj2 cj3 cj4 cj5 cj6 cj7
            clear hb HX1a
            have ca0 := HX1b.out.a.cell 0
            have ca1 := HX1b.out.a.cell 1
            have ca2 := HX1b.out.a.cell 2
            have ca3 := HX1b.out.a.cell 3
            have ca4 := HX1b.out.a.cell 4
            have ca5 := HX1b.out.a.cell 5
            have ca6 := HX1b.out.a.cell 6
            have ca7 := HX1b.out.a.cell 7
            have cb0 := HX1b.out.b.cell 0
            have cb1 := HX1b.out.b.cell 1
            have cb2 := HX1b.out.b.cell 2
            have cb3 := HX1b.out.b.cell 3
            have cb4 := HX1b.out.b.cell 4
            have cb5 := HX1b.out.b.cell 5
            have cb6 := HX1b.out.b.cell 6
            have cb7 := HX1b.out.b.cell 7
            have cc0 := HX1b.out.c.cell 0
            have cc1 := HX1b.out.c.cell 1
            have cc2 := HX1b.out.c.cell 2
            have cc3 := HX1b.out.c.cell 3
            have cc4 := HX1b.out.c.cell 4
            have cc5 := HX1b.out.c.cell 5
            have cc6 := HX1b.out.c.cell 6
            have cc7 := HX1b.out.c.cell 7
            have cj0 := HX1b.out.j.cell 0
            have cj1 := HX1b.out.j.cell 1
            have cj2 := HX1b.out.j.cell 2
            have cj3 := HX1b.out.j.cell 3
            have cj4 := HX1b.out.j.cell 4
            have cj5 := HX1b.out.j.cell 5
            have cj6 := HX1b.out.j.cell 6
            have cj7 := HX1b.out.j.cell 7
            go_wp2_with fail
            refine (HJC.out _).mono ?_
            rintro e' w' ⟨rfl, hb⟩
            have HX1c := Lib.hid (HX1b.out.grown hb)
            clear ca0 ca1 ca2 ca3 ca4 ca5 ca6 ca7 cb0 cb1 cb2 cb3 cb4 cb5 cb6 cb7 cc0 cc1 cc2 cc3 cc4 cc5 cc6 cc7 cj0 cj1 cj2 cj3 cj4 cj5 cj6 cj7
            clear hb HX1b
            have ca0 := HX1c.out.a.cell 0
            have ca1 := HX1c.out.a.cell 1
            have ca2 := HX1c.out.a.cell 2
            have ca3 := HX1c.out.a.cell 3
            have ca4 := HX1c.out.a.cell 4
            have ca5 := HX1c.out.a.cell 5
            have ca6 := HX1c.out.a.cell 6
            have ca7 := HX1c.out.a.cell 7
            have cb0 := HX1c.out.b.cell 0
            have cb1 := HX1c.out.b.cell 1
            have cb2 := HX1c.out.b.cell 2
            have cb3 := HX1c.out.b.cell 3
            have cb4 := HX1c.out.b.cell 4
            have cb5 := HX1c.out.b.cell 5
            have cb6 := HX1c.out.b.cell 6
            have cb7 := HX1c.out.b.cell 7
            have cc0 := HX1c.out.c.cell 0
            have cc1 := HX1c.out.c.cell 1
            have cc2 := HX1c.out.c.cell 2
            have cc3 := HX1c.out.c.cell 3
            have cc4 := HX1c.out.c.cell 4
            have cc5 := HX1c.out.c.cell 5
            have cc6 := HX1c.out.c.cell 6
            have cc7 := HX1c.out.c.cell 7
            have cj0 := HX1c.out.j.cell 0
            have cj1 := HX1c.out.j.cell 1
            have cj2 := HX1c.out.j.cell 2
            have cj3 := HX1c.out.j.cell 3
            have cj4 := HX1c.out.j.cell 4
            have cj5 := HX1c.out.j.cell 5
            have cj6 := HX1c.out.j.cell 6
            have cj7 := HX1c.out.j.cell 7
            go_wp2_with fail
            refine (HC.out _).mono ?_
            rintro e' w' ⟨rfl, hb⟩
            have HX1d := Lib.hid (HX1c.out.grown hb)
            clear ca0 ca1 ca2 ca3 ca4 ca5 ca6 ca7 cb0 cb1 cb2 cb3 cb4 cb5 cb6 cb7 cc0 cc1 cc2 cc3 cc4 cc5 cc6 cc7 cj0 cj1 cj2 cj3 cj4 cj5 cj6 cj7
            clear hb HX1c
            have ca0 := HX1d.out.a.cell 0
            have ca1 := HX1d.out.a.cell 1
            have ca2 := HX1d.out.a.cell 2
            have ca3 := HX1d.out.a.cell 3
            have ca4 := HX1d.out.a.cell 4
            have ca5 := HX1d.out.a.cell 5
            have ca6 := HX1d.out.a.cell 6
            have ca7 := HX1d.out.a.cell 7
            have cb0 := HX1d.out.b.cell 0
            have cb1 := HX1d.out.b.cell 1
            have cb2 := HX1d.out.b.cell 2
            have cb3 := HX1d.out.b.cell 3
            have cb4 := HX1d.out.b.cell 4
            have cb5 := HX1d.out.b.cell 5
            have cb6 := HX1d.out.b.cell 6
            have cb7 := HX1d.out.b.cell 7
            have cc0 := HX1d.out.c.cell 0
            have cc1 := HX1d.out.c.cell 1
            have cc2 := HX1d.out.c.cell 2
            have cc3 := HX1d.out.c.cell 3
            have cc4 := HX1d.out.c.cell 4
            have cc5 := HX1d.out.c.cell 5
            have cc6 := HX1d.out.c.cell 6
            have cc7 := HX1d.out.c.cell 7
            have cj0 := HX1d.out.j.cell 0
            have cj1 := HX1d.out.j.cell 1
            have cj2 := HX1d.out.j.cell 2
            have cj3 := HX1d.out.j.cell 3
            have cj4 := HX1d.out.j.cell 4
            have cj5 := HX1d.out.j.cell 5
            have cj6 := HX1d.out.j.cell 6
            have cj7 := HX1d.out.j.cell 7
            go_wp2_with fail
            go_meet
            exact ⟨rfl, HX1d⟩
          · have HC : Hid (∀ W, Calls Try.prog 11 #[vewV a, vewV b] W (Made (.returned (.bool true)) W)) := Lib.hid (fun W => hc ▸ within_any a b W)
            cases hd : withF b a
            · have HD : Hid (∀ W, Calls Try.prog 11 #[vewV b, vewV a] W (Made (.returned (.bool false)) W)) := Lib.hid (fun W => hd ▸ within_any b a W)
              clear hc hd
              have ca0 := HX1.out.a.cell 0
              have ca1 := HX1.out.a.cell 1
              have ca2 := HX1.out.a.cell 2
              have ca3 := HX1.out.a.cell 3
              have ca4 := HX1.out.a.cell 4
              have ca5 := HX1.out.a.cell 5
              have ca6 := HX1.out.a.cell 6
              have ca7 := HX1.out.a.cell 7
              have cb0 := HX1.out.b.cell 0
              have cb1 := HX1.out.b.cell 1
              have cb2 := HX1.out.b.cell 2
              have cb3 := HX1.out.b.cell 3
              have cb4 := HX1.out.b.cell 4
              have cb5 := HX1.out.b.cell 5
              have cb6 := HX1.out.b.cell 6
              have cb7 := HX1.out.b.cell 7
              have cc0 := HX1.out.c.cell 0
              have cc1 := HX1.out.c.cell 1
              have cc2 := HX1.out.c.cell 2
              have cc3 := HX1.out.c.cell 3
              have cc4 := HX1.out.c.cell 4
              have cc5 := HX1.out.c.cell 5
              have cc6 := HX1.out.c.cell 6
              have cc7 := HX1.out.c.cell 7
              have cj0 := HX1.out.j.cell 0
              have cj1 := HX1.out.j.cell 1
              have cj2 := HX1.out.j.cell 2
              have cj3 := HX1.out.j.cell 3
              have cj4 := HX1.out.j.cell 4
              have cj5 := HX1.out.j.cell 5
              have cj6 := HX1.out.j.cell 6
              have cj7 := HX1.out.j.cell 7
              go_wp2_with fail
              refine (HA.out _).mono ?_
              rintro e' w' ⟨rfl, hb⟩
              have HX1a := Lib.hid (HX1.out.grown hb)
              clear ca0 ca1 ca2 ca3 ca4 ca5 ca6 ca7 cb0 cb1 cb2 cb3 cb4 cb5 cb6 cb7 cc0 cc1 cc2 cc3 cc4 cc5 cc6 cc7 cj0 cj1 cj2 cj3 cj4 cj5 cj6 cj7
              clear hb
              have ca0 := HX1a.out.a.cell 0
              have ca1 := HX1a.out.a.cell 1
              have ca2 := HX1a.out.a.cell 2
              have ca3 := HX1a.out.a.cell 3
              have ca4 := HX1a.out.a.cell 4
              have ca5 := HX1a.out.a.cell 5
              have ca6 := HX1a.out.a.cell 6
              have ca7 := HX1a.out.a.cell 7
              have cb0 := HX1a.out.b.cell 0
              have cb1 := HX1a.out.b.cell 1
              have cb2 := HX1a.out.b.cell 2
              have cb3 := HX1a.out.b.cell 3
              have cb4 := HX1a.out.b.cell 4
              have cb5 := HX1a.out.b.cell 5
              have cb6 := HX1a.out.b.cell 6
              have cb7 := HX1a.out.b.cell 7
              have cc0 := HX1a.out.c.cell 0
              have cc1 := HX1a.out.c.cell 1
              have cc2 := HX1a.out.c.cell 2
              have cc3 := HX1a.out.c.cell 3
              have cc4 := HX1a.out.c.cell 4
              have cc5 := HX1a.out.c.cell 5
              have cc6 := HX1a.out.c.cell 6
              have cc7 := HX1a.out.c.cell 7
              have cj0 := HX1a.out.j.cell 0
              have cj1 := HX1a.out.j.cell 1
              have cj2 := HX1a.out.j.cell 2
              have cj3 := HX1a.out.j.cell 3
              have cj4 := HX1a.out.j.cell 4
              have cj5 := HX1a.out.j.cell 5
              have cj6 := HX1a.out.j.cell 6
              have cj7 := HX1a.out.j.cell 7
              go_wp2_with fail
              refine (HB.out _).mono ?_
              rintro e' w' ⟨rfl, hb⟩
              have HX1b := Lib.hid (HX1a.out.grown hb)
              clear ca0 ca1 ca2 ca3 ca4 ca5 ca6 ca7 cb0 cb1 cb2 cb3 cb4 cb5 cb6 cb7 cc0 cc1 cc2 cc3 cc4 cc5 cc6 cc7 cj0 cj1 cj2 cj3 cj4 cj5 cj6 cj7
              clear hb HX1a
              have ca0 := HX1b.out.a.cell 0
              have ca1 := HX1b.out.a.cell 1
              have ca2 := HX1b.out.a.cell 2
              have ca3 := HX1b.out.a.cell 3
              have ca4 := HX1b.out.a.cell 4
              have ca5 := HX1b.out.a.cell 5
              have ca6 := HX1b.out.a.cell 6
              have ca7 := HX1b.out.a.cell 7
              have cb0 := HX1b.out.b.cell 0
              have cb1 := HX1b.out.b.cell 1
              have cb2 := HX1b.out.b.cell 2
              have cb3 := HX1b.out.b.cell 3
              have cb4 := HX1b.out.b.cell 4
              have cb5 := HX1b.out.b.cell 5
              have cb6 := HX1b.out.b.cell 6
              have cb7 := HX1b.out.b.cell 7
              have cc0 := HX1b.out.c.cell 0
              have cc1 := HX1b.out.c.cell 1
              have cc2 := HX1b.out.c.cell 2
              have cc3 := HX1b.out.c.cell 3
              have cc4 := HX1b.out.c.cell 4
              have cc5 := HX1b.out.c.cell 5
              have cc6 := HX1b.out.c.cell 6
              have cc7 := HX1b.out.c.cell 7
              have cj0 := HX1b.out.j.cell 0
              have cj1 := HX1b.out.j.cell 1
              have cj2 := HX1b.out.j.cell 2
              have cj3 := HX1b.out.j.cell 3
              have cj4 := HX1b.out.j.cell 4
              have cj5 := HX1b.out.j.cell 5
              have cj6 := HX1b.out.j.cell 6
              have cj7 := HX1b.out.j.cell 7
              go_wp2_with fail
              refine (HJC.out _).mono ?_
              rintro e' w' ⟨rfl, hb⟩
              have HX1c := Lib.hid (HX1b.out.grown hb)
              clear ca0 ca1 ca2 ca3 ca4 ca5 ca6 ca7 cb0 cb1 cb2 cb3 cb4 cb5 cb6 cb7 cc0 cc1 cc2 cc3 cc4 cc5 cc6 cc7 cj0 cj1 cj2 cj3 cj4 cj5 cj6 cj7
              clear hb HX1b
              have ca0 := HX1c.out.a.cell 0
              have ca1 := HX1c.out.a.cell 1
              have ca2 := HX1c.out.a.cell 2
              have ca3 := HX1c.out.a.cell 3
              have ca4 := HX1c.out.a.cell 4
              have ca5 := HX1c.out.a.cell 5
              have ca6 := HX1c.out.a.cell 6
              have ca7 := HX1c.out.a.cell 7
              have cb0 := HX1c.out.b.cell 0
              have cb1 := HX1c.out.b.cell 1
              have cb2 := HX1c.out.b.cell 2
              have cb3 := HX1c.out.b.cell 3
              have cb4 := HX1c.out.b.cell 4
              have cb5 := HX1c.out.b.cell 5
              have cb6 := HX1c.out.b.cell 6
              have cb7 := HX1c.out.b.cell 7
              have cc0 := HX1c.out.c.cell 0
              have cc1 := HX1c.out.c.cell 1
              have cc2 := HX1c.out.c.cell 2
              have cc3 := HX1c.out.c.cell 3
              have cc4 := HX1c.out.c.cell 4
              have cc5 := HX1c.out.c.cell 5
              have cc6 := HX1c.out.c.cell 6
              have cc7 := HX1c.out.c.cell 7
              have cj0 := HX1c.out.j.cell 0
              have cj1 := HX1c.out.j.cell 1
              have cj2 := HX1c.out.j.cell 2
              have cj3 := HX1c.out.j.cell 3
              have cj4 := HX1c.out.j.cell 4
              have cj5 := HX1c.out.j.cell 5
              have cj6 := HX1c.out.j.cell 6
              have cj7 := HX1c.out.j.cell 7
              go_wp2_with fail
              refine (HC.out _).mono ?_
              rintro e' w' ⟨rfl, hb⟩
              have HX1d := Lib.hid (HX1c.out.grown hb)
              clear ca0 ca1 ca2 ca3 ca4 ca5 ca6 ca7 cb0 cb1 cb2 cb3 cb4 cb5 cb6 cb7 cc0 cc1 cc2 cc3 cc4 cc5 cc6 cc7 cj0 cj1 cj2 cj3 cj4 cj5 cj6 cj7
              clear hb HX1c
              have ca0 := HX1d.out.a.cell 0
              have ca1 := HX1d.out.a.cell 1
              have ca2 := HX1d.out.a.cell 2
              have ca3 := HX1d.out.a.cell 3
              have ca4 := HX1d.out.a.cell 4
              have ca5 := HX1d.out.a.cell 5
              have ca6 := HX1d.out.a.cell 6
              have ca7 := HX1d.out.a.cell 7
              have cb0 := HX1d.out.b.cell 0
              have cb1 := HX1d.out.b.cell 1
              have cb2 := HX1d.out.b.cell 2
              have cb3 := HX1d.out.b.cell 3
              have cb4 := HX1d.out.b.cell 4
              have cb5 := HX1d.out.b.cell 5
              have cb6 := HX1d.out.b.cell 6
              have cb7 := HX1d.out.b.cell 7
              have cc0 := HX1d.out.c.cell 0
              have cc1 := HX1d.out.c.cell 1
              have cc2 := HX1d.out.c.cell 2
              have cc3 := HX1d.out.c.cell 3
              have cc4 := HX1d.out.c.cell 4
              have cc5 := HX1d.out.c.cell 5
              have cc6 := HX1d.out.c.cell 6
              have cc7 := HX1d.out.c.cell 7
              have cj0 := HX1d.out.j.cell 0
              have cj1 := HX1d.out.j.cell 1
              have cj2 := HX1d.out.j.cell 2
              have cj3 := HX1d.out.j.cell 3
              have cj4 := HX1d.out.j.cell 4
              have cj5 := HX1d.out.j.cell 5
              have cj6 := HX1d.out.j.cell 6
              have cj7 := HX1d.out.j.cell 7
              go_wp2_with fail
              refine (HD.out _).mono ?_
              rintro e' w' ⟨rfl, hb⟩
              have HX1e := Lib.hid (HX1d.out.grown hb)
              clear ca0 ca1 ca2 ca3 ca4 ca5 ca6 ca7 cb0 cb1 cb2 cb3 cb4 cb5 cb6 cb7 cc0 cc1 cc2 cc3 cc4 cc5 cc6 cc7 cj0 cj1 cj2 cj3 cj4 cj5 cj6 cj7
              clear hb HX1d
              have ca0 := HX1e.out.a.cell 0
              have ca1 := HX1e.out.a.cell 1
              have ca2 := HX1e.out.a.cell 2
              have ca3 := HX1e.out.a.cell 3
              have ca4 := HX1e.out.a.cell 4
              have ca5 := HX1e.out.a.cell 5
              have ca6 := HX1e.out.a.cell 6
              have ca7 := HX1e.out.a.cell 7
              have cb0 := HX1e.out.b.cell 0
              have cb1 := HX1e.out.b.cell 1
              have cb2 := HX1e.out.b.cell 2
              have cb3 := HX1e.out.b.cell 3
              have cb4 := HX1e.out.b.cell 4
              have cb5 := HX1e.out.b.cell 5
              have cb6 := HX1e.out.b.cell 6
              have cb7 := HX1e.out.b.cell 7
              have cc0 := HX1e.out.c.cell 0
              have cc1 := HX1e.out.c.cell 1
              have cc2 := HX1e.out.c.cell 2
              have cc3 := HX1e.out.c.cell 3
              have cc4 := HX1e.out.c.cell 4
              have cc5 := HX1e.out.c.cell 5
              have cc6 := HX1e.out.c.cell 6
              have cc7 := HX1e.out.c.cell 7
              have cj0 := HX1e.out.j.cell 0
              have cj1 := HX1e.out.j.cell 1
              have cj2 := HX1e.out.j.cell 2
              have cj3 := HX1e.out.j.cell 3
              have cj4 := HX1e.out.j.cell 4
              have cj5 := HX1e.out.j.cell 5
              have cj6 := HX1e.out.j.cell 6
              have cj7 := HX1e.out.j.cell 7
              go_wp2_with fail
              go_meet
              exact ⟨rfl, HX1e⟩
            · have HD : Hid (∀ W, Calls Try.prog 11 #[vewV b, vewV a] W (Made (.returned (.bool true)) W)) := Lib.hid (fun W => hd ▸ within_any b a W)
              have HN := Lib.hid (anti_arr hc hd)
              clear hc hd
              have ca0 := HX1.out.a.cell 0
              have ca1 := HX1.out.a.cell 1
              have ca2 := HX1.out.a.cell 2
              have ca3 := HX1.out.a.cell 3
              have ca4 := HX1.out.a.cell 4
              have ca5 := HX1.out.a.cell 5
              have ca6 := HX1.out.a.cell 6
              have ca7 := HX1.out.a.cell 7
              have cb0 := HX1.out.b.cell 0
              have cb1 := HX1.out.b.cell 1
              have cb2 := HX1.out.b.cell 2
              have cb3 := HX1.out.b.cell 3
              have cb4 := HX1.out.b.cell 4
              have cb5 := HX1.out.b.cell 5
              have cb6 := HX1.out.b.cell 6
              have cb7 := HX1.out.b.cell 7
              have cc0 := HX1.out.c.cell 0
              have cc1 := HX1.out.c.cell 1
              have cc2 := HX1.out.c.cell 2
              have cc3 := HX1.out.c.cell 3
              have cc4 := HX1.out.c.cell 4
              have cc5 := HX1.out.c.cell 5
              have cc6 := HX1.out.c.cell 6
              have cc7 := HX1.out.c.cell 7
              have cj0 := HX1.out.j.cell 0
              have cj1 := HX1.out.j.cell 1
              have cj2 := HX1.out.j.cell 2
              have cj3 := HX1.out.j.cell 3
              have cj4 := HX1.out.j.cell 4
              have cj5 := HX1.out.j.cell 5
              have cj6 := HX1.out.j.cell 6
              have cj7 := HX1.out.j.cell 7
              go_wp2_with fail
              refine (HA.out _).mono ?_
              rintro e' w' ⟨rfl, hb⟩
              have HX1a := Lib.hid (HX1.out.grown hb)
              clear ca0 ca1 ca2 ca3 ca4 ca5 ca6 ca7 cb0 cb1 cb2 cb3 cb4 cb5 cb6 cb7 cc0 cc1 cc2 cc3 cc4 cc5 cc6 cc7 cj0 cj1 cj2 cj3 cj4 cj5 cj6 cj7
              clear hb
              have ca0 := HX1a.out.a.cell 0
              have ca1 := HX1a.out.a.cell 1
              have ca2 := HX1a.out.a.cell 2
              have ca3 := HX1a.out.a.cell 3
              have ca4 := HX1a.out.a.cell 4
              have ca5 := HX1a.out.a.cell 5
              have ca6 := HX1a.out.a.cell 6
              have ca7 := HX1a.out.a.cell 7
              have cb0 := HX1a.out.b.cell 0
              have cb1 := HX1a.out.b.cell 1
              have cb2 := HX1a.out.b.cell 2
              have cb3 := HX1a.out.b.cell 3
              have cb4 := HX1a.out.b.cell 4
              have cb5 := HX1a.out.b.cell 5
              have cb6 := HX1a.out.b.cell 6
              have cb7 := HX1a.out.b.cell 7
              have cc0 := HX1a.out.c.cell 0
              have cc1 := HX1a.out.c.cell 1
              have cc2 := HX1a.out.c.cell 2
              have cc3 := HX1a.out.c.cell 3
              have cc4 := HX1a.out.c.cell 4
              have cc5 := HX1a.out.c.cell 5
              have cc6 := HX1a.out.c.cell 6
              have cc7 := HX1a.out.c.cell 7
              have cj0 := HX1a.out.j.cell 0
              have cj1 := HX1a.out.j.cell 1
              have cj2 := HX1a.out.j.cell 2
              have cj3 := HX1a.out.j.cell 3
              have cj4 := HX1a.out.j.cell 4
              have cj5 := HX1a.out.j.cell 5
              have cj6 := HX1a.out.j.cell 6
              have cj7 := HX1a.out.j.cell 7
              go_wp2_with fail
              refine (HB.out _).mono ?_
              rintro e' w' ⟨rfl, hb⟩
              have HX1b := Lib.hid (HX1a.out.grown hb)
              clear ca0 ca1 ca2 ca3 ca4 ca5 ca6 ca7 cb0 cb1 cb2 cb3 cb4 cb5 cb6 cb7 cc0 cc1 cc2 cc3 cc4 cc5 cc6 cc7 cj0 cj1 cj2 cj3 cj4 cj5 cj6 cj7
              clear hb HX1a
              have ca0 := HX1b.out.a.cell 0
              have ca1 := HX1b.out.a.cell 1
              have ca2 := HX1b.out.a.cell 2
              have ca3 := HX1b.out.a.cell 3
              have ca4 := HX1b.out.a.cell 4
              have ca5 := HX1b.out.a.cell 5
              have ca6 := HX1b.out.a.cell 6
              have ca7 := HX1b.out.a.cell 7
              have cb0 := HX1b.out.b.cell 0
              have cb1 := HX1b.out.b.cell 1
              have cb2 := HX1b.out.b.cell 2
              have cb3 := HX1b.out.b.cell 3
              have cb4 := HX1b.out.b.cell 4
              have cb5 := HX1b.out.b.cell 5
              have cb6 := HX1b.out.b.cell 6
              have cb7 := HX1b.out.b.cell 7
              have cc0 := HX1b.out.c.cell 0
              have cc1 := HX1b.out.c.cell 1
              have cc2 := HX1b.out.c.cell 2
              have cc3 := HX1b.out.c.cell 3
              have cc4 := HX1b.out.c.cell 4
              have cc5 := HX1b.out.c.cell 5
              have cc6 := HX1b.out.c.cell 6
              have cc7 := HX1b.out.c.cell 7
              have cj0 := HX1b.out.j.cell 0
              have cj1 := HX1b.out.j.cell 1
              have cj2 := HX1b.out.j.cell 2
              have cj3 := HX1b.out.j.cell 3
              have cj4 := HX1b.out.j.cell 4
              have cj5 := HX1b.out.j.cell 5
              have cj6 := HX1b.out.j.cell 6
              have cj7 := HX1b.out.j.cell 7
              go_wp2_with fail
              refine (HJC.out _).mono ?_
              rintro e' w' ⟨rfl, hb⟩
              have HX1c := Lib.hid (HX1b.out.grown hb)
              clear ca0 ca1 ca2 ca3 ca4 ca5 ca6 ca7 cb0 cb1 cb2 cb3 cb4 cb5 cb6 cb7 cc0 cc1 cc2 cc3 cc4 cc5 cc6 cc7 cj0 cj1 cj2 cj3 cj4 cj5 cj6 cj7
              clear hb HX1b
              have ca0 := HX1c.out.a.cell 0
              have ca1 := HX1c.out.a.cell 1
              have ca2 := HX1c.out.a.cell 2
              have ca3 := HX1c.out.a.cell 3
              have ca4 := HX1c.out.a.cell 4
              have ca5 := HX1c.out.a.cell 5
              have ca6 := HX1c.out.a.cell 6
              have ca7 := HX1c.out.a.cell 7
              have cb0 := HX1c.out.b.cell 0
              have cb1 := HX1c.out.b.cell 1
              have cb2 := HX1c.out.b.cell 2
              have cb3 := HX1c.out.b.cell 3
              have cb4 := HX1c.out.b.cell 4
              have cb5 := HX1c.out.b.cell 5
              have cb6 := HX1c.out.b.cell 6
              have cb7 := HX1c.out.b.cell 7
              have cc0 := HX1c.out.c.cell 0
              have cc1 := HX1c.out.c.cell 1
              have cc2 := HX1c.out.c.cell 2
              have cc3 := HX1c.out.c.cell 3
              have cc4 := HX1c.out.c.cell 4
              have cc5 := HX1c.out.c.cell 5
              have cc6 := HX1c.out.c.cell 6
              have cc7 := HX1c.out.c.cell 7
              have cj0 := HX1c.out.j.cell 0
              have cj1 := HX1c.out.j.cell 1
              have cj2 := HX1c.out.j.cell 2
              have cj3 := HX1c.out.j.cell 3
              have cj4 := HX1c.out.j.cell 4
              have cj5 := HX1c.out.j.cell 5
              have cj6 := HX1c.out.j.cell 6
              have cj7 := HX1c.out.j.cell 7
              go_wp2_with fail
              refine (HC.out _).mono ?_
              rintro e' w' ⟨rfl, hb⟩
              have HX1d := Lib.hid (HX1c.out.grown hb)
              clear ca0 ca1 ca2 ca3 ca4 ca5 ca6 ca7 cb0 cb1 cb2 cb3 cb4 cb5 cb6 cb7 cc0 cc1 cc2 cc3 cc4 cc5 cc6 cc7 cj0 cj1 cj2 cj3 cj4 cj5 cj6 cj7
              clear hb HX1c
              have ca0 := HX1d.out.a.cell 0
              have ca1 := HX1d.out.a.cell 1
              have ca2 := HX1d.out.a.cell 2
              have ca3 := HX1d.out.a.cell 3
              have ca4 := HX1d.out.a.cell 4
              have ca5 := HX1d.out.a.cell 5
              have ca6 := HX1d.out.a.cell 6
              have ca7 := HX1d.out.a.cell 7
              have cb0 := HX1d.out.b.cell 0
              have cb1 := HX1d.out.b.cell 1
              have cb2 := HX1d.out.b.cell 2
              have cb3 := HX1d.out.b.cell 3
              have cb4 := HX1d.out.b.cell 4
              have cb5 := HX1d.out.b.cell 5
              have cb6 := HX1d.out.b.cell 6
              have cb7 := HX1d.out.b.cell 7
              have cc0 := HX1d.out.c.cell 0
              have cc1 := HX1d.out.c.cell 1
              have cc2 := HX1d.out.c.cell 2
              have cc3 := HX1d.out.c.cell 3
              have cc4 := HX1d.out.c.cell 4
              have cc5 := HX1d.out.c.cell 5
              have cc6 := HX1d.out.c.cell 6
              have cc7 := HX1d.out.c.cell 7
              have cj0 := HX1d.out.j.cell 0
              have cj1 := HX1d.out.j.cell 1
              have cj2 := HX1d.out.j.cell 2
              have cj3 := HX1d.out.j.cell 3
              have cj4 := HX1d.out.j.cell 4
              have cj5 := HX1d.out.j.cell 5
              have cj6 := HX1d.out.j.cell 6
              have cj7 := HX1d.out.j.cell 7
              go_wp2_with fail
              refine (HD.out _).mono ?_
              rintro e' w' ⟨rfl, hb⟩
              have HX1e := Lib.hid (HX1d.out.grown hb)
              clear ca0 ca1 ca2 ca3 ca4 ca5 ca6 ca7 cb0 cb1 cb2 cb3 cb4 cb5 cb6 cb7 cc0 cc1 cc2 cc3 cc4 cc5 cc6 cc7 cj0 cj1 cj2 cj3 cj4 cj5 cj6 cj7
              clear hb HX1d
              have ca0 := HX1e.out.a.cell 0
              have ca1 := HX1e.out.a.cell 1
              have ca2 := HX1e.out.a.cell 2
              have ca3 := HX1e.out.a.cell 3
              have ca4 := HX1e.out.a.cell 4
              have ca5 := HX1e.out.a.cell 5
              have ca6 := HX1e.out.a.cell 6
              have ca7 := HX1e.out.a.cell 7
              have cb0 := HX1e.out.b.cell 0
              have cb1 := HX1e.out.b.cell 1
              have cb2 := HX1e.out.b.cell 2
              have cb3 := HX1e.out.b.cell 3
              have cb4 := HX1e.out.b.cell 4
              have cb5 := HX1e.out.b.cell 5
              have cb6 := HX1e.out.b.cell 6
              have cb7 := HX1e.out.b.cell 7
              have cc0 := HX1e.out.c.cell 0
              have cc1 := HX1e.out.c.cell 1
              have cc2 := HX1e.out.c.cell 2
              have cc3 := HX1e.out.c.cell 3
              have cc4 := HX1e.out.c.cell 4
              have cc5 := HX1e.out.c.cell 5
              have cc6 := HX1e.out.c.cell 6
              have cc7 := HX1e.out.c.cell 7
              have cj0 := HX1e.out.j.cell 0
              have cj1 := HX1e.out.j.cell 1
              have cj2 := HX1e.out.j.cell 2
              have cj3 := HX1e.out.j.cell 3
              have cj4 := HX1e.out.j.cell 4
              have cj5 := HX1e.out.j.cell 5
              have cj6 := HX1e.out.j.cell 6
              have cj7 := HX1e.out.j.cell 7
              have hq1 := fun W => (HN.out W).1
              have hq2 := fun W => (HN.out W).2
              go_wp2_with fail
              go_meet
              exact ⟨rfl, HX1e⟩

    case rest =>
      obtain ⟨rfl, HX2⟩ := hcut
      cases ha : mayF a
      · have HA : Hid (∀ W, Calls Try.prog 10 #[vewV a] W (Made (.returned (.bool false)) W)) := Lib.hid (fun W => ha ▸ may_any a W)
        clear ha
        have ca0 := HX2.out.a.cell 0
        have ca1 := HX2.out.a.cell 1
        have ca2 := HX2.out.a.cell 2
        have ca3 := HX2.out.a.cell 3
        have ca4 := HX2.out.a.cell 4
        have ca5 := HX2.out.a.cell 5
        have ca6 := HX2.out.a.cell 6
        have ca7 := HX2.out.a.cell 7
        have cb0 := HX2.out.b.cell 0
        have cb1 := HX2.out.b.cell 1
        have cb2 := HX2.out.b.cell 2
        have cb3 := HX2.out.b.cell 3
        have cb4 := HX2.out.b.cell 4
        have cb5 := HX2.out.b.cell 5
        have cb6 := HX2.out.b.cell 6
        have cb7 := HX2.out.b.cell 7
        have cc0 := HX2.out.c.cell 0
        have cc1 := HX2.out.c.cell 1
        have cc2 := HX2.out.c.cell 2
        have cc3 := HX2.out.c.cell 3
        have cc4 := HX2.out.c.cell 4
        have cc5 := HX2.out.c.cell 5
        have cc6 := HX2.out.c.cell 6
        have cc7 := HX2.out.c.cell 7
        have cj0 := HX2.out.j.cell 0
        have cj1 := HX2.out.j.cell 1
        have cj2 := HX2.out.j.cell 2
        have cj3 := HX2.out.j.cell 3
        have cj4 := HX2.out.j.cell 4
        have cj5 := HX2.out.j.cell 5
        have cj6 := HX2.out.j.cell 6
        have cj7 := HX2.out.j.cell 7
        go_wp2_with fail
        refine (HA.out _).mono ?_
        rintro e' w' ⟨rfl, hb⟩
        have HX2a := Lib.hid (HX2.out.grown hb)
        clear ca0 ca1 ca2 ca3 ca4 ca5 ca6 ca7 cb0 cb1 cb2 cb3 cb4 cb5 cb6 cb7 cc0 cc1 cc2 cc3 cc4 cc5 cc6 cc7 cj0 cj1 cj2 cj3 cj4 cj5 cj6 cj7
        clear hb
        have ca0 := HX2a.out.a.cell 0
        have ca1 := HX2a.out.a.cell 1
        have ca2 := HX2a.out.a.cell 2
        have ca3 := HX2a.out.a.cell 3
        have ca4 := HX2a.out.a.cell 4
        have ca5 := HX2a.out.a.cell 5
        have ca6 := HX2a.out.a.cell 6
        have ca7 := HX2a.out.a.cell 7
        have cb0 := HX2a.out.b.cell 0
        have cb1 := HX2a.out.b.cell 1
        have cb2 := HX2a.out.b.cell 2
        have cb3 := HX2a.out.b.cell 3
        have cb4 := HX2a.out.b.cell 4
        have cb5 := HX2a.out.b.cell 5
        have cb6 := HX2a.out.b.cell 6
        have cb7 := HX2a.out.b.cell 7
        have cc0 := HX2a.out.c.cell 0
        have cc1 := HX2a.out.c.cell 1
        have cc2 := HX2a.out.c.cell 2
        have cc3 := HX2a.out.c.cell 3
        have cc4 := HX2a.out.c.cell 4
        have cc5 := HX2a.out.c.cell 5
        have cc6 := HX2a.out.c.cell 6
        have cc7 := HX2a.out.c.cell 7
        have cj0 := HX2a.out.j.cell 0
        have cj1 := HX2a.out.j.cell 1
        have cj2 := HX2a.out.j.cell 2
        have cj3 := HX2a.out.j.cell 3
        have cj4 := HX2a.out.j.cell 4
        have cj5 := HX2a.out.j.cell 5
        have cj6 := HX2a.out.j.cell 6
        have cj7 := HX2a.out.j.cell 7
        go_wp2_with fail
        refine (wakes_any _).mono ?_
        rintro e' w' ⟨rfl, hb⟩
        have HX2b := Lib.hid (HX2a.out.grown hb)
        clear ca0 ca1 ca2 ca3 ca4 ca5 ca6 ca7 cb0 cb1 cb2 cb3 cb4 cb5 cb6 cb7 cc0 cc1 cc2 cc3 cc4 cc5 cc6 cc7 cj0 cj1 cj2 cj3 cj4 cj5 cj6 cj7
        clear hb HX2a
        have ca0 := HX2b.out.a.cell 0
        have ca1 := HX2b.out.a.cell 1
        have ca2 := HX2b.out.a.cell 2
        have ca3 := HX2b.out.a.cell 3
        have ca4 := HX2b.out.a.cell 4
        have ca5 := HX2b.out.a.cell 5
        have ca6 := HX2b.out.a.cell 6
        have ca7 := HX2b.out.a.cell 7
        have cb0 := HX2b.out.b.cell 0
        have cb1 := HX2b.out.b.cell 1
        have cb2 := HX2b.out.b.cell 2
        have cb3 := HX2b.out.b.cell 3
        have cb4 := HX2b.out.b.cell 4
        have cb5 := HX2b.out.b.cell 5
        have cb6 := HX2b.out.b.cell 6
        have cb7 := HX2b.out.b.cell 7
        have cc0 := HX2b.out.c.cell 0
        have cc1 := HX2b.out.c.cell 1
        have cc2 := HX2b.out.c.cell 2
        have cc3 := HX2b.out.c.cell 3
        have cc4 := HX2b.out.c.cell 4
        have cc5 := HX2b.out.c.cell 5
        have cc6 := HX2b.out.c.cell 6
        have cc7 := HX2b.out.c.cell 7
        have cj0 := HX2b.out.j.cell 0
        have cj1 := HX2b.out.j.cell 1
        have cj2 := HX2b.out.j.cell 2
        have cj3 := HX2b.out.j.cell 3
        have cj4 := HX2b.out.j.cell 4
        have cj5 := HX2b.out.j.cell 5
        have cj6 := HX2b.out.j.cell 6
        have cj7 := HX2b.out.j.cell 7
        clear ca0 ca1 ca2 ca3 ca4 ca5 ca6 ca7 cb0 cb1 cb2 cb3 cb4 cb5 cb6 cb7 cc0 cc1 cc2 cc3 cc4 cc5 cc6 cc7 cj0 cj1 cj2 cj3 cj4 cj5 cj6 cj7
        go_wp2_with fail
        go_ret
        exact ⟨rfl, HX2b.out.low⟩
      · have HA : Hid (∀ W, Calls Try.prog 10 #[vewV a] W (Made (.returned (.bool true)) W)) := Lib.hid (fun W => ha ▸ may_any a W)
        cases hb2 : mayF b
        · have HB : Hid (∀ W, Calls Try.prog 10 #[vewV b] W (Made (.returned (.bool false)) W)) := Lib.hid (fun W => hb2 ▸ may_any b W)
          clear ha hb2
          have ca0 := HX2.out.a.cell 0
          have ca1 := HX2.out.a.cell 1
          have ca2 := HX2.out.a.cell 2
          have ca3 := HX2.out.a.cell 3
          have ca4 := HX2.out.a.cell 4
          have ca5 := HX2.out.a.cell 5
          have ca6 := HX2.out.a.cell 6
          have ca7 := HX2.out.a.cell 7
          have cb0 := HX2.out.b.cell 0
          have cb1 := HX2.out.b.cell 1
          have cb2 := HX2.out.b.cell 2
          have cb3 := HX2.out.b.cell 3
          have cb4 := HX2.out.b.cell 4
          have cb5 := HX2.out.b.cell 5
          have cb6 := HX2.out.b.cell 6
          have cb7 := HX2.out.b.cell 7
          have cc0 := HX2.out.c.cell 0
          have cc1 := HX2.out.c.cell 1
          have cc2 := HX2.out.c.cell 2
          have cc3 := HX2.out.c.cell 3
          have cc4 := HX2.out.c.cell 4
          have cc5 := HX2.out.c.cell 5
          have cc6 := HX2.out.c.cell 6
          have cc7 := HX2.out.c.cell 7
          have cj0 := HX2.out.j.cell 0
          have cj1 := HX2.out.j.cell 1
          have cj2 := HX2.out.j.cell 2
          have cj3 := HX2.out.j.cell 3
          have cj4 := HX2.out.j.cell 4
          have cj5 := HX2.out.j.cell 5
          have cj6 := HX2.out.j.cell 6
          have cj7 := HX2.out.j.cell 7
          go_wp2_with fail
          refine (HA.out _).mono ?_
          rintro e' w' ⟨rfl, hb⟩
          have HX2a := Lib.hid (HX2.out.grown hb)
          clear ca0 ca1 ca2 ca3 ca4 ca5 ca6 ca7 cb0 cb1 cb2 cb3 cb4 cb5 cb6 cb7 cc0 cc1 cc2 cc3 cc4 cc5 cc6 cc7 cj0 cj1 cj2 cj3 cj4 cj5 cj6 cj7
          clear hb
          have ca0 := HX2a.out.a.cell 0
          have ca1 := HX2a.out.a.cell 1
          have ca2 := HX2a.out.a.cell 2
          have ca3 := HX2a.out.a.cell 3
          have ca4 := HX2a.out.a.cell 4
          have ca5 := HX2a.out.a.cell 5
          have ca6 := HX2a.out.a.cell 6
          have ca7 := HX2a.out.a.cell 7
          have cb0 := HX2a.out.b.cell 0
          have cb1 := HX2a.out.b.cell 1
          have cb2 := HX2a.out.b.cell 2
          have cb3 := HX2a.out.b.cell 3
          have cb4 := HX2a.out.b.cell 4
          have cb5 := HX2a.out.b.cell 5
          have cb6 := HX2a.out.b.cell 6
          have cb7 := HX2a.out.b.cell 7
          have cc0 := HX2a.out.c.cell 0
          have cc1 := HX2a.out.c.cell 1
          have cc2 := HX2a.out.c.cell 2
          have cc3 := HX2a.out.c.cell 3
          have cc4 := HX2a.out.c.cell 4
          have cc5 := HX2a.out.c.cell 5
          have cc6 := HX2a.out.c.cell 6
          have cc7 := HX2a.out.c.cell 7
          have cj0 := HX2a.out.j.cell 0
          have cj1 := HX2a.out.j.cell 1
          have cj2 := HX2a.out.j.cell 2
          have cj3 := HX2a.out.j.cell 3
          have cj4 := HX2a.out.j.cell 4
          have cj5 := HX2a.out.j.cell 5
          have cj6 := HX2a.out.j.cell 6
          have cj7 := HX2a.out.j.cell 7
          go_wp2_with fail
          refine (HB.out _).mono ?_
          rintro e' w' ⟨rfl, hb⟩
          have HX2b := Lib.hid (HX2a.out.grown hb)
          clear ca0 ca1 ca2 ca3 ca4 ca5 ca6 ca7 cb0 cb1 cb2 cb3 cb4 cb5 cb6 cb7 cc0 cc1 cc2 cc3 cc4 cc5 cc6 cc7 cj0 cj1 cj2 cj3 cj4 cj5 cj6 cj7
          clear hb HX2a
          have ca0 := HX2b.out.a.cell 0
          have ca1 := HX2b.out.a.cell 1
          have ca2 := HX2b.out.a.cell 2
          have ca3 := HX2b.out.a.cell 3
          have ca4 := HX2b.out.a.cell 4
          have ca5 := HX2b.out.a.cell 5
          have ca6 := HX2b.out.a.cell 6
          have ca7 := HX2b.out.a.cell 7
          have cb0 := HX2b.out.b.cell 0
          have cb1 := HX2b.out.b.cell 1
          have cb2 := HX2b.out.b.cell 2
          have cb3 := HX2b.out.b.cell 3
          have cb4 := HX2b.out.b.cell 4
          have cb5 := HX2b.out.b.cell 5
          have cb6 := HX2b.out.b.cell 6
          have cb7 := HX2b.out.b.cell 7
          have cc0 := HX2b.out.c.cell 0
          have cc1 := HX2b.out.c.cell 1
          have cc2 := HX2b.out.c.cell 2
          have cc3 := HX2b.out.c.cell 3
          have cc4 := HX2b.out.c.cell 4
          have cc5 := HX2b.out.c.cell 5
          have cc6 := HX2b.out.c.cell 6
          have cc7 := HX2b.out.c.cell 7
          have cj0 := HX2b.out.j.cell 0
          have cj1 := HX2b.out.j.cell 1
          have cj2 := HX2b.out.j.cell 2
          have cj3 := HX2b.out.j.cell 3
          have cj4 := HX2b.out.j.cell 4
          have cj5 := HX2b.out.j.cell 5
          have cj6 := HX2b.out.j.cell 6
          have cj7 := HX2b.out.j.cell 7
          go_wp2_with fail
          refine (wakes_any _).mono ?_
          rintro e' w' ⟨rfl, hb⟩
          have HX2c := Lib.hid (HX2b.out.grown hb)
          clear ca0 ca1 ca2 ca3 ca4 ca5 ca6 ca7 cb0 cb1 cb2 cb3 cb4 cb5 cb6 cb7 cc0 cc1 cc2 cc3 cc4 cc5 cc6 cc7 cj0 cj1 cj2 cj3 cj4 cj5 cj6 cj7
          clear hb HX2b
          have ca0 := HX2c.out.a.cell 0
          have ca1 := HX2c.out.a.cell 1
          have ca2 := HX2c.out.a.cell 2
          have ca3 := HX2c.out.a.cell 3
          have ca4 := HX2c.out.a.cell 4
          have ca5 := HX2c.out.a.cell 5
          have ca6 := HX2c.out.a.cell 6
          have ca7 := HX2c.out.a.cell 7
          have cb0 := HX2c.out.b.cell 0
          have cb1 := HX2c.out.b.cell 1
          have cb2 := HX2c.out.b.cell 2
          have cb3 := HX2c.out.b.cell 3
          have cb4 := HX2c.out.b.cell 4
          have cb5 := HX2c.out.b.cell 5
          have cb6 := HX2c.out.b.cell 6
          have cb7 := HX2c.out.b.cell 7
          have cc0 := HX2c.out.c.cell 0
          have cc1 := HX2c.out.c.cell 1
          have cc2 := HX2c.out.c.cell 2
          have cc3 := HX2c.out.c.cell 3
          have cc4 := HX2c.out.c.cell 4
          have cc5 := HX2c.out.c.cell 5
          have cc6 := HX2c.out.c.cell 6
          have cc7 := HX2c.out.c.cell 7
          have cj0 := HX2c.out.j.cell 0
          have cj1 := HX2c.out.j.cell 1
          have cj2 := HX2c.out.j.cell 2
          have cj3 := HX2c.out.j.cell 3
          have cj4 := HX2c.out.j.cell 4
          have cj5 := HX2c.out.j.cell 5
          have cj6 := HX2c.out.j.cell 6
          have cj7 := HX2c.out.j.cell 7
          clear ca0 ca1 ca2 ca3 ca4 ca5 ca6 ca7 cb0 cb1 cb2 cb3 cb4 cb5 cb6 cb7 cc0 cc1 cc2 cc3 cc4 cc5 cc6 cc7 cj0 cj1 cj2 cj3 cj4 cj5 cj6 cj7
          go_wp2_with fail
          go_ret
          exact ⟨rfl, HX2c.out.low⟩
        · have HB : Hid (∀ W, Calls Try.prog 10 #[vewV b] W (Made (.returned (.bool true)) W)) := Lib.hid (fun W => hb2 ▸ may_any b W)
          have hj := HS.out.may ha hb2
          have HJM : Hid (∀ W, Calls Try.prog 10 #[vewV j] W (Made (.returned (.bool true)) W)) := Lib.hid (fun W => hj ▸ may_any j W)
          clear ha hb2 hj
          have ca0 := HX2.out.a.cell 0
          have ca1 := HX2.out.a.cell 1
          have ca2 := HX2.out.a.cell 2
          have ca3 := HX2.out.a.cell 3
          have ca4 := HX2.out.a.cell 4
          have ca5 := HX2.out.a.cell 5
          have ca6 := HX2.out.a.cell 6
          have ca7 := HX2.out.a.cell 7
          have cb0 := HX2.out.b.cell 0
          have cb1 := HX2.out.b.cell 1
          have cb2 := HX2.out.b.cell 2
          have cb3 := HX2.out.b.cell 3
          have cb4 := HX2.out.b.cell 4
          have cb5 := HX2.out.b.cell 5
          have cb6 := HX2.out.b.cell 6
          have cb7 := HX2.out.b.cell 7
          have cc0 := HX2.out.c.cell 0
          have cc1 := HX2.out.c.cell 1
          have cc2 := HX2.out.c.cell 2
          have cc3 := HX2.out.c.cell 3
          have cc4 := HX2.out.c.cell 4
          have cc5 := HX2.out.c.cell 5
          have cc6 := HX2.out.c.cell 6
          have cc7 := HX2.out.c.cell 7
          have cj0 := HX2.out.j.cell 0
          have cj1 := HX2.out.j.cell 1
          have cj2 := HX2.out.j.cell 2
          have cj3 := HX2.out.j.cell 3
          have cj4 := HX2.out.j.cell 4
          have cj5 := HX2.out.j.cell 5
          have cj6 := HX2.out.j.cell 6
          have cj7 := HX2.out.j.cell 7
          go_wp2_with fail
          refine (HA.out _).mono ?_
          rintro e' w' ⟨rfl, hb⟩
          have HX2a := Lib.hid (HX2.out.grown hb)
          clear ca0 ca1 ca2 ca3 ca4 ca5 ca6 ca7 cb0 cb1 cb2 cb3 cb4 cb5 cb6 cb7 cc0 cc1 cc2 cc3 cc4 cc5 cc6 cc7 cj0 cj1 cj2 cj3 cj4 cj5 cj6 cj7
          clear hb
          have ca0 := HX2a.out.a.cell 0
          have ca1 := HX2a.out.a.cell 1
          have ca2 := HX2a.out.a.cell 2
          have ca3 := HX2a.out.a.cell 3
          have ca4 := HX2a.out.a.cell 4
          have ca5 := HX2a.out.a.cell 5
          have ca6 := HX2a.out.a.cell 6
          have ca7 := HX2a.out.a.cell 7
          have cb0 := HX2a.out.b.cell 0
          have cb1 := HX2a.out.b.cell 1
          have cb2 := HX2a.out.b.cell 2
          have cb3 := HX2a.out.b.cell 3
          have cb4 := HX2a.out.b.cell 4
          have cb5 := HX2a.out.b.cell 5
          have cb6 := HX2a.out.b.cell 6
          have cb7 := HX2a.out.b.cell 7
          have cc0 := HX2a.out.c.cell 0
          have cc1 := HX2a.out.c.cell 1
          have cc2 := HX2a.out.c.cell 2
          have cc3 := HX2a.out.c.cell 3
          have cc4 := HX2a.out.c.cell 4
          have cc5 := HX2a.out.c.cell 5
          have cc6 := HX2a.out.c.cell 6
          have cc7 := HX2a.out.c.cell 7
          have cj0 := HX2a.out.j.cell 0
          have cj1 := HX2a.out.j.cell 1
          have cj2 := HX2a.out.j.cell 2
          have cj3 := HX2a.out.j.cell 3
          have cj4 := HX2a.out.j.cell 4
          have cj5 := HX2a.out.j.cell 5
          have cj6 := HX2a.out.j.cell 6
          have cj7 := HX2a.out.j.cell 7
          go_wp2_with fail
          refine (HB.out _).mono ?_
          rintro e' w' ⟨rfl, hb⟩
          have HX2b := Lib.hid (HX2a.out.grown hb)
          clear ca0 ca1 ca2 ca3 ca4 ca5 ca6 ca7 cb0 cb1 cb2 cb3 cb4 cb5 cb6 cb7 cc0 cc1 cc2 cc3 cc4 cc5 cc6 cc7 cj0 cj1 cj2 cj3 cj4 cj5 cj6 cj7
          clear hb HX2a
          have ca0 := HX2b.out.a.cell 0
          have ca1 := HX2b.out.a.cell 1
          have ca2 := HX2b.out.a.cell 2
          have ca3 := HX2b.out.a.cell 3
          have ca4 := HX2b.out.a.cell 4
          have ca5 := HX2b.out.a.cell 5
          have ca6 := HX2b.out.a.cell 6
          have ca7 := HX2b.out.a.cell 7
          have cb0 := HX2b.out.b.cell 0
          have cb1 := HX2b.out.b.cell 1
          have cb2 := HX2b.out.b.cell 2
          have cb3 := HX2b.out.b.cell 3
          have cb4 := HX2b.out.b.cell 4
          have cb5 := HX2b.out.b.cell 5
          have cb6 := HX2b.out.b.cell 6
          have cb7 := HX2b.out.b.cell 7
          have cc0 := HX2b.out.c.cell 0
          have cc1 := HX2b.out.c.cell 1
          have cc2 := HX2b.out.c.cell 2
          have cc3 := HX2b.out.c.cell 3
          have cc4 := HX2b.out.c.cell 4
          have cc5 := HX2b.out.c.cell 5
          have cc6 := HX2b.out.c.cell 6
          have cc7 := HX2b.out.c.cell 7
          have cj0 := HX2b.out.j.cell 0
          have cj1 := HX2b.out.j.cell 1
          have cj2 := HX2b.out.j.cell 2
          have cj3 := HX2b.out.j.cell 3
          have cj4 := HX2b.out.j.cell 4
          have cj5 := HX2b.out.j.cell 5
          have cj6 := HX2b.out.j.cell 6
          have cj7 := HX2b.out.j.cell 7
          go_wp2_with fail
          refine (HJM.out _).mono ?_
          rintro e' w' ⟨rfl, hb⟩
          have HX2c := Lib.hid (HX2b.out.grown hb)
          clear ca0 ca1 ca2 ca3 ca4 ca5 ca6 ca7 cb0 cb1 cb2 cb3 cb4 cb5 cb6 cb7 cc0 cc1 cc2 cc3 cc4 cc5 cc6 cc7 cj0 cj1 cj2 cj3 cj4 cj5 cj6 cj7
          clear hb HX2b
          have ca0 := HX2c.out.a.cell 0
          have ca1 := HX2c.out.a.cell 1
          have ca2 := HX2c.out.a.cell 2
          have ca3 := HX2c.out.a.cell 3
          have ca4 := HX2c.out.a.cell 4
          have ca5 := HX2c.out.a.cell 5
          have ca6 := HX2c.out.a.cell 6
          have ca7 := HX2c.out.a.cell 7
          have cb0 := HX2c.out.b.cell 0
          have cb1 := HX2c.out.b.cell 1
          have cb2 := HX2c.out.b.cell 2
          have cb3 := HX2c.out.b.cell 3
          have cb4 := HX2c.out.b.cell 4
          have cb5 := HX2c.out.b.cell 5
          have cb6 := HX2c.out.b.cell 6
          have cb7 := HX2c.out.b.cell 7
          have cc0 := HX2c.out.c.cell 0
          have cc1 := HX2c.out.c.cell 1
          have cc2 := HX2c.out.c.cell 2
          have cc3 := HX2c.out.c.cell 3
          have cc4 := HX2c.out.c.cell 4
          have cc5 := HX2c.out.c.cell 5
          have cc6 := HX2c.out.c.cell 6
          have cc7 := HX2c.out.c.cell 7
          have cj0 := HX2c.out.j.cell 0
          have cj1 := HX2c.out.j.cell 1
          have cj2 := HX2c.out.j.cell 2
          have cj3 := HX2c.out.j.cell 3
          have cj4 := HX2c.out.j.cell 4
          have cj5 := HX2c.out.j.cell 5
          have cj6 := HX2c.out.j.cell 6
          have cj7 := HX2c.out.j.cell 7
          go_wp2_with fail
          refine (wakes_any _).mono ?_
          rintro e' w' ⟨rfl, hb⟩
          have HX2d := Lib.hid (HX2c.out.grown hb)
          clear ca0 ca1 ca2 ca3 ca4 ca5 ca6 ca7 cb0 cb1 cb2 cb3 cb4 cb5 cb6 cb7 cc0 cc1 cc2 cc3 cc4 cc5 cc6 cc7 cj0 cj1 cj2 cj3 cj4 cj5 cj6 cj7
          clear hb HX2c
          have ca0 := HX2d.out.a.cell 0
          have ca1 := HX2d.out.a.cell 1
          have ca2 := HX2d.out.a.cell 2
          have ca3 := HX2d.out.a.cell 3
          have ca4 := HX2d.out.a.cell 4
          have ca5 := HX2d.out.a.cell 5
          have ca6 := HX2d.out.a.cell 6
          have ca7 := HX2d.out.a.cell 7
          have cb0 := HX2d.out.b.cell 0
          have cb1 := HX2d.out.b.cell 1
          have cb2 := HX2d.out.b.cell 2
          have cb3 := HX2d.out.b.cell 3
          have cb4 := HX2d.out.b.cell 4
          have cb5 := HX2d.out.b.cell 5
          have cb6 := HX2d.out.b.cell 6
          have cb7 := HX2d.out.b.cell 7
          have cc0 := HX2d.out.c.cell 0
          have cc1 := HX2d.out.c.cell 1
          have cc2 := HX2d.out.c.cell 2
          have cc3 := HX2d.out.c.cell 3
          have cc4 := HX2d.out.c.cell 4
          have cc5 := HX2d.out.c.cell 5
          have cc6 := HX2d.out.c.cell 6
          have cc7 := HX2d.out.c.cell 7
          have cj0 := HX2d.out.j.cell 0
          have cj1 := HX2d.out.j.cell 1
          have cj2 := HX2d.out.j.cell 2
          have cj3 := HX2d.out.j.cell 3
          have cj4 := HX2d.out.j.cell 4
          have cj5 := HX2d.out.j.cell 5
          have cj6 := HX2d.out.j.cell 6
          have cj7 := HX2d.out.j.cell 7
          clear ca0 ca1 ca2 ca3 ca4 ca5 ca6 ca7 cb0 cb1 cb2 cb3 cb4 cb5 cb6 cb7 cc0 cc1 cc2 cc3 cc4 cc5 cc6 cc7 cj0 cj1 cj2 cj3 cj4 cj5 cj6 cj7
          go_wp2_with fail
          go_ret
          exact ⟨rfl, HX2d.out.low⟩

end Go.Proofs.Ytdeendceiacajaa.Vew
