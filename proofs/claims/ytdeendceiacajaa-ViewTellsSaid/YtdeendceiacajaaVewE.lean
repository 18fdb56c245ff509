/- Layer 10 (view): wakes. -/
import Derived.Test.YtdeendceiacajaaVewD
namespace Go.Proofs.Ytdeendceiacajaa.Vew
open Go.RowKit Go.Proofs.Ytdeendceiacajaa.Mem Go.Proofs.Ytdeendceiacajaa.Flow

def litF (i : Nat) : Int := [0, 5, 0, 0, 2, 5, 0, 0].getD i 0
def wakeF : Nat → Int := maxF (maxF (atF 1 5 true) (atF 0 2 false)) (atF 1 3 true)
def oneF (i : Nat) : Int := if i = 0 then 1 else 0
def fourF (i : Nat) : Int := [1, 2, 3, 4].getD i 0
set_option maxRecDepth 100000 in
set_option maxHeartbeats 1000000 in
theorem wakes_any (w : World) :
    Calls Try.prog 12 #[] w (Made (.returned (.bool true)) w) := by
  have HQ : Hid (∀ W, (binOp .eql 24 (vewV wakeF) (.agg #[.int .i64 0, .int .i64 5, .int .i64 0, .int .i64 0, .int .i64 2, .int .i64 5, .int .i64 0, .int .i64 0])).run Try.prog W = .ok (.bool true) W) :=
    Lib.hid (fun W => by have h := eql_vew wakeF litF W; rw [show sameF 8 wakeF litF = true by decide] at h; exact h)
  have HW1 : Hid (∀ W, Calls Try.prog 11 #[vewV (atF 1 5 false), vewV wakeF] W (Made (.returned (.bool true)) W)) :=
    Lib.hid (fun W => by have h := within_any (atF 1 5 false) wakeF W; rwa [show withF (atF 1 5 false) wakeF = true by decide] at h)
  have HW2 : Hid (∀ W, Calls Try.prog 11 #[vewV wakeF, vewV (atF 1 5 true)] W (Made (.returned (.bool false)) W)) :=
    Lib.hid (fun W => by have h := within_any wakeF (atF 1 5 true) W; rwa [show withF wakeF (atF 1 5 true) = false by decide] at h)
  have HM1 : Hid (∀ W, Calls Try.prog 10 #[vewV wakeF] W (Made (.returned (.bool true)) W)) :=
    Lib.hid (fun W => by have h := may_any wakeF W; rwa [show mayF wakeF = true by decide] at h)
  have HM2 : Hid (∀ W, Calls Try.prog 10 #[.agg #[.int .i64 1, .int .i64 0, .int .i64 0, .int .i64 0, .int .i64 0, .int .i64 0, .int .i64 0, .int .i64 0]] W (Made (.returned (.bool false)) W)) :=
    Lib.hid (fun W => by have h := may_any oneF W; rw [show mayF oneF = false by decide] at h; exact h)
  have HFL : Hid (∀ W, Calls Try.prog 6 #[.agg #[.int .i64 1, .int .i64 2, .int .i64 3, .int .i64 4]] W (Made (.returned (.agg #[.int .i64 1, .int .i64 2, .int .i64 3, .int .i64 4, .int .i64 1, .int .i64 2, .int .i64 3, .int .i64 4])) W)) :=
    Lib.hid (fun W => flat_any fourF W)
  have HX : Hid (∀ W, (Instr.index 22 (.agg #[.int .i64 1, .int .i64 2, .int .i64 3, .int .i64 4]) (.int .i64 3)).run Try.prog W = .ok (.int .i64 4) W) := Lib.hid (fun W => idx fourF 3 (by decide) W)
  have HJ : Hid (∀ W g, Sits W g 24 (vews2 (atF 0 2 false) (atF 1 3 true)) → Calls Try.prog 5 #[vewV (atF 1 5 true), .slice (some ⟨g, 0, none⟩) 2 2] W (Made (.returned (vewV wakeF)) W)) :=
    Lib.hid (fun W g h => join_two _ _ _ g 2 W h)
  go_enter Try.func12, Try.ntmps12
  go_wp2_with fail
  refine (at_any 1 5 true _).mono ?_
  rintro e w1 ⟨rfl, hb1⟩
  have HB := Lib.hid hb1
  clear hb1
  go_wp2_with fail
  refine (at_any 0 2 false _).mono ?_
  rintro e w2 ⟨rfl, hb⟩
  have HB2 := Lib.hid (HB.out.trans (hb.mono HB.out.size))
  clear hb HB
  go_wp2_with fail
  refine (at_any 1 3 true _).mono ?_
  rintro e w3 ⟨rfl, hb⟩
  have HB3 := Lib.hid (HB2.out.trans (hb.mono HB2.out.size))
  clear hb HB2
  go_wp2_with fail
  have HR : Hid (Sits (w3.alloc (.cells (vews2 (atF 0 2 false) (atF 1 3 true)) 24)) w3.heap.size 24 (vews2 (atF 0 2 false) (atF 1 3 true))) := Lib.hid (Sits.new _ _ _)
  have HB4 := Lib.hid (below_more HB3.out HB3.out.size (.cells (vews2 (atF 0 2 false) (atF 1 3 true)) 24))
  refine (HJ.out _ _ HR.out).mono ?_
  rintro e w5 ⟨rfl, hb⟩
  have HB5 := Lib.hid (HB4.out.trans (hb.mono HB4.out.size))
  clear hb HB4 HR HB3
  generalize wakeF = a at HQ HW1 HW2 HM1 ⊢
  go_wp2_with fail
  have HS : Hid (Sits (w5.alloc (.cells (vewCells a) 24)) w5.heap.size 24 (vewCells a)) := Lib.hid (Sits.new _ _ _)
  have HB6 := Lib.hid (below_more HB5.out HB5.out.size (.cells (vewCells a) 24))
  change Code.wp _ _ _ _ (w5.alloc (.cells (vewCells a) 24))
  generalize w5.alloc (.cells (vewCells a) 24) = wa at HS HB6 ⊢
  generalize w5.heap.size = g1 at HS ⊢
  refine wp_flowG [7, 8, 9, 10, 11, 12, 13, 14, 15, 16, 17, 18, 19, 20, 21, 22, 23, 24, 25, 26, 27, 28, 29, 30, 31, 32, 33, 34, 35, 36, 37, 38, 39] [eqV (vewV a), eqV (.agg #[.int .i64 0, .int .i64 5, .int .i64 0, .int .i64 0]), eqV (.agg #[.int .i64 2, .int .i64 5, .int .i64 0, .int .i64 0]), eqV (.agg #[.int .i64 0, .int .i64 5, .int .i64 0, .int .i64 0, .int .i64 2, .int .i64 5, .int .i64 0, .int .i64 0]), eqV (.bool true), eqV (.bool true), eqV (vewV (atF 1 5 false)), eqV (vewV a), eqV (.bool true), eqV (.bool true), eqV (.bool true), eqV (vewV a), eqV (vewV (atF 1 5 true)), eqV (.bool false), eqV (.bool true), eqV (.bool true), eqV (.bool true), eqV (vewV a), eqV (.bool true), eqV (.bool true), eqV (.bool true), eqV (.agg #[.int .i64 1, .int .i64 0, .int .i64 0, .int .i64 0]), eqV (.agg #[.int .i64 1, .int .i64 0, .int .i64 0, .int .i64 0, .int .i64 0, .int .i64 0, .int .i64 0, .int .i64 0]), eqV (.bool false), eqV (.bool true), eqV (.bool true), eqV (.bool true), eqV (.agg #[.int .i64 1, .int .i64 2, .int .i64 3, .int .i64 4]), eqV (.agg #[.int .i64 1, .int .i64 2, .int .i64 3, .int .i64 4, .int .i64 1, .int .i64 2, .int .i64 3, .int .i64 4]), eqV (.agg #[.int .i64 1, .int .i64 2, .int .i64 3, .int .i64 4]), eqV (.int .i64 4), eqV (.bool true), eqV (.bool true)] (by kernel_rfl) (by kernel_rfl) (by kernel_rfl) (by kernel_rfl) (by rfl)
    (by simp only [List.mem_cons, List.not_mem_nil, or_false, forall_eq_or_imp, forall_eq]; refine ⟨?_, ?_, ?_, ?_, ?_, ?_, ?_, ?_, ?_, ?_, ?_, ?_, ?_, ?_, ?_, ?_, ?_, ?_, ?_, ?_, ?_, ?_, ?_, ?_, ?_, ?_, ?_, ?_, ?_, ?_, ?_, ?_, ?_⟩ <;> (first | exact eqV_mono _ | exact rowV_mono _ _ _)) ?_ ?_
  · intro i o hi ho A W hW hk he
    simp only [List.length_cons, List.length_nil, Nat.zero_add, Nat.reduceAdd] at hi
    obtain rfl | rfl | rfl | rfl | rfl | rfl | rfl | rfl | rfl | rfl | rfl | rfl | rfl | rfl | rfl | rfl | rfl | rfl | rfl | rfl | rfl | rfl | rfl | rfl | rfl | rfl | rfl | rfl | rfl | rfl | rfl | rfl | rfl : i = 0 ∨ i = 1 ∨ i = 2 ∨ i = 3 ∨ i = 4 ∨ i = 5 ∨ i = 6 ∨ i = 7 ∨ i = 8 ∨ i = 9 ∨ i = 10 ∨ i = 11 ∨ i = 12 ∨ i = 13 ∨ i = 14 ∨ i = 15 ∨ i = 16 ∨ i = 17 ∨ i = 18 ∨ i = 19 ∨ i = 20 ∨ i = 21 ∨ i = 22 ∨ i = 23 ∨ i = 24 ∨ i = 25 ∨ i = 26 ∨ i = 27 ∨ i = 28 ∨ i = 29 ∨ i = 30 ∨ i = 31 ∨ i = 32 := by omega
    · injection ho with ho; subst ho
      refine .inl ⟨wanted_free rfl, ?_⟩
      have h1 : A.tmps[1]?.getD undef = .pointer (some ⟨g1, 0, none⟩) := hk 1 (by rfl)
      have c0 := (HS.out.below hW HS.out.lt).cell 0
      have c1 := (HS.out.below hW HS.out.lt).cell 1
      have c2 := (HS.out.below hW HS.out.lt).cell 2
      have c3 := (HS.out.below hW HS.out.lt).cell 3
      have c4 := (HS.out.below hW HS.out.lt).cell 4
      have c5 := (HS.out.below hW HS.out.lt).cell 5
      have c6 := (HS.out.below hW HS.out.lt).cell 6
      have c7 := (HS.out.below hW HS.out.lt).cell 7
      go_simp
      exact ⟨rfl, Below.refl _ _⟩
    · injection ho with ho; subst ho
      refine .inl ⟨wanted_free rfl, ?_⟩
      go_simp
      exact ⟨rfl, Below.refl _ _⟩
    · injection ho with ho; subst ho
      refine .inl ⟨wanted_free rfl, ?_⟩
      go_simp
      exact ⟨rfl, Below.refl _ _⟩
    · injection ho with ho; subst ho
      refine .inl ⟨wanted_free rfl, ?_⟩
      have h8 : A.tmps[8]?.getD undef = .agg #[.int .i64 0, .int .i64 5, .int .i64 0, .int .i64 0] := he 1 (by kernel_rfl)
      have h9 : A.tmps[9]?.getD undef = .agg #[.int .i64 2, .int .i64 5, .int .i64 0, .int .i64 0] := he 2 (by kernel_rfl)
      go_simp
      exact ⟨rfl, Below.refl _ _⟩
    · injection ho with ho; subst ho
      refine .inl ⟨wanted_free rfl, ?_⟩
      have h7 : A.tmps[7]?.getD undef = vewV a := he 0 (by kernel_rfl)
      have h10 : A.tmps[10]?.getD undef = .agg #[.int .i64 0, .int .i64 5, .int .i64 0, .int .i64 0, .int .i64 2, .int .i64 5, .int .i64 0, .int .i64 0] := he 3 (by kernel_rfl)
      have hq := HQ.out W
      have hgd : ∀ x y, (eqGuard .eql 24 x y (vewV a) (Value.agg #[.int .i64 0, .int .i64 5, .int .i64 0, .int .i64 0, .int .i64 2, .int .i64 5, .int .i64 0, .int .i64 0])).run Try.prog W = .ok () W := fun x y => guard_vew .eql x y (a) (litF) W
      generalize vewV a = X at h7 hq hgd
      generalize Value.agg #[.int .i64 0, .int .i64 5, .int .i64 0, .int .i64 0, .int .i64 2, .int .i64 5, .int .i64 0, .int .i64 0] = Y at h10 hq hgd
      go_simp
      exact ⟨rfl, Below.refl _ _⟩
    · injection ho with ho; subst ho
      refine .inl ⟨wanted_free rfl, ?_⟩
      have h11 : A.tmps[11]?.getD undef = .bool true := he 4 (by kernel_rfl)
      go_simp
      exact ⟨rfl, Below.refl _ _⟩
    · injection ho with ho; subst ho
      have hg : A.tmps[12]?.getD undef = .bool true := he 5 (by kernel_rfl)
      refine .inl ⟨wanted_yes (d := 12) rfl (by kernel_rfl) hg, ?_⟩
      go_simp
      refine Calls.mono (at_any 1 5 false W) ?_
      rintro e' w' ⟨rfl, hb⟩
      exact ⟨_, rfl, rfl, hb⟩
    · injection ho with ho; subst ho
      have hg : A.tmps[12]?.getD undef = .bool true := he 5 (by kernel_rfl)
      refine .inl ⟨wanted_yes (d := 12) rfl (by kernel_rfl) hg, ?_⟩
      have h1 : A.tmps[1]?.getD undef = .pointer (some ⟨g1, 0, none⟩) := hk 1 (by rfl)
      have c0 := (HS.out.below hW HS.out.lt).cell 0
      have c1 := (HS.out.below hW HS.out.lt).cell 1
      have c2 := (HS.out.below hW HS.out.lt).cell 2
      have c3 := (HS.out.below hW HS.out.lt).cell 3
      have c4 := (HS.out.below hW HS.out.lt).cell 4
      have c5 := (HS.out.below hW HS.out.lt).cell 5
      have c6 := (HS.out.below hW HS.out.lt).cell 6
      have c7 := (HS.out.below hW HS.out.lt).cell 7
      go_simp
      exact ⟨rfl, Below.refl _ _⟩
    · injection ho with ho; subst ho
      have hg : A.tmps[12]?.getD undef = .bool true := he 5 (by kernel_rfl)
      refine .inl ⟨wanted_yes (d := 12) rfl (by kernel_rfl) hg, ?_⟩
      have h13 : A.tmps[13]?.getD undef = vewV (atF 1 5 false) := he 6 (by kernel_rfl)
      have h14 : A.tmps[14]?.getD undef = vewV a := he 7 (by kernel_rfl)
      go_simp
      refine Calls.mono (HW1.out W) ?_
      rintro e' w' ⟨rfl, hb⟩
      exact ⟨_, rfl, rfl, hb⟩
    · injection ho with ho; subst ho
      refine .inl ⟨wanted_free rfl, ?_⟩
      have h12 : A.tmps[12]?.getD undef = .bool true := he 5 (by kernel_rfl)
      have h15 : A.tmps[15]?.getD undef = .bool true := he 8 (by kernel_rfl)
      go_simp
      exact ⟨rfl, Below.refl _ _⟩
    · injection ho with ho; subst ho
      refine .inl ⟨wanted_free rfl, ?_⟩
      have h16 : A.tmps[16]?.getD undef = .bool true := he 9 (by kernel_rfl)
      go_simp
      exact ⟨rfl, Below.refl _ _⟩
    · injection ho with ho; subst ho
      have hg : A.tmps[17]?.getD undef = .bool true := he 10 (by kernel_rfl)
      refine .inl ⟨wanted_yes (d := 17) rfl (by kernel_rfl) hg, ?_⟩
      have h1 : A.tmps[1]?.getD undef = .pointer (some ⟨g1, 0, none⟩) := hk 1 (by rfl)
      have c0 := (HS.out.below hW HS.out.lt).cell 0
      have c1 := (HS.out.below hW HS.out.lt).cell 1
      have c2 := (HS.out.below hW HS.out.lt).cell 2
      have c3 := (HS.out.below hW HS.out.lt).cell 3
      have c4 := (HS.out.below hW HS.out.lt).cell 4
      have c5 := (HS.out.below hW HS.out.lt).cell 5
      have c6 := (HS.out.below hW HS.out.lt).cell 6
      have c7 := (HS.out.below hW HS.out.lt).cell 7
      go_simp
      exact ⟨rfl, Below.refl _ _⟩
    · injection ho with ho; subst ho
      have hg : A.tmps[17]?.getD undef = .bool true := he 10 (by kernel_rfl)
      refine .inl ⟨wanted_yes (d := 17) rfl (by kernel_rfl) hg, ?_⟩
      go_simp
      refine Calls.mono (at_any 1 5 true W) ?_
      rintro e' w' ⟨rfl, hb⟩
      exact ⟨_, rfl, rfl, hb⟩
    · injection ho with ho; subst ho
      have hg : A.tmps[17]?.getD undef = .bool true := he 10 (by kernel_rfl)
      refine .inl ⟨wanted_yes (d := 17) rfl (by kernel_rfl) hg, ?_⟩
      have h18 : A.tmps[18]?.getD undef = vewV a := he 11 (by kernel_rfl)
      have h19 : A.tmps[19]?.getD undef = vewV (atF 1 5 true) := he 12 (by kernel_rfl)
      go_simp
      refine Calls.mono (HW2.out W) ?_
      rintro e' w' ⟨rfl, hb⟩
      exact ⟨_, rfl, rfl, hb⟩
    · injection ho with ho; subst ho
      have hg : A.tmps[17]?.getD undef = .bool true := he 10 (by kernel_rfl)
      refine .inl ⟨wanted_yes (d := 17) rfl (by kernel_rfl) hg, ?_⟩
      have h20 : A.tmps[20]?.getD undef = .bool false := he 13 (by kernel_rfl)
      go_simp
      exact ⟨rfl, Below.refl _ _⟩
    · injection ho with ho; subst ho
      refine .inl ⟨wanted_free rfl, ?_⟩
      have h17 : A.tmps[17]?.getD undef = .bool true := he 10 (by kernel_rfl)
      have h21 : A.tmps[21]?.getD undef = .bool true := he 14 (by kernel_rfl)
      go_simp
      exact ⟨rfl, Below.refl _ _⟩
    · injection ho with ho; subst ho
      refine .inl ⟨wanted_free rfl, ?_⟩
      have h22 : A.tmps[22]?.getD undef = .bool true := he 15 (by kernel_rfl)
      go_simp
      exact ⟨rfl, Below.refl _ _⟩
    · injection ho with ho; subst ho
      have hg : A.tmps[23]?.getD undef = .bool true := he 16 (by kernel_rfl)
      refine .inl ⟨wanted_yes (d := 23) rfl (by kernel_rfl) hg, ?_⟩
      have h1 : A.tmps[1]?.getD undef = .pointer (some ⟨g1, 0, none⟩) := hk 1 (by rfl)
      have c0 := (HS.out.below hW HS.out.lt).cell 0
      have c1 := (HS.out.below hW HS.out.lt).cell 1
      have c2 := (HS.out.below hW HS.out.lt).cell 2
      have c3 := (HS.out.below hW HS.out.lt).cell 3
      have c4 := (HS.out.below hW HS.out.lt).cell 4
      have c5 := (HS.out.below hW HS.out.lt).cell 5
      have c6 := (HS.out.below hW HS.out.lt).cell 6
      have c7 := (HS.out.below hW HS.out.lt).cell 7
      go_simp
      exact ⟨rfl, Below.refl _ _⟩
    · injection ho with ho; subst ho
      have hg : A.tmps[23]?.getD undef = .bool true := he 16 (by kernel_rfl)
      refine .inl ⟨wanted_yes (d := 23) rfl (by kernel_rfl) hg, ?_⟩
      have h24 : A.tmps[24]?.getD undef = vewV a := he 17 (by kernel_rfl)
      go_simp
      refine Calls.mono (HM1.out W) ?_
      rintro e' w' ⟨rfl, hb⟩
      exact ⟨_, rfl, rfl, hb⟩
    · injection ho with ho; subst ho
      refine .inl ⟨wanted_free rfl, ?_⟩
      have h23 : A.tmps[23]?.getD undef = .bool true := he 16 (by kernel_rfl)
      have h25 : A.tmps[25]?.getD undef = .bool true := he 18 (by kernel_rfl)
      go_simp
      exact ⟨rfl, Below.refl _ _⟩
    · injection ho with ho; subst ho
      refine .inl ⟨wanted_free rfl, ?_⟩
      have h26 : A.tmps[26]?.getD undef = .bool true := he 19 (by kernel_rfl)
      go_simp
      exact ⟨rfl, Below.refl _ _⟩
    · injection ho with ho; subst ho
      have hg : A.tmps[27]?.getD undef = .bool true := he 20 (by kernel_rfl)
      refine .inl ⟨wanted_yes (d := 27) rfl (by kernel_rfl) hg, ?_⟩
      go_simp
      exact ⟨rfl, Below.refl _ _⟩
    · injection ho with ho; subst ho
      have hg : A.tmps[27]?.getD undef = .bool true := he 20 (by kernel_rfl)
      refine .inl ⟨wanted_yes (d := 27) rfl (by kernel_rfl) hg, ?_⟩
      have h28 : A.tmps[28]?.getD undef = .agg #[.int .i64 1, .int .i64 0, .int .i64 0, .int .i64 0] := he 21 (by kernel_rfl)
      go_simp
      exact ⟨rfl, Below.refl _ _⟩
    · injection ho with ho; subst ho
      have hg : A.tmps[27]?.getD undef = .bool true := he 20 (by kernel_rfl)
      refine .inl ⟨wanted_yes (d := 27) rfl (by kernel_rfl) hg, ?_⟩
      have h29 : A.tmps[29]?.getD undef = .agg #[.int .i64 1, .int .i64 0, .int .i64 0, .int .i64 0, .int .i64 0, .int .i64 0, .int .i64 0, .int .i64 0] := he 22 (by kernel_rfl)
      go_simp
      refine Calls.mono (HM2.out W) ?_
      rintro e' w' ⟨rfl, hb⟩
      exact ⟨_, rfl, rfl, hb⟩
    · injection ho with ho; subst ho
      have hg : A.tmps[27]?.getD undef = .bool true := he 20 (by kernel_rfl)
      refine .inl ⟨wanted_yes (d := 27) rfl (by kernel_rfl) hg, ?_⟩
      have h30 : A.tmps[30]?.getD undef = .bool false := he 23 (by kernel_rfl)
      go_simp
      exact ⟨rfl, Below.refl _ _⟩
    · injection ho with ho; subst ho
      refine .inl ⟨wanted_free rfl, ?_⟩
      have h27 : A.tmps[27]?.getD undef = .bool true := he 20 (by kernel_rfl)
      have h31 : A.tmps[31]?.getD undef = .bool true := he 24 (by kernel_rfl)
      go_simp
      exact ⟨rfl, Below.refl _ _⟩
    · injection ho with ho; subst ho
      refine .inl ⟨wanted_free rfl, ?_⟩
      have h32 : A.tmps[32]?.getD undef = .bool true := he 25 (by kernel_rfl)
      go_simp
      exact ⟨rfl, Below.refl _ _⟩
    · injection ho with ho; subst ho
      have hg : A.tmps[33]?.getD undef = .bool true := he 26 (by kernel_rfl)
      refine .inl ⟨wanted_yes (d := 33) rfl (by kernel_rfl) hg, ?_⟩
      go_simp
      exact ⟨rfl, Below.refl _ _⟩
    · injection ho with ho; subst ho
      have hg : A.tmps[33]?.getD undef = .bool true := he 26 (by kernel_rfl)
      refine .inl ⟨wanted_yes (d := 33) rfl (by kernel_rfl) hg, ?_⟩
      have h34 : A.tmps[34]?.getD undef = .agg #[.int .i64 1, .int .i64 2, .int .i64 3, .int .i64 4] := he 27 (by kernel_rfl)
      go_simp
      refine Calls.mono (HFL.out W) ?_
      rintro e' w' ⟨rfl, hb⟩
      exact ⟨_, rfl, rfl, hb⟩
    · injection ho with ho; subst ho
      have hg : A.tmps[33]?.getD undef = .bool true := he 26 (by kernel_rfl)
      refine .inl ⟨wanted_yes (d := 33) rfl (by kernel_rfl) hg, ?_⟩
      have h35 : A.tmps[35]?.getD undef = .agg #[.int .i64 1, .int .i64 2, .int .i64 3, .int .i64 4, .int .i64 1, .int .i64 2, .int .i64 3, .int .i64 4] := he 28 (by kernel_rfl)
      go_simp
      exact ⟨rfl, Below.refl _ _⟩
    · injection ho with ho; subst ho
      have hg : A.tmps[33]?.getD undef = .bool true := he 26 (by kernel_rfl)
      refine .inl ⟨wanted_yes (d := 33) rfl (by kernel_rfl) hg, ?_⟩
      have h36 : A.tmps[36]?.getD undef = .agg #[.int .i64 1, .int .i64 2, .int .i64 3, .int .i64 4] := he 29 (by kernel_rfl)
      have x3 := HX.out W
      go_simp
      exact ⟨rfl, Below.refl _ _⟩
    · injection ho with ho; subst ho
      have hg : A.tmps[33]?.getD undef = .bool true := he 26 (by kernel_rfl)
      refine .inl ⟨wanted_yes (d := 33) rfl (by kernel_rfl) hg, ?_⟩
      have h37 : A.tmps[37]?.getD undef = .int .i64 4 := he 30 (by kernel_rfl)
      go_simp
      exact ⟨rfl, Below.refl _ _⟩
    · injection ho with ho; subst ho
      refine .inl ⟨wanted_free rfl, ?_⟩
      have h33 : A.tmps[33]?.getD undef = .bool true := he 26 (by kernel_rfl)
      have h38 : A.tmps[38]?.getD undef = .bool true := he 31 (by kernel_rfl)
      go_simp
      exact ⟨rfl, Below.refl _ _⟩
  · intro xs W hW hV
    have e39 : xs 32 = .bool true := hV 32 (by simp)
    simp only [List.length_cons, List.length_nil, Nat.zero_add, Nat.reduceAdd, List.drop_succ_cons, List.drop_zero, putL, Act.put, List.setIfInBounds_toArray, List.set_cons_zero, List.set_cons_succ, e39]
    clear hV e39
    have HB7 := Lib.hid (HB6.out.trans (hW.mono HB6.out.size))
    clear hW
    go_wp2_with fail
    go_ret
    exact ⟨rfl, HB7.out⟩
end Go.Proofs.Ytdeendceiacajaa.Vew
