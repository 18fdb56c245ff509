/- Layer 10 (view): a closure that says a number of a place and a time; Map. -/
import Derived.Test.YtanbkclomjbokaaVewC
import Derived.Shelf.Abstract
import Derived.Deep.Cut
namespace Go.Proofs.Ytanbkclomjbokaa.Vew
open Go.RowKit Go.Proofs.Ytanbkclomjbokaa.Mem Go.Proofs.Ytanbkclomjbokaa.Flow

theorem fn_nil (F : FuncId) (f c : Array Value) (W : World) : (binOp .eql 51 (.func (.func F) f c) .nilFunc).run Try.prog W = .ok (.bool false) W := by
  have h : ∀ d : Nat, (Op.equalIn (d + 1) 51 (.func (.func F) f c) .nilFunc).run Try.prog W = .ok false W := fun d => by
    simp [Op.equalIn, run_underlying Try.underlying51]
  simp only [binOp]
  simp [Op.equal, Op.maxDepth, h 9999]
def EntersV (F : FuncId) : Prop := ∀ (args : Array Value) (W : World), (callFunc F args).run Try.prog W = .ok (.enter F args) W
/-- A function value that says a number of a place and a time, wherever J holds; J stays as memory grows. -/
structure Says (F : FuncId) (f c : Array Value) (φ : Int → Int → Int) (J : World → Prop) : Prop where
  enters : EntersV F
  keep : ∀ w w', J w → Below w.heap.size w w' → J w'
  call : ∀ (i : Int) (n : Int) (w : World), 0 ≤ i → i < 4 → J w → Calls Try.prog F (f ++ (#[.int .i64 i, .int .i64 n] ++ c)) w (Made (.returned (.int .i64 (φ i n))) w)
def mapF (φ : Int → Int → Int) (f : Nat → Int) (i : Nat) : Int := φ ((i % 4 : Nat) : Int) (f i)
abbrev zero4 : Array Value := #[.int .i64 0, .int .i64 0, .int .i64 0, .int .i64 0]
structure SaidAt (w : World) (cs : Array Value) (W : World) : Prop where
  at2 : Sits W w.heap.size 24 cs
  at3 : Sits W (w.heap.size + 1) 24 zero4
  low : Below w.heap.size w W
theorem SaidAt.grown {w W W' : World} {cs : Array Value} (h : SaidAt w cs W) (hb : Below W.heap.size W W') : SaidAt w cs W' :=
  ⟨h.at2.below hb h.at2.lt, h.at3.below hb h.at3.lt, h.low.trans (hb.mono h.low.size)⟩
theorem SaidAt.put {w W : World} {cs : Array Value} (h : SaidAt w cs W) (i : Nat) (u : Value) : SaidAt w (cs.setIfInBounds i u) (W.setCell ⟨w.heap.size, i, none⟩ u) :=
  ⟨h.at2.put i u, h.at3.far (by simp) u, h.low.setCell (p := ⟨w.heap.size, i, none⟩) (Nat.le_refl _) u⟩
theorem saidAt_new (w : World) (cs : Array Value) : SaidAt w cs ((w.alloc (.cells cs 24)).alloc (.cells zero4 24)) :=
  ⟨(Sits.new _ _ _).alloc _, Sits.made (by simp) _ _, below_more (below_more (Below.refl _ w) (Nat.le_refl _) _) (by simp) _⟩
theorem SaidAt.out {w W : World} {cs : Array Value} (h : SaidAt w cs W) (u : Array Value) : Below w.heap.size w (W.setRow (w.heap.size + 1) u) :=
  ⟨h.low.os, h.low.tape, h.low.output, by simpa [World.setRow] using h.low.size, fun b hb => (setRow_other W _ _ _ (by omega)).trans (h.low.block b hb)⟩
theorem four_one (a b c d : Int) : (#[Value.int .i64 a, .int .i64 b, .int .i64 c, .int .i64 d]).all (·.oneCell') = true := by simp [Value.oneCell']
theorem arrSize : (Try.prog.info? 24).map (·.size) = some 4 := by kernel_rfl
set_option maxRecDepth 100000 in
set_option maxHeartbeats 1000000 in
theorem said_any {F : FuncId} {fr c : Array Value} {φ : Int → Int → Int} {J : World → Prop} (S : Says F fr c φ J) (f : Nat → Int) (g : Nat) (w : World) (hg : Sits w g 51 #[.func (.func F) fr c]) (hJ : J w) :
    Calls Try.prog 36 #[arr f, .pointer (some ⟨g, 0, none⟩)] w (Made (.returned (.agg #[.int .i64 (φ 0 (f 0)), .int .i64 (φ 1 (f 1)), .int .i64 (φ 2 (f 2)), .int .i64 (φ 3 (f 3))])) w) := by
  have x0 : ∀ W, (Instr.index 24 (arr f) (.int .i64 0)).run Try.prog W = .ok (.int .i64 (f 0)) W := idx f 0 (by decide)
  have x1 : ∀ W, (Instr.index 24 (arr f) (.int .i64 1)).run Try.prog W = .ok (.int .i64 (f 1)) W := idx f 1 (by decide)
  have x2 : ∀ W, (Instr.index 24 (arr f) (.int .i64 2)).run Try.prog W = .ok (.int .i64 (f 2)) W := idx f 2 (by decide)
  have x3 : ∀ W, (Instr.index 24 (arr f) (.int .i64 3)).run Try.prog W = .ok (.int .i64 (f 3)) W := idx f 3 (by decide)
  have en := S.enters
  unfold EntersV at en
  have HS := Lib.hid S
  have HG := Lib.hid hg
  have HJ := Lib.hid hJ
  have HA := Lib.hid (saidAt_new w #[.int .i64 (f 0), .int .i64 (f 1), .int .i64 (f 2), .int .i64 (f 3)])
  have cg := hg.cell 0
  have lg := hg.lt
  clear hg hJ S
  go_enter Try.func36, Try.ntmps36
  go_wp2_with fail
  generalize (w.alloc (.cells #[.int .i64 (f 0), .int .i64 (f 1), .int .i64 (f 2), .int .i64 (f 3)] 24)).alloc (.cells #[.int .i64 0, .int .i64 0, .int .i64 0, .int .i64 0] 24) = w0 at HA ⊢
  refine wp_loop_rounds 5 ?_
  simp only [Code.rounds]
  have cg : w0.cell? ⟨g, 0, none⟩ = some (.func (.func F) fr c) := (HG.out.below HA.out.low HG.out.lt).cell 0
  have hz := HA.out.at2.lt
  go_wp2_with fail
  refine (HS.out.call 0 (f 0) w0 (by decide) (by decide) (HS.out.keep _ _ HJ.out HA.out.low)).mono ?_
  rintro e w0a ⟨rfl, hb⟩
  have HB := Lib.hid (HA.out.grown hb)
  clear hb HA cg hz
  have d0 := HB.out.at2.cell 0
  have d1 := HB.out.at2.free 0
  go_upto_region 5 with (fail)
  have HA : Hid (SaidAt w #[.int .i64 (φ 0 (f 0)), .int .i64 (f 1), .int .i64 (f 2), .int .i64 (f 3)] (w0a.setCell ⟨w.heap.size, 0, none⟩ (.int .i64 (φ 0 (f 0))))) := Lib.hid (HB.out.put 0 _)
  generalize w0a.setCell ⟨w.heap.size, 0, none⟩ (.int .i64 (φ 0 (f 0))) = w1 at HA ⊢
  clear HB d0 d1
  have cg : w1.cell? ⟨g, 0, none⟩ = some (.func (.func F) fr c) := (HG.out.below HA.out.low HG.out.lt).cell 0
  have hz := HA.out.at2.lt
  go_wp2_with fail
  refine (HS.out.call 1 (f 1) w1 (by decide) (by decide) (HS.out.keep _ _ HJ.out HA.out.low)).mono ?_
  rintro e w1a ⟨rfl, hb⟩
  have HB := Lib.hid (HA.out.grown hb)
  clear hb HA cg hz
  have d0 := HB.out.at2.cell 1
  have d1 := HB.out.at2.free 1
  go_upto_region 5 with (fail)
  have HA : Hid (SaidAt w #[.int .i64 (φ 0 (f 0)), .int .i64 (φ 1 (f 1)), .int .i64 (f 2), .int .i64 (f 3)] (w1a.setCell ⟨w.heap.size, 1, none⟩ (.int .i64 (φ 1 (f 1))))) := Lib.hid (HB.out.put 1 _)
  generalize w1a.setCell ⟨w.heap.size, 1, none⟩ (.int .i64 (φ 1 (f 1))) = w2 at HA ⊢
  clear HB d0 d1
  have cg : w2.cell? ⟨g, 0, none⟩ = some (.func (.func F) fr c) := (HG.out.below HA.out.low HG.out.lt).cell 0
  have hz := HA.out.at2.lt
  go_wp2_with fail
  refine (HS.out.call 2 (f 2) w2 (by decide) (by decide) (HS.out.keep _ _ HJ.out HA.out.low)).mono ?_
  rintro e w2a ⟨rfl, hb⟩
  have HB := Lib.hid (HA.out.grown hb)
  clear hb HA cg hz
  have d0 := HB.out.at2.cell 2
  have d1 := HB.out.at2.free 2
  go_upto_region 5 with (fail)
  have HA : Hid (SaidAt w #[.int .i64 (φ 0 (f 0)), .int .i64 (φ 1 (f 1)), .int .i64 (φ 2 (f 2)), .int .i64 (f 3)] (w2a.setCell ⟨w.heap.size, 2, none⟩ (.int .i64 (φ 2 (f 2))))) := Lib.hid (HB.out.put 2 _)
  generalize w2a.setCell ⟨w.heap.size, 2, none⟩ (.int .i64 (φ 2 (f 2))) = w3 at HA ⊢
  clear HB d0 d1
  have cg : w3.cell? ⟨g, 0, none⟩ = some (.func (.func F) fr c) := (HG.out.below HA.out.low HG.out.lt).cell 0
  have hz := HA.out.at2.lt
  go_wp2_with fail
  refine (HS.out.call 3 (f 3) w3 (by decide) (by decide) (HS.out.keep _ _ HJ.out HA.out.low)).mono ?_
  rintro e w3a ⟨rfl, hb⟩
  have HB := Lib.hid (HA.out.grown hb)
  clear hb HA cg hz
  have d0 := HB.out.at2.cell 3
  have d1 := HB.out.at2.free 3
  go_upto_region 5 with (fail)
  have HA : Hid (SaidAt w #[.int .i64 (φ 0 (f 0)), .int .i64 (φ 1 (f 1)), .int .i64 (φ 2 (f 2)), .int .i64 (φ 3 (f 3))] (w3a.setCell ⟨w.heap.size, 3, none⟩ (.int .i64 (φ 3 (f 3))))) := Lib.hid (HB.out.put 3 _)
  generalize w3a.setCell ⟨w.heap.size, 3, none⟩ (.int .i64 (φ 3 (f 3))) = w4 at HA ⊢
  clear HB d0 d1
  have c0 : w4.cell? ⟨w.heap.size, 0, none⟩ = some (.int .i64 (φ 0 (f 0))) := HA.out.at2.cell 0
  have c1 : w4.cell? ⟨w.heap.size, 1, none⟩ = some (.int .i64 (φ 1 (f 1))) := HA.out.at2.cell 1
  have c2 : w4.cell? ⟨w.heap.size, 2, none⟩ = some (.int .i64 (φ 2 (f 2))) := HA.out.at2.cell 2
  have c3 : w4.cell? ⟨w.heap.size, 3, none⟩ = some (.int .i64 (φ 3 (f 3))) := HA.out.at2.cell 3
  go_wp2_with (refine wpList_store_row rfl 24 _ _ rfl (w.heap.size + 1) #[.int .i64 (φ 0 (f 0)), .int .i64 (φ 1 (f 1)), .int .i64 (φ 2 (f 2)), .int .i64 (φ 3 (f 3))] rfl rfl 24 zero4 HA.out.at3 arrSize rfl (four_one _ _ _ _) ?_)
  have HB := Lib.hid (HA.out.out #[.int .i64 (φ 0 (f 0)), .int .i64 (φ 1 (f 1)), .int .i64 (φ 2 (f 2)), .int .i64 (φ 3 (f 3))])
  have s4 : Sits (w4.setRow (w.heap.size + 1) #[.int .i64 (φ 0 (f 0)), .int .i64 (φ 1 (f 1)), .int .i64 (φ 2 (f 2)), .int .i64 (φ 3 (f 3))]) (w.heap.size + 1) 24 #[.int .i64 (φ 0 (f 0)), .int .i64 (φ 1 (f 1)), .int .i64 (φ 2 (f 2)), .int .i64 (φ 3 (f 3))] := setRow_heap w4 _ _ _ _ _ HA.out.at3
  generalize w4.setRow (w.heap.size + 1) #[.int .i64 (φ 0 (f 0)), .int .i64 (φ 1 (f 1)), .int .i64 (φ 2 (f 2)), .int .i64 (φ 3 (f 3))] = W2 at s4 HB ⊢
  clear c0 c1 c2 c3
  have c0 : W2.cell? ⟨w.heap.size + 1, 0, none⟩ = some (.int .i64 (φ 0 (f 0))) := s4.cell 0
  have c1 : W2.cell? ⟨w.heap.size + 1, 1, none⟩ = some (.int .i64 (φ 1 (f 1))) := s4.cell 1
  have c2 : W2.cell? ⟨w.heap.size + 1, 2, none⟩ = some (.int .i64 (φ 2 (f 2))) := s4.cell 2
  have c3 : W2.cell? ⟨w.heap.size + 1, 3, none⟩ = some (.int .i64 (φ 3 (f 3))) := s4.cell 3
  clear s4
  go_wp2_with fail
  exact bodyPost_ret (v := .agg #[.int .i64 (φ 0 (f 0)), .int .i64 (φ 1 (f 1)), .int .i64 (φ 2 (f 2)), .int .i64 (φ 3 (f 3))]) (by simp [results, Try.results36, go_sem, c0, c1, c2, c3]) rfl ⟨rfl, HB.out⟩
theorem said_enters : EntersV 36 := enters_of Try.func36 (by kernel_rfl) rfl

/-- What Map works on. -/
structure MapAt (w : World) (v : Nat → Int) (fv : Value) (W : World) : Prop where
  at2 : Sits W w.heap.size 26 (vewCells v)
  at3 : Sits W (w.heap.size + 1) 51 #[fv]
  at4 : Sits W (w.heap.size + 1 + 1) 26 zero8
  low : Below w.heap.size w W
theorem MapAt.grown {w W W' : World} {v : Nat → Int} {fv : Value} (h : MapAt w v fv W) (hb : Below W.heap.size W W') : MapAt w v fv W' :=
  ⟨h.at2.below hb h.at2.lt, h.at3.below hb h.at3.lt, h.at4.below hb h.at4.lt, h.low.trans (hb.mono h.low.size)⟩
theorem mapAt_new (w : World) (v : Nat → Int) (fv : Value) : MapAt w v fv (((w.alloc (.cells (vewCells v) 26)).alloc (.cells #[fv] 51)).alloc (.cells zero8 26)) :=
  ⟨((Sits.new _ _ _).alloc _).alloc _, (Sits.made (by simp) _ _).alloc _, Sits.made (by simp) _ _, below3 _ _ _ _⟩
theorem MapAt.out {w W : World} {v : Nat → Int} {fv : Value} (h : MapAt w v fv W) (u : Array Value) : Below w.heap.size w (W.setRow (w.heap.size + 1 + 1) u) :=
  ⟨h.low.os, h.low.tape, h.low.output, by simpa [World.setRow] using h.low.size, fun b hb => (setRow_other W _ _ _ (by omega)).trans (h.low.block b hb)⟩
def mapsF (φ : Int → Int → Int) (v : Nat → Int) (i : Nat) : Int := φ ((i % 4 : Nat) : Int) (v i)
set_option maxRecDepth 100000 in
set_option maxHeartbeats 1000000 in
theorem map_any {F : FuncId} {fr c : Array Value} {φ : Int → Int → Int} {J : World → Prop} (S : Says F fr c φ J) (v : Nat → Int) (w : World) (hJ : J w) :
    Calls Try.prog 33 #[vewV v, .func (.func F) fr c] w (Made (.returned (vewV (mapsF φ v))) w) := by
  have hn := fn_nil F fr c
  have en : ∀ (args : Array Value) (W : World), (callFunc 36 args).run Try.prog W = .ok (.enter 36 args) W := said_enters
  have HS := Lib.hid S
  have HJ := Lib.hid hJ
  have HM := Lib.hid (mapAt_new w v (.func (.func F) fr c))
  clear hJ S
  go_enter Try.func33, Try.ntmps33
  go_wp2_with fail
  generalize ((w.alloc (.cells (vewCells v) 26)).alloc (.cells #[.func (.func F) fr c] 51)).alloc (.cells zero8 26) = wa at HM ⊢
  refine wp_flowG [10, 11, 12, 13, 14, 15, 16, 17, 18] [eqV (.func (.func 36) #[] #[.pointer (some ⟨w.heap.size + 1, 0, none⟩)]), eqV (.pointer (some ⟨w.heap.size, 0, none⟩)), eqV (arr v), eqV (.agg #[.int .i64 (φ 0 (v 0)), .int .i64 (φ 1 (v 1)), .int .i64 (φ 2 (v 2)), .int .i64 (φ 3 (v 3))]), eqV (.func (.func 36) #[] #[.pointer (some ⟨w.heap.size + 1, 0, none⟩)]), eqV (.pointer (some ⟨w.heap.size, 4, none⟩)), eqV (arr (from_ 4 v)), eqV (.agg #[.int .i64 (φ 0 (v 4)), .int .i64 (φ 1 (v 5)), .int .i64 (φ 2 (v 6)), .int .i64 (φ 3 (v 7))]), eqV (vewV (mapsF φ v))] (by kernel_rfl) (by kernel_rfl) (by kernel_rfl) (by kernel_rfl) (by rfl)
    (by simp only [List.mem_cons, List.not_mem_nil, or_false, forall_eq_or_imp, forall_eq]; refine ⟨?_, ?_, ?_, ?_, ?_, ?_, ?_, ?_, ?_⟩ <;> (first | exact eqV_mono _ | exact rowV_mono _ _ _)) ?_ ?_
  · intro i o hi ho A W hW hk he
    simp only [List.length_cons, List.length_nil, Nat.zero_add, Nat.reduceAdd] at hi
    obtain rfl | rfl | rfl | rfl | rfl | rfl | rfl | rfl | rfl : i = 0 ∨ i = 1 ∨ i = 2 ∨ i = 3 ∨ i = 4 ∨ i = 5 ∨ i = 6 ∨ i = 7 ∨ i = 8 := by omega
    · injection ho with ho; subst ho
      refine .inl ⟨wanted_free rfl, ?_⟩
      have h5 : A.tmps[5]?.getD undef = .func (.func 36) #[] #[.pointer (some ⟨w.heap.size + 1, 0, none⟩)] := hk 5 (by rfl)
      go_simp
      exact ⟨rfl, Below.refl _ _⟩
    · injection ho with ho; subst ho
      refine .inl ⟨wanted_free rfl, ?_⟩
      have h2 : A.tmps[2]?.getD undef = .pointer (some ⟨w.heap.size, 0, none⟩) := hk 2 (by rfl)
      go_simp
      exact ⟨rfl, Below.refl _ _⟩
    · injection ho with ho; subst ho
      refine .inl ⟨wanted_free rfl, ?_⟩
      have h11 : A.tmps[11]?.getD undef = .pointer (some ⟨w.heap.size, 0, none⟩) := he 1 (by kernel_rfl)
      have c0 := ((HM.out.grown hW).at2).cell 0
      have c1 := ((HM.out.grown hW).at2).cell 1
      have c2 := ((HM.out.grown hW).at2).cell 2
      have c3 := ((HM.out.grown hW).at2).cell 3
      go_simp
      exact ⟨rfl, Below.refl _ _⟩
    · injection ho with ho; subst ho
      refine .inl ⟨wanted_free rfl, ?_⟩
      have h12 : A.tmps[12]?.getD undef = arr v := he 2 (by kernel_rfl)
      have h10 : A.tmps[10]?.getD undef = .func (.func 36) #[] #[.pointer (some ⟨w.heap.size + 1, 0, none⟩)] := he 0 (by kernel_rfl)
      go_simp
      refine Calls.mono (said_any HS.out v (w.heap.size + 1) W (HM.out.grown hW).at3 (HS.out.keep _ _ HJ.out (HM.out.grown hW).low)) ?_
      rintro e' w' ⟨rfl, hb⟩
      exact ⟨_, rfl, rfl, hb⟩
    · injection ho with ho; subst ho
      refine .inl ⟨wanted_free rfl, ?_⟩
      have h5 : A.tmps[5]?.getD undef = .func (.func 36) #[] #[.pointer (some ⟨w.heap.size + 1, 0, none⟩)] := hk 5 (by rfl)
      go_simp
      exact ⟨rfl, Below.refl _ _⟩
    · injection ho with ho; subst ho
      refine .inl ⟨wanted_free rfl, ?_⟩
      have h2 : A.tmps[2]?.getD undef = .pointer (some ⟨w.heap.size, 0, none⟩) := hk 2 (by rfl)
      go_simp
      exact ⟨rfl, Below.refl _ _⟩
    · injection ho with ho; subst ho
      refine .inl ⟨wanted_free rfl, ?_⟩
      have h15 : A.tmps[15]?.getD undef = .pointer (some ⟨w.heap.size, 4, none⟩) := he 5 (by kernel_rfl)
      have c0 := ((HM.out.grown hW).at2).cell 4
      have c1 := ((HM.out.grown hW).at2).cell 5
      have c2 := ((HM.out.grown hW).at2).cell 6
      have c3 := ((HM.out.grown hW).at2).cell 7
      go_simp
      exact ⟨rfl, Below.refl _ _⟩
    · injection ho with ho; subst ho
      refine .inl ⟨wanted_free rfl, ?_⟩
      have h16 : A.tmps[16]?.getD undef = arr (from_ 4 v) := he 6 (by kernel_rfl)
      have h14 : A.tmps[14]?.getD undef = .func (.func 36) #[] #[.pointer (some ⟨w.heap.size + 1, 0, none⟩)] := he 4 (by kernel_rfl)
      go_simp
      refine Calls.mono (said_any HS.out (from_ 4 v) (w.heap.size + 1) W (HM.out.grown hW).at3 (HS.out.keep _ _ HJ.out (HM.out.grown hW).low)) ?_
      rintro e' w' ⟨rfl, hb⟩
      exact ⟨_, rfl, rfl, hb⟩
    · injection ho with ho; subst ho
      refine .inl ⟨wanted_free rfl, ?_⟩
      have h13 : A.tmps[13]?.getD undef = .agg #[.int .i64 (φ 0 (v 0)), .int .i64 (φ 1 (v 1)), .int .i64 (φ 2 (v 2)), .int .i64 (φ 3 (v 3))] := he 3 (by kernel_rfl)
      have h17 : A.tmps[17]?.getD undef = .agg #[.int .i64 (φ 0 (v 4)), .int .i64 (φ 1 (v 5)), .int .i64 (φ 2 (v 6)), .int .i64 (φ 3 (v 7))] := he 7 (by kernel_rfl)
      go_simp
      exact ⟨rfl, Below.refl _ _⟩
  · intro xs W hW hV
    have e18 : xs 8 = vewV (mapsF φ v) := hV 8 (by simp)
    simp only [List.length_cons, List.length_nil, Nat.zero_add, Nat.reduceAdd, List.drop_succ_cons, List.drop_zero, putL, Act.put, List.setIfInBounds_toArray, List.set_cons_zero, List.set_cons_succ, e18]
    clear hV e18
    have HB := Lib.hid (HM.out.grown hW)
    clear hW
    refine wpList_store_row rfl 26 _ _ rfl (w.heap.size + 1 + 1) (vewCells (mapsF φ v)) rfl rfl 26 zero8 HB.out.at4 vewSize rfl (vew_one _) ?_
    have HL := Lib.hid (HB.out.out (vewCells (mapsF φ v)))
    have s4 : Sits (W.setRow (w.heap.size + 1 + 1) (vewCells (mapsF φ v))) (w.heap.size + 1 + 1) 26 (vewCells (mapsF φ v)) := setRow_heap W _ _ _ _ _ HB.out.at4
    generalize W.setRow (w.heap.size + 1 + 1) (vewCells (mapsF φ v)) = W2 at s4 HL ⊢
    have c0 := s4.cell 0
    have c1 := s4.cell 1
    have c2 := s4.cell 2
    have c3 := s4.cell 3
    have c4 := s4.cell 4
    have c5 := s4.cell 5
    have c6 := s4.cell 6
    have c7 := s4.cell 7
    clear s4
    go_wp2_with fail
    exact bodyPost_ret (v := vewV (mapsF φ v)) (by simp [results, Try.results33, go_sem, c0, c1, c2, c3, c4, c5, c6, c7]) rfl ⟨rfl, HL.out⟩
end Go.Proofs.Ytanbkclomjbokaa.Vew
