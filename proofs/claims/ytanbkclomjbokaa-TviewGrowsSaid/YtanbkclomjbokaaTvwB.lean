/- Layer 13 (tview): the closures of Read and Write. -/
import Derived.Test.YtanbkclomjbokaaTvwA
import Derived.Test.YtanbkclomjbokaaFlowQ
namespace Go.Proofs.Ytanbkclomjbokaa.Tvw
open Go.RowKit Go.Proofs.Ytanbkclomjbokaa.Mem Go.Proofs.Ytanbkclomjbokaa.Flow Go.Proofs.Ytanbkclomjbokaa.Vew

theorem join_v (v u : Nat → Int) (g c : Nat) (w : World) (h : Sits w g 26 (vwC u)) :
    Calls Try.prog 21 #[.agg (vwC v), .slice (some ⟨g, 0, none⟩) 1 c] w (Made (.returned (.agg (vwC (maxF v u)))) w) := join_one v u g c w h
theorem at_v (loc t : Int) (pln : Bool) (w : World) : Calls Try.prog 19 #[.int .i64 loc, .int .i64 t, .bool pln] w (Made (.returned (.agg (vwC (atF loc t pln)))) w) := at_any loc t pln w
/-- A box with a view, and one for the result. -/
structure Box2 (w : World) (v : Nat → Int) (r : Array Value) (W : World) : Prop where
  at2 : Sits W w.heap.size 26 (vwC v)
  at4 : Sits W (w.heap.size + 1) 26 r
  low : Below w.heap.size w W
section
variable {w W W' : World} {v : Nat → Int} {r : Array Value}
theorem Box2.grown (h : Box2 w v r W) (hb : Below W.heap.size W W') : Box2 w v r W' := ⟨h.at2.below hb h.at2.lt, h.at4.below hb h.at4.lt, h.low.trans (hb.mono h.low.size)⟩
theorem Box2.put (h : Box2 w v r W) (u : Nat → Int) : Box2 w u r (W.setRow w.heap.size (vwC u)) :=
  ⟨setRow_heap W _ _ _ _ _ h.at2, (setRow_other W _ _ _ (by omega)).trans h.at4, behind h.low (keeps_setRow W _ _) h.low.size (fun b hb => by subst hb; exact Nat.le_refl _)⟩
theorem Box2.out (h : Box2 w v r W) (u : Array Value) : Box2 w v u (W.setRow (w.heap.size + 1) u) :=
  ⟨(setRow_other W _ _ _ (by omega)).trans h.at2, setRow_heap W _ _ _ _ _ h.at4, behind h.low (keeps_setRow W _ _) h.low.size (fun b hb => by subst hb; omega)⟩
end
theorem box2_new (w : World) (v : Nat → Int) : Box2 w v zero8 ((w.alloc (.cells (vwC v) 26)).alloc (.cells zero8 26)) :=
  ⟨(Sits.new _ _ _).alloc _, Sits.made (by simp) _ _, below_more (below_more (Below.refl _ w) (Nat.le_refl _) _) (by simp) _⟩
/-- A result that lies in a block. -/
theorem result_v {fn : Func} {p : Tmp} (h : fn.results = #[.cell p 26]) {T : Array Value} {W : World} {g : Nat} {f : Nat → Int} (hp : T.getD p undef = .pointer (some ⟨g, 0, none⟩)) (hs : Sits W g 26 (vwC f)) :
    (results fn T).run Try.prog W = .ok (.agg (vwC f)) W := results_cell_row h T W g _ _ _ _ hp hs Try.underlying26 rfl vewSize
/-- What a closure of Read sees. -/
structure Sees (g1 g2 g3 g4 : Nat) (loc tt : Int) (s : Bool) (m : Nat → Int) (W : World) : Prop where
  c1 : Sits W g1 3 #[.int .i64 loc]
  c2 : Sits W g2 3 #[.int .i64 tt]
  c3 : Sits W g3 4 #[.bool s]
  c4 : Sits W g4 26 (vwC m)
theorem Sees.keep {g1 g2 g3 g4 : Nat} {loc tt : Int} {s : Bool} {m : Nat → Int} {W W' : World} (h : Sees g1 g2 g3 g4 loc tt s m W) (hb : Below W.heap.size W W') : Sees g1 g2 g3 g4 loc tt s m W' :=
  ⟨h.c1.below hb h.c1.lt, h.c2.below hb h.c2.lt, h.c3.below hb h.c3.lt, h.c4.below hb h.c4.lt⟩
def learnF (f m : Nat → Int) (b s : Bool) (loc tt : Int) : Nat → Int := if b then maxF (maxF f (atF loc tt s)) m else maxF f (atF loc tt s)
theorem learn_enters : EntersV 31 := enters_of Try.func31 (by kernel_rfl) rfl
set_option maxRecDepth 100000 in
set_option maxHeartbeats 1000000 in
theorem learn_any (f m : Nat → Int) (b s : Bool) (loc tt : Int) (g1 g2 g3 g4 : Nat) (w : World) (h : Sees g1 g2 g3 g4 loc tt s m w) :
    Calls Try.prog 31 #[.agg (vwC f), .bool b, .pointer (some ⟨g1, 0, none⟩), .pointer (some ⟨g2, 0, none⟩), .pointer (some ⟨g3, 0, none⟩), .pointer (some ⟨g4, 0, none⟩)] w (Made (.returned (.agg (vwC (learnF f m b s loc tt)))) w) := by
  have HB := Lib.hid (box2_new w f)
  have HS := Lib.hid h
  clear h
  go_enter Try.func31, Try.ntmps31
  go_upto_region 1 with (fail)
  generalize (w.alloc (.cells (vwC f) 26)).alloc (.cells zero8 26) = w0 at HB ⊢
  refine wp_flowG [9, 10, 11, 12, 13, 14, 15] [eqV (.agg (vwC (f))), eqV (.int .i64 (loc)), eqV (.int .i64 (tt)), eqV (.bool (s)), eqV (.agg (vwC (atF loc tt s))), rowV 26 1 (vwC (atF loc tt s)), eqV (.agg (vwC (maxF f (atF loc tt s))))] (by kernel_rfl) (by kernel_rfl) (by kernel_rfl) (by kernel_rfl) (by rfl)
    (by simp only [List.mem_cons, List.not_mem_nil, or_false, forall_eq_or_imp, forall_eq]; refine ⟨?_, ?_, ?_, ?_, ?_, ?_, ?_⟩ <;> (first | exact eqV_mono _ | exact rowV_mono _ _ _)) ?_ ?_
  · intro i o hi ho A W hW hk he
    simp only [List.length_cons, List.length_nil, Nat.zero_add, Nat.reduceAdd] at hi
    obtain rfl | rfl | rfl | rfl | rfl | rfl | rfl : i = 0 ∨ i = 1 ∨ i = 2 ∨ i = 3 ∨ i = 4 ∨ i = 5 ∨ i = 6 := by omega
    · injection ho with ho; subst ho
      refine .inl ⟨wanted_free rfl, ?_⟩
      have h6 : A.tmps[6]?.getD undef = .pointer (some ⟨w.heap.size, 0, none⟩) := hk 6 (by rfl)
      exact y_load (cs := vwC (f)) rfl h6 (sits_range ((HB.out.grown hW).at2)) Try.underlying26 rfl vewSize
    · injection ho with ho; subst ho
      refine .inl ⟨wanted_free rfl, ?_⟩
      have h2 : A.tmps[2]?.getD undef = .pointer (some ⟨g1, 0, none⟩) := hk 2 (by rfl)
      have c0 := ((HS.out.keep (HB.out.grown hW).low).c1).cell 0
      go_simp
      exact ⟨rfl, Below.refl _ _⟩
    · injection ho with ho; subst ho
      refine .inl ⟨wanted_free rfl, ?_⟩
      have h3 : A.tmps[3]?.getD undef = .pointer (some ⟨g2, 0, none⟩) := hk 3 (by rfl)
      have c0 := ((HS.out.keep (HB.out.grown hW).low).c2).cell 0
      go_simp
      exact ⟨rfl, Below.refl _ _⟩
    · injection ho with ho; subst ho
      refine .inl ⟨wanted_free rfl, ?_⟩
      have h4 : A.tmps[4]?.getD undef = .pointer (some ⟨g3, 0, none⟩) := hk 4 (by rfl)
      have c0 := ((HS.out.keep (HB.out.grown hW).low).c3).cell 0
      go_simp
      exact ⟨rfl, Below.refl _ _⟩
    · injection ho with ho; subst ho
      refine .inl ⟨wanted_free rfl, ?_⟩
      have h10 : A.tmps[10]?.getD undef = .int .i64 (loc) := he 1 (by kernel_rfl)
      have h11 : A.tmps[11]?.getD undef = .int .i64 (tt) := he 2 (by kernel_rfl)
      have h12 : A.tmps[12]?.getD undef = .bool (s) := he 3 (by kernel_rfl)
      go_simp
      refine Calls.mono (at_v loc tt s W) ?_
      rintro e' w' ⟨rfl, hb⟩
      exact ⟨_, rfl, rfl, hb⟩
    · injection ho with ho; subst ho
      refine .inl ⟨wanted_free rfl, ?_⟩
      have h13 : A.tmps[13]?.getD undef = .agg (vwC (atF loc tt s)) := he 4 (by kernel_rfl)
      exact y_one rfl h13
    · injection ho with ho; subst ho
      refine .inl ⟨wanted_free rfl, ?_⟩
      have h9 : A.tmps[9]?.getD undef = .agg (vwC (f)) := he 0 (by kernel_rfl)
      obtain ⟨gr14, h14, hr14⟩ : rowV 26 1 (vwC (atF loc tt s)) (A.tmps[14]?.getD undef) W := he 5 (by kernel_rfl)
      go_simp
      refine Calls.mono (join_v f (atF loc tt s) gr14 _ W hr14) ?_
      rintro e' w' ⟨rfl, hb⟩
      exact ⟨_, rfl, rfl, hb⟩
  · intro xs W hW hV
    have e15 : xs 6 = .agg (vwC (maxF f (atF loc tt s))) := hV 6 (by simp)
    simp only [List.length_cons, List.length_nil, Nat.zero_add, Nat.reduceAdd, List.drop_succ_cons, List.drop_zero, putL, Act.put, List.setIfInBounds_toArray, List.set_cons_zero, List.set_cons_succ, e15]
    clear hV e15
    have HB1 := Lib.hid (HB.out.grown hW)
    clear hW HB
    refine wpList_store_row rfl 26 _ _ rfl (w.heap.size) (vwC (maxF f (atF loc tt s))) rfl rfl 26 _ HB1.out.at2 vewSize rfl (vwC_one _) ?_
    have HB2 := Lib.hid (HB1.out.put (maxF f (atF loc tt s)))
    generalize W.setRow (w.heap.size) (vwC (maxF f (atF loc tt s))) = W' at HB2 ⊢
    cases b
    ·
      go_upto_region 4 with (fail)
      refine wp_flowQ [21] [eqV (.agg (vwC (maxF f (atF loc tt s))))] (by kernel_rfl) (by kernel_rfl) (by kernel_rfl) (by kernel_rfl) (by rfl)
        (by simp only [List.mem_cons, List.not_mem_nil, or_false, forall_eq]; (first | exact eqV_mono _ | exact rowV_mono _ _ _)) ?_ ?_
      · intro i o hi ho A W hW hk he
        simp only [List.length_cons, List.length_nil, Nat.zero_add] at hi
        obtain rfl : i = 0 := by omega
        · injection ho with ho; subst ho
          refine .inl ⟨wanted_free rfl, ?_⟩
          have h6 : A.tmps[6]?.getD undef = .pointer (some ⟨w.heap.size, 0, none⟩) := hk 6 (by rfl)
          exact y_load (cs := vwC (maxF f (atF loc tt s))) rfl h6 (sits_range ((HB2.out.grown hW).at2)) Try.underlying26 rfl vewSize
      · intro xs W hW hV
        have e21 : xs 0 = .agg (vwC (maxF f (atF loc tt s))) := hV 0 (by simp)
        simp only [List.length_cons, List.length_nil, Nat.zero_add, List.drop_succ_cons, List.drop_zero, putL, Act.put, List.setIfInBounds_toArray, List.set_cons_zero, List.set_cons_succ, e21]
        clear hV e21
        have HB2e := Lib.hid (HB2.out.grown hW)
        clear hW HB2
        have HB2er := Lib.hid (HB2e.out.out (vwC (maxF f (atF loc tt s))))
        refine wpList_store_row rfl 26 _ _ rfl (w.heap.size + 1) (vwC (maxF f (atF loc tt s))) rfl rfl 26 _ HB2e.out.at4 vewSize rfl (vwC_one _) ?_
        generalize W.setRow (w.heap.size + 1) (vwC (maxF f (atF loc tt s))) = W3 at HB2er ⊢
        go_wp2_with fail
        exact bodyPost_ret (v := .agg (vwC (maxF f (atF loc tt s)))) (result_v Try.results31 rfl HB2er.out.at4) rfl ⟨rfl, HB2er.out.low⟩
    ·
      go_upto_region 3 with (fail)
      refine wp_flowQ [17, 18, 19, 20] [eqV (.agg (vwC (maxF f (atF loc tt s)))), eqV (.agg (vwC (m))), rowV 26 1 (vwC (m)), eqV (.agg (vwC (maxF (maxF f (atF loc tt s)) m)))] (by kernel_rfl) (by kernel_rfl) (by kernel_rfl) (by kernel_rfl) (by rfl)
        (by simp only [List.mem_cons, List.not_mem_nil, or_false, forall_eq_or_imp, forall_eq]; refine ⟨?_, ?_, ?_, ?_⟩ <;> (first | exact eqV_mono _ | exact rowV_mono _ _ _)) ?_ ?_
      · intro i o hi ho A W hW hk he
        simp only [List.length_cons, List.length_nil, Nat.zero_add, Nat.reduceAdd] at hi
        obtain rfl | rfl | rfl | rfl : i = 0 ∨ i = 1 ∨ i = 2 ∨ i = 3 := by omega
        · injection ho with ho; subst ho
          refine .inl ⟨wanted_free rfl, ?_⟩
          have h6 : A.tmps[6]?.getD undef = .pointer (some ⟨w.heap.size, 0, none⟩) := hk 6 (by rfl)
          exact y_load (cs := vwC (maxF f (atF loc tt s))) rfl h6 (sits_range ((HB2.out.grown hW).at2)) Try.underlying26 rfl vewSize
        · injection ho with ho; subst ho
          refine .inl ⟨wanted_free rfl, ?_⟩
          have h5 : A.tmps[5]?.getD undef = .pointer (some ⟨g4, 0, none⟩) := hk 5 (by rfl)
          exact y_load (cs := vwC (m)) rfl h5 (sits_range ((HS.out.keep (HB2.out.grown hW).low).c4)) Try.underlying26 rfl vewSize
        · injection ho with ho; subst ho
          refine .inl ⟨wanted_free rfl, ?_⟩
          have h18 : A.tmps[18]?.getD undef = .agg (vwC (m)) := he 1 (by kernel_rfl)
          exact y_one rfl h18
        · injection ho with ho; subst ho
          refine .inl ⟨wanted_free rfl, ?_⟩
          have h17 : A.tmps[17]?.getD undef = .agg (vwC (maxF f (atF loc tt s))) := he 0 (by kernel_rfl)
          obtain ⟨gr19, h19, hr19⟩ : rowV 26 1 (vwC (m)) (A.tmps[19]?.getD undef) W := he 2 (by kernel_rfl)
          go_simp
          refine Calls.mono (join_v (maxF f (atF loc tt s)) m gr19 _ W hr19) ?_
          rintro e' w' ⟨rfl, hb⟩
          exact ⟨_, rfl, rfl, hb⟩
      · intro xs W hW hV
        have e20 : xs 3 = .agg (vwC (maxF (maxF f (atF loc tt s)) m)) := hV 3 (by simp)
        simp only [List.length_cons, List.length_nil, Nat.zero_add, Nat.reduceAdd, List.drop_succ_cons, List.drop_zero, putL, Act.put, List.setIfInBounds_toArray, List.set_cons_zero, List.set_cons_succ, e20]
        clear hV e20
        have HB3 := Lib.hid (HB2.out.grown hW)
        clear hW HB2
        refine wpList_store_row rfl 26 _ _ rfl (w.heap.size) (vwC (maxF (maxF f (atF loc tt s)) m)) rfl rfl 26 _ HB3.out.at2 vewSize rfl (vwC_one _) ?_
        have HB4 := Lib.hid (HB3.out.put (maxF (maxF f (atF loc tt s)) m))
        generalize W.setRow (w.heap.size) (vwC (maxF (maxF f (atF loc tt s)) m)) = W' at HB4 ⊢
        go_upto_region 4 with (fail)
        refine wp_flowQ [21] [eqV (.agg (vwC (maxF (maxF f (atF loc tt s)) m)))] (by kernel_rfl) (by kernel_rfl) (by kernel_rfl) (by kernel_rfl) (by rfl)
          (by simp only [List.mem_cons, List.not_mem_nil, or_false, forall_eq]; (first | exact eqV_mono _ | exact rowV_mono _ _ _)) ?_ ?_
        · intro i o hi ho A W hW hk he
          simp only [List.length_cons, List.length_nil, Nat.zero_add] at hi
          obtain rfl : i = 0 := by omega
          · injection ho with ho; subst ho
            refine .inl ⟨wanted_free rfl, ?_⟩
            have h6 : A.tmps[6]?.getD undef = .pointer (some ⟨w.heap.size, 0, none⟩) := hk 6 (by rfl)
            exact y_load (cs := vwC (maxF (maxF f (atF loc tt s)) m)) rfl h6 (sits_range ((HB4.out.grown hW).at2)) Try.underlying26 rfl vewSize
        · intro xs W hW hV
          have e21 : xs 0 = .agg (vwC (maxF (maxF f (atF loc tt s)) m)) := hV 0 (by simp)
          simp only [List.length_cons, List.length_nil, Nat.zero_add, List.drop_succ_cons, List.drop_zero, putL, Act.put, List.setIfInBounds_toArray, List.set_cons_zero, List.set_cons_succ, e21]
          clear hV e21
          have HB4e := Lib.hid (HB4.out.grown hW)
          clear hW HB4
          have HB4er := Lib.hid (HB4e.out.out (vwC (maxF (maxF f (atF loc tt s)) m)))
          refine wpList_store_row rfl 26 _ _ rfl (w.heap.size + 1) (vwC (maxF (maxF f (atF loc tt s)) m)) rfl rfl 26 _ HB4e.out.at4 vewSize rfl (vwC_one _) ?_
          generalize W.setRow (w.heap.size + 1) (vwC (maxF (maxF f (atF loc tt s)) m)) = W3 at HB4er ⊢
          go_wp2_with fail
          exact bodyPost_ret (v := .agg (vwC (maxF (maxF f (atF loc tt s)) m))) (result_v Try.results31 rfl HB4er.out.at4) rfl ⟨rfl, HB4er.out.low⟩

structure Box1 (w : World) (r : Array Value) (W : World) : Prop where
  at2 : Sits W w.heap.size 26 r
  low : Below w.heap.size w W
theorem Box1.grown {w W W' : World} {r : Array Value} (h : Box1 w r W) (hb : Below W.heap.size W W') : Box1 w r W' := ⟨h.at2.below hb h.at2.lt, h.low.trans (hb.mono h.low.size)⟩
theorem Box1.out {w W : World} {r : Array Value} (h : Box1 w r W) (u : Array Value) : Box1 w u (W.setRow w.heap.size u) :=
  ⟨setRow_heap W _ _ _ _ _ h.at2, behind h.low (keeps_setRow W _ _) h.low.size (fun b hb => by subst hb; exact Nat.le_refl _)⟩
theorem box1_new (w : World) : Box1 w zero8 (w.alloc (.cells zero8 26)) := ⟨Sits.new _ _ _, (Below.refl _ w).alloc (Nat.le_refl _) _⟩
theorem tell1_enters : EntersV 28 := enters_of Try.func28 (by kernel_rfl) rfl
theorem tell0_enters : EntersV 29 := enters_of Try.func29 (by kernel_rfl) rfl
set_option maxRecDepth 100000 in
theorem tell1_any (r m : Nat → Int) (g1 g2 : Nat) (w : World) (h1 : Sits w g1 26 (vwC r)) (h2 : Sits w g2 26 (vwC m)) :
    Calls Try.prog 28 #[.pointer (some ⟨g1, 0, none⟩), .pointer (some ⟨g2, 0, none⟩)] w (Made (.returned (.agg (vwC (maxF r m)))) w) := by
  have HB := Lib.hid (box1_new w)
  have H1 := Lib.hid (fun W (h : Below w.heap.size w W) => h1.below h h1.lt)
  have H2 := Lib.hid (fun W (h : Below w.heap.size w W) => h2.below h h2.lt)
  clear h1 h2
  go_enter Try.func28, Try.ntmps28
  go_upto_region 1 with (fail)
  generalize w.alloc (.cells zero8 26) = w0 at HB ⊢
  refine wp_flowQ [3, 4, 5, 6] [eqV (.agg (vwC (r))), eqV (.agg (vwC (m))), rowV 26 1 (vwC (m)), eqV (.agg (vwC (maxF r m)))] (by kernel_rfl) (by kernel_rfl) (by kernel_rfl) (by kernel_rfl) (by rfl)
    (by simp only [List.mem_cons, List.not_mem_nil, or_false, forall_eq_or_imp, forall_eq]; refine ⟨?_, ?_, ?_, ?_⟩ <;> (first | exact eqV_mono _ | exact rowV_mono _ _ _)) ?_ ?_
  · intro i o hi ho A W hW hk he
    simp only [List.length_cons, List.length_nil, Nat.zero_add, Nat.reduceAdd] at hi
    obtain rfl | rfl | rfl | rfl : i = 0 ∨ i = 1 ∨ i = 2 ∨ i = 3 := by omega
    · injection ho with ho; subst ho
      refine .inl ⟨wanted_free rfl, ?_⟩
      have h0 : A.tmps[0]?.getD undef = .pointer (some ⟨g1, 0, none⟩) := hk 0 (by rfl)
      exact y_load (cs := vwC (r)) rfl h0 (sits_range (H1.out W (HB.out.grown hW).low)) Try.underlying26 rfl vewSize
    · injection ho with ho; subst ho
      refine .inl ⟨wanted_free rfl, ?_⟩
      have h1 : A.tmps[1]?.getD undef = .pointer (some ⟨g2, 0, none⟩) := hk 1 (by rfl)
      exact y_load (cs := vwC (m)) rfl h1 (sits_range (H2.out W (HB.out.grown hW).low)) Try.underlying26 rfl vewSize
    · injection ho with ho; subst ho
      refine .inl ⟨wanted_free rfl, ?_⟩
      have h4 : A.tmps[4]?.getD undef = .agg (vwC (m)) := he 1 (by kernel_rfl)
      exact y_one rfl h4
    · injection ho with ho; subst ho
      refine .inl ⟨wanted_free rfl, ?_⟩
      have h3 : A.tmps[3]?.getD undef = .agg (vwC (r)) := he 0 (by kernel_rfl)
      obtain ⟨gr5, h5, hr5⟩ : rowV 26 1 (vwC (m)) (A.tmps[5]?.getD undef) W := he 2 (by kernel_rfl)
      go_simp
      refine Calls.mono (join_v r m gr5 _ W hr5) ?_
      rintro e' w' ⟨rfl, hb⟩
      exact ⟨_, rfl, rfl, hb⟩
  · intro xs W hW hV
    have e6 : xs 3 = .agg (vwC (maxF r m)) := hV 3 (by simp)
    simp only [List.length_cons, List.length_nil, Nat.zero_add, Nat.reduceAdd, List.drop_succ_cons, List.drop_zero, putL, Act.put, List.setIfInBounds_toArray, List.set_cons_zero, List.set_cons_succ, e6]
    clear hV e6
    have HB1 := Lib.hid (HB.out.grown hW)
    clear hW HB
    have HB1r := Lib.hid (HB1.out.out (vwC (maxF r m)))
    refine wpList_store_row rfl 26 _ _ rfl (w.heap.size) (vwC (maxF r m)) rfl rfl 26 _ HB1.out.at2 vewSize rfl (vwC_one _) ?_
    generalize W.setRow (w.heap.size) (vwC (maxF r m)) = W3 at HB1r ⊢
    go_wp2_with fail
    exact bodyPost_ret (v := .agg (vwC (maxF r m))) (result_v Try.results28 rfl HB1r.out.at2) rfl ⟨rfl, HB1r.out.low⟩
set_option maxRecDepth 100000 in
theorem tell0_any (w : World) : Calls Try.prog 29 #[] w (Made (.returned (.agg (vwC zeroF))) w) := by
  have HB := Lib.hid (box1_new w)
  go_enter Try.func29, Try.ntmps29
  go_upto_region 1 with (fail)
  generalize w.alloc (.cells zero8 26) = w0 at HB ⊢
  have HBr := Lib.hid (HB.out.out (vwC zeroF))
  go_wp2_with (refine wpList_store_row rfl 26 _ _ rfl (w.heap.size) (vwC zeroF) rfl rfl 26 _ HB.out.at2 vewSize rfl (vwC_one _) ?_)
  generalize w0.setRow (w.heap.size) (vwC zeroF) = W3 at HBr ⊢
  go_wp2_with fail
  exact bodyPost_ret (v := .agg (vwC zeroF)) (result_v Try.results29 rfl HBr.out.at2) rfl ⟨rfl, HBr.out.low⟩
def flatF (S : Nat → Int) (i : Nat) : Int := S (i % 4)
theorem flat_v (S : Nat → Int) (w : World) : Calls Try.prog 23 #[arr S] w (Made (.returned (.agg (vwC (flatF S)))) w) := flat_any S w
abbrev arrC (S : Nat → Int) : Array Value := #[.int .i64 (S 0), .int .i64 (S 1), .int .i64 (S 2), .int .i64 (S 3)]
theorem with1_enters : EntersV 25 := enters_of Try.func25 (by kernel_rfl) rfl
set_option maxRecDepth 100000 in
theorem with1_any (f S : Nat → Int) (g : Nat) (w : World) (h : Sits w g 24 (arrC S)) :
    Calls Try.prog 25 #[.agg (vwC f), .pointer (some ⟨g, 0, none⟩)] w (Made (.returned (.agg (vwC (maxF f (flatF S))))) w) := by
  have HB := Lib.hid (box2_new w f)
  have H1 := Lib.hid (fun W (hb : Below w.heap.size w W) => h.below hb h.lt)
  clear h
  go_enter Try.func25, Try.ntmps25
  go_upto_region 1 with (fail)
  generalize (w.alloc (.cells (vwC f) 26)).alloc (.cells zero8 26) = w0 at HB ⊢
  refine wp_flowG [4, 5, 6, 7, 8] [eqV (.agg (vwC (f))), eqV (arr S), eqV (.agg (vwC (flatF S))), rowV 26 1 (vwC (flatF S)), eqV (.agg (vwC (maxF f (flatF S))))] (by kernel_rfl) (by kernel_rfl) (by kernel_rfl) (by kernel_rfl) (by rfl)
    (by simp only [List.mem_cons, List.not_mem_nil, or_false, forall_eq_or_imp, forall_eq]; refine ⟨?_, ?_, ?_, ?_, ?_⟩ <;> (first | exact eqV_mono _ | exact rowV_mono _ _ _)) ?_ ?_
  · intro i o hi ho A W hW hk he
    simp only [List.length_cons, List.length_nil, Nat.zero_add, Nat.reduceAdd] at hi
    obtain rfl | rfl | rfl | rfl | rfl : i = 0 ∨ i = 1 ∨ i = 2 ∨ i = 3 ∨ i = 4 := by omega
    · injection ho with ho; subst ho
      refine .inl ⟨wanted_free rfl, ?_⟩
      have h2 : A.tmps[2]?.getD undef = .pointer (some ⟨w.heap.size, 0, none⟩) := hk 2 (by rfl)
      exact y_load (cs := vwC (f)) rfl h2 (sits_range ((HB.out.grown hW).at2)) Try.underlying26 rfl vewSize
    · injection ho with ho; subst ho
      refine .inl ⟨wanted_free rfl, ?_⟩
      have h1 : A.tmps[1]?.getD undef = .pointer (some ⟨g, 0, none⟩) := hk 1 (by rfl)
      have c0 := (H1.out W (HB.out.grown hW).low).cell 0
      have c1 := (H1.out W (HB.out.grown hW).low).cell 1
      have c2 := (H1.out W (HB.out.grown hW).low).cell 2
      have c3 := (H1.out W (HB.out.grown hW).low).cell 3
      go_simp
      exact ⟨rfl, Below.refl _ _⟩
    · injection ho with ho; subst ho
      refine .inl ⟨wanted_free rfl, ?_⟩
      have h5 : A.tmps[5]?.getD undef = arr S := he 1 (by kernel_rfl)
      go_simp
      refine Calls.mono (flat_v S W) ?_
      rintro e' w' ⟨rfl, hb⟩
      exact ⟨_, rfl, rfl, hb⟩
    · injection ho with ho; subst ho
      refine .inl ⟨wanted_free rfl, ?_⟩
      have h6 : A.tmps[6]?.getD undef = .agg (vwC (flatF S)) := he 2 (by kernel_rfl)
      exact y_one rfl h6
    · injection ho with ho; subst ho
      refine .inl ⟨wanted_free rfl, ?_⟩
      have h4 : A.tmps[4]?.getD undef = .agg (vwC (f)) := he 0 (by kernel_rfl)
      obtain ⟨gr7, h7, hr7⟩ : rowV 26 1 (vwC (flatF S)) (A.tmps[7]?.getD undef) W := he 3 (by kernel_rfl)
      go_simp
      refine Calls.mono (join_v f (flatF S) gr7 _ W hr7) ?_
      rintro e' w' ⟨rfl, hb⟩
      exact ⟨_, rfl, rfl, hb⟩
  · intro xs W hW hV
    have e8 : xs 4 = .agg (vwC (maxF f (flatF S))) := hV 4 (by simp)
    simp only [List.length_cons, List.length_nil, Nat.zero_add, Nat.reduceAdd, List.drop_succ_cons, List.drop_zero, putL, Act.put, List.setIfInBounds_toArray, List.set_cons_zero, List.set_cons_succ, e8]
    clear hV e8
    have HB1 := Lib.hid (HB.out.grown hW)
    clear hW HB
    have HB1r := Lib.hid (HB1.out.out (vwC (maxF f (flatF S))))
    refine wpList_store_row rfl 26 _ _ rfl (w.heap.size + 1) (vwC (maxF f (flatF S))) rfl rfl 26 _ HB1.out.at4 vewSize rfl (vwC_one _) ?_
    generalize W.setRow (w.heap.size + 1) (vwC (maxF f (flatF S))) = W3 at HB1r ⊢
    go_wp2_with fail
    exact bodyPost_ret (v := .agg (vwC (maxF f (flatF S)))) (result_v Try.results25 rfl HB1r.out.at4) rfl ⟨rfl, HB1r.out.low⟩
theorem map1_enters : EntersV 32 := enters_of Try.func32 (by kernel_rfl) rfl
set_option maxRecDepth 100000 in
theorem map1_any {F : FuncId} {fr c : Array Value} {φ : Int → Int → Int} {J : World → Prop} (S : Says F fr c φ J) (f : Nat → Int) (g : Nat) (w : World) (h : Sits w g 51 #[.func (.func F) fr c]) (hJ : J w) :
    Calls Try.prog 32 #[.agg (vwC f), .pointer (some ⟨g, 0, none⟩)] w (Made (.returned (.agg (vwC (mapsF φ f)))) w) := by
  have HB := Lib.hid (box2_new w f)
  have HS := Lib.hid S
  have H1 := Lib.hid (fun W (hb : Below w.heap.size w W) => h.below hb h.lt)
  have H2 := Lib.hid (fun W (hb : Below w.heap.size w W) => S.keep _ _ hJ hb)
  clear h S hJ
  go_enter Try.func32, Try.ntmps32
  go_upto_region 1 with (fail)
  generalize (w.alloc (.cells (vwC f) 26)).alloc (.cells zero8 26) = w0 at HB ⊢
  refine wp_flowQ [4, 5, 6] [eqV (.agg (vwC (f))), eqV (.func (.func F) fr c), eqV (.agg (vwC (mapsF φ f)))] (by kernel_rfl) (by kernel_rfl) (by kernel_rfl) (by kernel_rfl) (by rfl)
    (by simp only [List.mem_cons, List.not_mem_nil, or_false, forall_eq_or_imp, forall_eq]; refine ⟨?_, ?_, ?_⟩ <;> (first | exact eqV_mono _ | exact rowV_mono _ _ _)) ?_ ?_
  · intro i o hi ho A W hW hk he
    simp only [List.length_cons, List.length_nil, Nat.zero_add, Nat.reduceAdd] at hi
    obtain rfl | rfl | rfl : i = 0 ∨ i = 1 ∨ i = 2 := by omega
    · injection ho with ho; subst ho
      refine .inl ⟨wanted_free rfl, ?_⟩
      have h2 : A.tmps[2]?.getD undef = .pointer (some ⟨w.heap.size, 0, none⟩) := hk 2 (by rfl)
      exact y_load (cs := vwC (f)) rfl h2 (sits_range ((HB.out.grown hW).at2)) Try.underlying26 rfl vewSize
    · injection ho with ho; subst ho
      refine .inl ⟨wanted_free rfl, ?_⟩
      have h1 : A.tmps[1]?.getD undef = .pointer (some ⟨g, 0, none⟩) := hk 1 (by rfl)
      have c0 := (H1.out W (HB.out.grown hW).low).cell 0
      go_simp
      exact ⟨rfl, Below.refl _ _⟩
    · injection ho with ho; subst ho
      refine .inl ⟨wanted_free rfl, ?_⟩
      have h4 : A.tmps[4]?.getD undef = .agg (vwC (f)) := he 0 (by kernel_rfl)
      have h5 : A.tmps[5]?.getD undef = .func (.func F) fr c := he 1 (by kernel_rfl)
      go_simp
      refine Calls.mono ((map_any HS.out f W (H2.out W (HB.out.grown hW).low))) ?_
      rintro e' w' ⟨rfl, hb⟩
      exact ⟨_, rfl, rfl, hb⟩
  · intro xs W hW hV
    have e6 : xs 2 = .agg (vwC (mapsF φ f)) := hV 2 (by simp)
    simp only [List.length_cons, List.length_nil, Nat.zero_add, Nat.reduceAdd, List.drop_succ_cons, List.drop_zero, putL, Act.put, List.setIfInBounds_toArray, List.set_cons_zero, List.set_cons_succ, e6]
    clear hV e6
    have HB1 := Lib.hid (HB.out.grown hW)
    clear hW HB
    have HB1r := Lib.hid (HB1.out.out (vwC (mapsF φ f)))
    refine wpList_store_row rfl 26 _ _ rfl (w.heap.size + 1) (vwC (mapsF φ f)) rfl rfl 26 _ HB1.out.at4 vewSize rfl (vwC_one _) ?_
    generalize W.setRow (w.heap.size + 1) (vwC (mapsF φ f)) = W3 at HB1r ⊢
    go_wp2_with fail
    exact bodyPost_ret (v := .agg (vwC (mapsF φ f))) (result_v Try.results32 rfl HB1r.out.at4) rfl ⟨rfl, HB1r.out.low⟩
theorem may_v (f : Nat → Int) (w : World) : Calls Try.prog 16 #[.agg (vwC f)] w (Made (.returned (.bool (mayF f))) w) := may_any f w
theorem may1_enters : EntersV 35 := enters_of Try.func35 (by kernel_rfl) rfl
set_option maxRecDepth 100000 in
theorem may1_any (f : Nat → Int) (b : Bool) (g : Nat) (w : World) (h : Sits w g 4 #[.bool b]) :
    Calls Try.prog 35 #[.agg (vwC f), .pointer (some ⟨g, 0, none⟩)] w fun e w' => e = .returned (.agg (vwC f)) ∧ Sits w' g 4 #[.bool (b && mayF f)] ∧ Keeps (· = g) w w' := by
  have HB := Lib.hid (box2_new w f)
  have HG := Lib.hid h.lt
  have H1 := Lib.hid (fun W (hb : Below w.heap.size w W) => h.below hb h.lt)
  clear h
  go_enter Try.func35, Try.ntmps35
  go_upto_region 1 with (fail)
  generalize (w.alloc (.cells (vwC f) 26)).alloc (.cells zero8 26) = w0 at HB ⊢
  cases b
  ·
    refine wp_flowQ [4, 5, 6, 7, 8] [eqV (.bool false), eqV (.bool false), eqV undef, eqV undef, eqV (.bool false)] (by kernel_rfl) (by kernel_rfl) (by kernel_rfl) (by kernel_rfl) (by rfl)
      (by simp only [List.mem_cons, List.not_mem_nil, or_false, forall_eq_or_imp, forall_eq]; refine ⟨?_, ?_, ?_, ?_, ?_⟩ <;> (first | exact eqV_mono _ | exact rowV_mono _ _ _)) ?_ ?_
    · intro i o hi ho A W hW hk he
      simp only [List.length_cons, List.length_nil, Nat.zero_add, Nat.reduceAdd] at hi
      obtain rfl | rfl | rfl | rfl | rfl : i = 0 ∨ i = 1 ∨ i = 2 ∨ i = 3 ∨ i = 4 := by omega
      · injection ho with ho; subst ho
        refine .inl ⟨wanted_free rfl, ?_⟩
        have h1 : A.tmps[1]?.getD undef = .pointer (some ⟨g, 0, none⟩) := hk 1 (by rfl)
        have c0 := (H1.out W (HB.out.grown hW).low).cell 0
        go_simp
        exact ⟨rfl, Below.refl _ _⟩
      · injection ho with ho; subst ho
        refine .inl ⟨wanted_free rfl, ?_⟩
        have h4 : A.tmps[4]?.getD undef = .bool false := he 0 (by kernel_rfl)
        go_simp
        exact ⟨rfl, Below.refl _ _⟩
      · injection ho with ho; subst ho
        have hg : A.tmps[5]?.getD undef = .bool false := he 1 (by kernel_rfl)
        exact .inr ⟨wanted_no (d := 5) rfl (by kernel_rfl) hg, rfl⟩
      · injection ho with ho; subst ho
        have hg : A.tmps[5]?.getD undef = .bool false := he 1 (by kernel_rfl)
        exact .inr ⟨wanted_no (d := 5) rfl (by kernel_rfl) hg, rfl⟩
      · injection ho with ho; subst ho
        refine .inl ⟨wanted_free rfl, ?_⟩
        have h5 : A.tmps[5]?.getD undef = .bool false := he 1 (by kernel_rfl)
        have h7 : A.tmps[7]?.getD undef = undef := he 3 (by kernel_rfl)
        go_simp
        exact ⟨rfl, Below.refl _ _⟩
    · intro xs W hW hV
      have e8 : xs 4 = .bool false := hV 4 (by simp)
      simp only [List.length_cons, List.length_nil, Nat.zero_add, Nat.reduceAdd, List.drop_succ_cons, List.drop_zero, putL, Act.put, List.setIfInBounds_toArray, List.set_cons_zero, List.set_cons_succ, e8]
      clear hV e8
      have HB1 := Lib.hid (HB.out.grown hW)
      clear hW
      have c0 := (H1.out W HB1.out.low).cell 0
      have c1 := (H1.out W HB1.out.low).free 0
      have HK : Hid (Sits (W.setCell ⟨g, 0, none⟩ (.bool (false))) g 4 #[.bool (false && mayF f)] ∧ Keeps (· = g) w (W.setCell ⟨g, 0, none⟩ (.bool (false))) ∧ Sits (W.setCell ⟨g, 0, none⟩ (.bool (false))) w.heap.size 26 (vwC f) ∧ Sits (W.setCell ⟨g, 0, none⟩ (.bool (false))) (w.heap.size + 1) 26 zero8) := Lib.hid
        ⟨(H1.out W HB1.out.low).put 0 _, (Keeps.of_below (X := (· = g)) HB1.out.low).put (p := ⟨g, 0, none⟩) (.inl rfl) _, HB1.out.at2.far (by have := HG.out; simp; omega) _, HB1.out.at4.far (by have := HG.out; simp; omega) _⟩
      go_upto_region 2 with (fail)
      generalize W.setCell ⟨g, 0, none⟩ (.bool (false)) = W2 at HK ⊢
      clear c0 c1 HB HB1
      refine wp_flowQ [9] [eqV (.agg (vwC (f)))] (by kernel_rfl) (by kernel_rfl) (by kernel_rfl) (by kernel_rfl) (by rfl)
        (by simp only [List.mem_cons, List.not_mem_nil, or_false, forall_eq]; (first | exact eqV_mono _ | exact rowV_mono _ _ _)) ?_ ?_
      · intro i o hi ho A W hW hk he
        simp only [List.length_cons, List.length_nil, Nat.zero_add] at hi
        obtain rfl : i = 0 := by omega
        · injection ho with ho; subst ho
          refine .inl ⟨wanted_free rfl, ?_⟩
          have h2 : A.tmps[2]?.getD undef = .pointer (some ⟨w.heap.size, 0, none⟩) := hk 2 (by rfl)
          exact y_load (cs := vwC (f)) rfl h2 (sits_range (HK.out.2.2.1.below hW HK.out.2.2.1.lt)) Try.underlying26 rfl vewSize
      · intro xs W hW hV
        have e9 : xs 0 = .agg (vwC (f)) := hV 0 (by simp)
        simp only [List.length_cons, List.length_nil, Nat.zero_add, List.drop_succ_cons, List.drop_zero, putL, Act.put, List.setIfInBounds_toArray, List.set_cons_zero, List.set_cons_succ, e9]
        clear hV e9
        have s1 := HK.out.1.below hW HK.out.1.lt
        have s2 := HK.out.2.2.2.below hW HK.out.2.2.2.lt
        have s3 := HK.out.2.1.trans (Keeps.of_below hW)
        have hg := HG.out
        refine wpList_store_row rfl 26 _ _ rfl (w.heap.size + 1) (vwC f) rfl rfl 26 _ s2 vewSize rfl (vwC_one _) ?_
        have HE : Hid (Sits (W.setRow (w.heap.size + 1) (vwC f)) (w.heap.size + 1) 26 (vwC f) ∧ Sits (W.setRow (w.heap.size + 1) (vwC f)) g 4 #[.bool (false && mayF f)] ∧ Keeps (· = g) w (W.setRow (w.heap.size + 1) (vwC f))) := Lib.hid
          ⟨setRow_heap W _ _ (vwC f) _ _ s2, (setRow_other W _ _ (vwC f) (by omega)).trans s1, keeps_new_row s3 (Nat.le_succ _)⟩
        generalize W.setRow (w.heap.size + 1) (vwC f) = W3 at HE ⊢
        go_wp2_with fail
        exact bodyPost_ret (v := .agg (vwC f)) (result_v Try.results35 rfl HE.out.1) rfl ⟨rfl, HE.out.2⟩
  ·
    refine wp_flowQ [4, 5, 6, 7, 8] [eqV (.bool true), eqV (.bool true), eqV (.agg (vwC (f))), eqV (.bool (mayF f)), eqV (.bool (mayF f))] (by kernel_rfl) (by kernel_rfl) (by kernel_rfl) (by kernel_rfl) (by rfl)
      (by simp only [List.mem_cons, List.not_mem_nil, or_false, forall_eq_or_imp, forall_eq]; refine ⟨?_, ?_, ?_, ?_, ?_⟩ <;> (first | exact eqV_mono _ | exact rowV_mono _ _ _)) ?_ ?_
    · intro i o hi ho A W hW hk he
      simp only [List.length_cons, List.length_nil, Nat.zero_add, Nat.reduceAdd] at hi
      obtain rfl | rfl | rfl | rfl | rfl : i = 0 ∨ i = 1 ∨ i = 2 ∨ i = 3 ∨ i = 4 := by omega
      · injection ho with ho; subst ho
        refine .inl ⟨wanted_free rfl, ?_⟩
        have h1 : A.tmps[1]?.getD undef = .pointer (some ⟨g, 0, none⟩) := hk 1 (by rfl)
        have c0 := (H1.out W (HB.out.grown hW).low).cell 0
        go_simp
        exact ⟨rfl, Below.refl _ _⟩
      · injection ho with ho; subst ho
        refine .inl ⟨wanted_free rfl, ?_⟩
        have h4 : A.tmps[4]?.getD undef = .bool true := he 0 (by kernel_rfl)
        go_simp
        exact ⟨rfl, Below.refl _ _⟩
      · injection ho with ho; subst ho
        have hg : A.tmps[5]?.getD undef = .bool true := he 1 (by kernel_rfl)
        refine .inl ⟨wanted_yes (d := 5) rfl (by kernel_rfl) hg, ?_⟩
        have h2 : A.tmps[2]?.getD undef = .pointer (some ⟨w.heap.size, 0, none⟩) := hk 2 (by rfl)
        exact y_load (cs := vwC (f)) rfl h2 (sits_range ((HB.out.grown hW).at2)) Try.underlying26 rfl vewSize
      · injection ho with ho; subst ho
        have hg : A.tmps[5]?.getD undef = .bool true := he 1 (by kernel_rfl)
        refine .inl ⟨wanted_yes (d := 5) rfl (by kernel_rfl) hg, ?_⟩
        have h6 : A.tmps[6]?.getD undef = .agg (vwC (f)) := he 2 (by kernel_rfl)
        go_simp
        refine Calls.mono (may_v f W) ?_
        rintro e' w' ⟨rfl, hb⟩
        exact ⟨_, rfl, rfl, hb⟩
      · injection ho with ho; subst ho
        refine .inl ⟨wanted_free rfl, ?_⟩
        have h5 : A.tmps[5]?.getD undef = .bool true := he 1 (by kernel_rfl)
        have h7 : A.tmps[7]?.getD undef = .bool (mayF f) := he 3 (by kernel_rfl)
        go_simp
        exact ⟨rfl, Below.refl _ _⟩
    · intro xs W hW hV
      have e8 : xs 4 = .bool (mayF f) := hV 4 (by simp)
      simp only [List.length_cons, List.length_nil, Nat.zero_add, Nat.reduceAdd, List.drop_succ_cons, List.drop_zero, putL, Act.put, List.setIfInBounds_toArray, List.set_cons_zero, List.set_cons_succ, e8]
      clear hV e8
      have HB1 := Lib.hid (HB.out.grown hW)
      clear hW
      have c0 := (H1.out W HB1.out.low).cell 0
      have c1 := (H1.out W HB1.out.low).free 0
      have HK : Hid (Sits (W.setCell ⟨g, 0, none⟩ (.bool (mayF f))) g 4 #[.bool (true && mayF f)] ∧ Keeps (· = g) w (W.setCell ⟨g, 0, none⟩ (.bool (mayF f))) ∧ Sits (W.setCell ⟨g, 0, none⟩ (.bool (mayF f))) w.heap.size 26 (vwC f) ∧ Sits (W.setCell ⟨g, 0, none⟩ (.bool (mayF f))) (w.heap.size + 1) 26 zero8) := Lib.hid
        ⟨(H1.out W HB1.out.low).put 0 _, (Keeps.of_below (X := (· = g)) HB1.out.low).put (p := ⟨g, 0, none⟩) (.inl rfl) _, HB1.out.at2.far (by have := HG.out; simp; omega) _, HB1.out.at4.far (by have := HG.out; simp; omega) _⟩
      go_upto_region 2 with (fail)
      generalize W.setCell ⟨g, 0, none⟩ (.bool (mayF f)) = W2 at HK ⊢
      clear c0 c1 HB HB1
      refine wp_flowQ [9] [eqV (.agg (vwC (f)))] (by kernel_rfl) (by kernel_rfl) (by kernel_rfl) (by kernel_rfl) (by rfl)
        (by simp only [List.mem_cons, List.not_mem_nil, or_false, forall_eq]; (first | exact eqV_mono _ | exact rowV_mono _ _ _)) ?_ ?_
      · intro i o hi ho A W hW hk he
        simp only [List.length_cons, List.length_nil, Nat.zero_add] at hi
        obtain rfl : i = 0 := by omega
        · injection ho with ho; subst ho
          refine .inl ⟨wanted_free rfl, ?_⟩
          have h2 : A.tmps[2]?.getD undef = .pointer (some ⟨w.heap.size, 0, none⟩) := hk 2 (by rfl)
          exact y_load (cs := vwC (f)) rfl h2 (sits_range (HK.out.2.2.1.below hW HK.out.2.2.1.lt)) Try.underlying26 rfl vewSize
      · intro xs W hW hV
        have e9 : xs 0 = .agg (vwC (f)) := hV 0 (by simp)
        simp only [List.length_cons, List.length_nil, Nat.zero_add, List.drop_succ_cons, List.drop_zero, putL, Act.put, List.setIfInBounds_toArray, List.set_cons_zero, List.set_cons_succ, e9]
        clear hV e9
        have s1 := HK.out.1.below hW HK.out.1.lt
        have s2 := HK.out.2.2.2.below hW HK.out.2.2.2.lt
        have s3 := HK.out.2.1.trans (Keeps.of_below hW)
        have hg := HG.out
        refine wpList_store_row rfl 26 _ _ rfl (w.heap.size + 1) (vwC f) rfl rfl 26 _ s2 vewSize rfl (vwC_one _) ?_
        have HE : Hid (Sits (W.setRow (w.heap.size + 1) (vwC f)) (w.heap.size + 1) 26 (vwC f) ∧ Sits (W.setRow (w.heap.size + 1) (vwC f)) g 4 #[.bool (true && mayF f)] ∧ Keeps (· = g) w (W.setRow (w.heap.size + 1) (vwC f))) := Lib.hid
          ⟨setRow_heap W _ _ (vwC f) _ _ s2, (setRow_other W _ _ (vwC f) (by omega)).trans s1, keeps_new_row s3 (Nat.le_succ _)⟩
        generalize W.setRow (w.heap.size + 1) (vwC f) = W3 at HE ⊢
        go_wp2_with fail
        exact bodyPost_ret (v := .agg (vwC f)) (result_v Try.results35 rfl HE.out.1) rfl ⟨rfl, HE.out.2⟩
end Go.Proofs.Ytanbkclomjbokaa.Tvw
