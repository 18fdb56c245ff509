/- Layer 13 (tview): Fence. -/
import Derived.Test.YtanbkclomjbokaaTvwG
namespace Go.Proofs.Ytanbkclomjbokaa.Tvw
open Go.RowKit Go.Proofs.Ytanbkclomjbokaa.Mem Go.Proofs.Ytanbkclomjbokaa.Flow Go.Proofs.Ytanbkclomjbokaa.Vew

structure FnAt (w : World) (V : Nat → Nat → Int) (S : Nat → Int) (r q : Array Value) (W : World) : Prop where
  at3 : Sits W w.heap.size 29 (vsC V)
  at5 : Sits W (w.heap.size + 1) 24 (arrC S)
  at6 : Sits W (w.heap.size + 1 + 1) 29 r
  at7 : Sits W (w.heap.size + 1 + 1 + 1) 24 q
  low : Below w.heap.size w W
  grow : w.heap.size + 4 ≤ W.heap.size
section
variable {w W W' : World} {V : Nat → Nat → Int} {S : Nat → Int} {r q : Array Value}
theorem FnAt.grown (h : FnAt w V S r q W) (hb : Below W.heap.size W W') : FnAt w V S r q W' :=
  ⟨h.at3.below hb h.at3.lt, h.at5.below hb h.at5.lt, h.at6.below hb h.at6.lt, h.at7.below hb h.at7.lt, h.low.trans (hb.mono h.low.size), by have := h.grow; have := hb.size; omega⟩
theorem FnAt.one {U : Nat → Nat → Int} (h : FnAt w V S r q W) (o : OneS W (· = w.heap.size) w.heap.size U W') : FnAt w U S r q W' :=
  ⟨o.at1, h.at5.keep o.low (by omega), h.at6.keep o.low (by omega), h.at7.keep o.low (by omega), h.low.trans (o.low.below (by have := h.grow; omega) (fun b hb => by omega)), by have := h.grow; have := o.low.size; omega⟩
theorem FnAt.all (h : FnAt w V S r q W) (U : Nat → Nat → Int) : FnAt w U S r q (W.setRow w.heap.size (vsC U)) :=
  ⟨setRow_heap _ _ _ _ _ _ h.at3, (setRow_other _ _ _ _ (by omega)).trans h.at5, (setRow_other _ _ _ _ (by omega)).trans h.at6, (setRow_other _ _ _ _ (by omega)).trans h.at7, h.low.trans (below_row (by omega)), by simpa [World.setRow] using h.grow⟩
theorem FnAt.times (h : FnAt w V S r q W) (S' : Nat → Int) : FnAt w V S' r q (W.setRow (w.heap.size + 1) (arrC S')) :=
  ⟨(setRow_other _ _ _ _ (by omega)).trans h.at3, setRow_heap _ _ _ _ _ _ h.at5, (setRow_other _ _ _ _ (by omega)).trans h.at6, (setRow_other _ _ _ _ (by omega)).trans h.at7, h.low.trans (below_row (by omega)), by simpa [World.setRow] using h.grow⟩
theorem FnAt.out (h : FnAt w V S r q W) (u : Array Value) : FnAt w V S u q (W.setRow (w.heap.size + 1 + 1) u) :=
  ⟨(setRow_other _ _ _ _ (by omega)).trans h.at3, (setRow_other _ _ _ _ (by omega)).trans h.at5, setRow_heap _ _ _ _ _ _ h.at6, (setRow_other _ _ _ _ (by omega)).trans h.at7, h.low.trans (below_row (by omega)), by simpa [World.setRow] using h.grow⟩
theorem FnAt.out2 (h : FnAt w V S r q W) (u : Array Value) : FnAt w V S r u (W.setRow (w.heap.size + 1 + 1 + 1) u) :=
  ⟨(setRow_other _ _ _ _ (by omega)).trans h.at3, (setRow_other _ _ _ _ (by omega)).trans h.at5, (setRow_other _ _ _ _ (by omega)).trans h.at6, setRow_heap _ _ _ _ _ _ h.at7, h.low.trans (below_row (by omega)), by simpa [World.setRow] using h.grow⟩
theorem fnAt_new (w : World) (V : Nat → Nat → Int) (S : Nat → Int) : FnAt w V S zero48 zero4 ((((w.alloc (.cells (vsC V) 29)).alloc (.cells (arrC S) 24)).alloc (.cells zero48 29)).alloc (.cells zero4 24)) :=
  ⟨(((Sits.new _ _ _).alloc _).alloc _).alloc _, ((Sits.made (by simp) _ _).alloc _).alloc _, (Sits.made (by simp) _ _).alloc _, Sits.made (by simp) _ _,
    below_more (below3 _ _ _ _) (by simp; omega) _, by simp⟩
end
theorem result_sab {fn : Func} {p p2 q : Tmp} (h : fn.results = #[.cell p 29, .cell p2 24, .tmp q]) {T : Array Value} {W : World} {g g2 : Nat} {V : Nat → Nat → Int} {S : Nat → Int} {b : Bool} (hp : T.getD p undef = .pointer (some ⟨g, 0, none⟩)) (hp2 : T.getD p2 undef = .pointer (some ⟨g2, 0, none⟩))
    (hq : T.getD q undef = .bool b) (hs : Sits W g 29 (vsC V)) (hs2 : Sits W g2 24 (arrC S)) : (results fn T).run Try.prog W = .ok (.tuple #[.agg (vsC V), arr S, .bool b]) W := by
  have hl := run_loadVar_row (P := Try.prog) W g 29 29 (vsC V) (0, 0) _ hs Try.underlying29 rfl (by rw [vsC_size]; exact vsSize)
  have hl2 := run_loadVar_row (P := Try.prog) W g2 24 24 (arrC S) (0, 0) _ hs2 Try.underlying24 rfl arrSize
  have hp' : T[p]?.getD undef = .pointer (some ⟨g, 0, none⟩) := by simpa using hp
  have hp2' : T[p2]?.getD undef = .pointer (some ⟨g2, 0, none⟩) := by simpa using hp2
  have hq' : T[q]?.getD undef = .bool b := by simpa using hq
  generalize hX : arrC S = X at hl2
  simp [results, h, hp', hp2', hq', asAddr, hl, hl2, ← hX]
def fenceOk (mo : Int) : Bool := decide (mo = 3) || decide (mo = 4) || decide (mo = 5) || decide (mo = 6)
def laterS (U : Nat → Nat → Int) (S : Nat → Int) : Nat → Int := fun i => maxF (flatF S) (U 0) (i + 4)
def scV (U : Nat → Nat → Int) (S : Nat → Int) : Nat → Nat → Int := fun k => maxF (U k) (flatF (laterS U S))
def fenceV (V : Nat → Nat → Int) (S : Nat → Int) (mo : Int) : Nat → Nat → Int := if mo = 3 then acqV V else if mo = 4 then relV V else if mo = 5 then relV (acqV V) else if mo = 6 then scV (relV (acqV V)) S else V
def fenceS (V : Nat → Nat → Int) (S : Nat → Int) (mo : Int) : Nat → Int := if mo = 6 then laterS (relV (acqV V)) S else S
set_option maxRecDepth 100000 in
set_option maxHeartbeats 4000000 in
theorem fence_any (V : Nat → Nat → Int) (S : Nat → Int) (mo : Int) (w : World) :
    Calls Try.prog 6 #[.agg (vsC V), .int .u8 mo, arr S] w (Made (.returned (.tuple #[.agg (vsC (fenceV V S mo)), arr (fenceS V S mo), .bool (fenceOk mo)])) w) := by
  have HB := Lib.hid (fnAt_new w V S)
  have en1 := acq_enters
  unfold EntersV at en1
  have en2 := rel_enters
  unfold EntersV at en2
  by_cases h3 : mo = 3
  ·
    subst h3
    have hv : Hid (fenceV V S 3 = acqV V) := Lib.hid rfl
    have hs : Hid (fenceS V S 3 = S) := Lib.hid rfl
    have hk : Hid (fenceOk 3 = true) := Lib.hid rfl
    go_enter Try.func6, Try.ntmps6
    go_upto_region 1 with (fail)
    generalize (((w.alloc (.cells (vsC V) 29)).alloc (.cells (arrC S) 24)).alloc (.cells zero48 29)).alloc (.cells zero4 24) = w0 at HB ⊢
    go_wp2_with fail
    refine (acq_any (V) _ _ HB.out.at3).mono ?_
    rintro e' w1 ⟨rfl, ho⟩
    have HB1 := Lib.hid (HB.out.one ho)
    clear ho HB
    go_upto_region 17 with (fail)
    refine wp_flowM [some 46, some 47, none, none, some 8] [2, 3] [0, 1, 0, 0, 2] [eqV (.agg (vsC (acqV V))), eqV (arr (S)), fun _ _ => True, fun _ _ => True, eqV (.bool true)] (fun j W => match j with | 0 => FnAt w (acqV V) (S) (zero48) (zero4) W | 1 => FnAt w (acqV V) (S) (vsC (acqV V)) (zero4) W | _ => FnAt w (acqV V) (S) (vsC (acqV V)) (arrC (S)) W) (by kernel_rfl) (by kernel_rfl) (by kernel_rfl) (by rfl)
      (by simp only [List.mem_cons, List.not_mem_nil, or_false, forall_eq_or_imp, forall_eq]; refine ⟨?_, ?_, ?_, ?_, ?_⟩ <;> (first | exact eqV_monoB _ _ | exact rowB_mono _ _ _ _ | exact true_monoB _))
      (fun j W W' h hb => by rcases j with _ | _ | j <;> first | exact (FnAt.grown h hb)) (HB1.out) ?_ ?_ ?_
    · intro i o hi ho hc j A W hj hz hMj hk he
      simp only [List.length_cons, List.length_nil, Nat.zero_add, Nat.reduceAdd] at hi
      obtain rfl | rfl | rfl | rfl | rfl : i = 0 ∨ i = 1 ∨ i = 2 ∨ i = 3 ∨ i = 4 := by omega
      · obtain rfl : j = 0 := Nat.le_zero.1 hj
        have hMs : FnAt w (acqV V) (S) (zero48) (zero4) W := hMj
        injection ho with ho; subst ho
        refine .inl ⟨wanted_free rfl, ?_⟩
        have h3 : A.tmps[3]?.getD undef = .pointer (some ⟨w.heap.size, 0, none⟩) := hk 3 (by rfl)
        exact y_load (cs := vsC (acqV V)) rfl h3 (sits_range (hMs.at3)) Try.underlying29 rfl vsSize
      · have hj2 : j ≤ 1 := hj
        rcases j with _ | _ | j
        · have hMs : FnAt w (acqV V) (S) (zero48) (zero4) W := hMj
          injection ho with ho; subst ho
          refine .inl ⟨wanted_free rfl, ?_⟩
          have h5 : A.tmps[5]?.getD undef = .pointer (some ⟨w.heap.size + 1, 0, none⟩) := hk 5 (by rfl)
          have c0 := (hMs.at5).cell 0
          have c1 := (hMs.at5).cell 1
          have c2 := (hMs.at5).cell 2
          have c3 := (hMs.at5).cell 3
          go_simp
          exact ⟨rfl, Below.refl _ _⟩
        · have hMs : FnAt w (acqV V) (S) (vsC (acqV V)) (zero4) W := hMj
          injection ho with ho; subst ho
          refine .inl ⟨wanted_free rfl, ?_⟩
          have h5 : A.tmps[5]?.getD undef = .pointer (some ⟨w.heap.size + 1, 0, none⟩) := hk 5 (by rfl)
          have c0 := (hMs.at5).cell 0
          have c1 := (hMs.at5).cell 1
          have c2 := (hMs.at5).cell 2
          have c3 := (hMs.at5).cell 3
          go_simp
          exact ⟨rfl, Below.refl _ _⟩
        · omega
      · exact absurd hc (by decide)
      · exact absurd hc (by decide)
      · injection ho with ho; subst ho
        refine .inl ⟨wanted_free rfl, ?_⟩
        go_simp
        exact ⟨rfl, Below.refl _ _⟩
    · intro j i o hji ho A W hz hMj hk he
      rcases j with _ | _ | j
      · obtain rfl : 2 = i := Option.some.inj hji
        injection ho with ho; subst ho
        refine .inl ⟨wanted_free rfl, ?_⟩
        have hMs : FnAt w (acqV V) (S) (zero48) (zero4) W := hMj
        have h6 : A.tmps[6]?.getD undef = .pointer (some ⟨w.heap.size + 1 + 1, 0, none⟩) := hk 6 (by rfl)
        have h46 : A.tmps[46]?.getD undef = .agg (vsC (acqV V)) := he 0 (by kernel_rfl) (by rfl)
        exact y_store rfl h6 h46 hMs.at6 (by rw [vsC_size]; exact vsSize) (zero48_size.trans (vsC_size _).symm) (vsC_one _) (by have := HB1.out.grow; omega) (fun _ _ => trivial) (hMs.out _)
      · obtain rfl : 3 = i := Option.some.inj hji
        injection ho with ho; subst ho
        refine .inl ⟨wanted_free rfl, ?_⟩
        have hMs : FnAt w (acqV V) (S) (vsC (acqV V)) (zero4) W := hMj
        have h7 : A.tmps[7]?.getD undef = .pointer (some ⟨w.heap.size + 1 + 1 + 1, 0, none⟩) := hk 7 (by rfl)
        have h47 : A.tmps[47]?.getD undef = arr (S) := he 1 (by kernel_rfl) (by rfl)
        exact y_store (cells := arrC (S)) rfl h7 h47 hMs.at7 arrSize rfl (four_one _ _ _ _) (by have := HB1.out.grow; omega) (fun _ _ => trivial) (hMs.out2 _)
      · simp at hji
    · intro xs W hz hMe hV
      have hMe : FnAt w (acqV V) (S) (vsC (acqV V)) (arrC (S)) W := hMe
      have e8 : xs 4 = .bool true := hV 4 (by simp) rfl
      simp only [putM, Act.put, List.setIfInBounds_toArray, List.set_cons_zero, List.set_cons_succ, Nat.zero_add, Nat.reduceAdd, e8]
      clear hV e8
      generalize W = W4 at hMe ⊢
      have HY := Lib.hid hMe
      clear hMe hz HB1
      go_wp2_with fail
      exact bodyPost_ret (v := .tuple #[.agg (vsC (acqV V)), arr (S), .bool true]) (result_sab Try.results6 rfl rfl rfl HY.out.at6 HY.out.at7) rfl ⟨by rw [hv.out, hs.out, hk.out], HY.out.low⟩
  by_cases h4 : mo = 4
  ·
    subst h4
    clear h3
    have hv : Hid (fenceV V S 4 = relV V) := Lib.hid rfl
    have hs : Hid (fenceS V S 4 = S) := Lib.hid rfl
    have hk : Hid (fenceOk 4 = true) := Lib.hid rfl
    go_enter Try.func6, Try.ntmps6
    go_upto_region 1 with (fail)
    generalize (((w.alloc (.cells (vsC V) 29)).alloc (.cells (arrC S) 24)).alloc (.cells zero48 29)).alloc (.cells zero4 24) = w0 at HB ⊢
    go_wp2_with fail
    refine (rel_any (V) _ _ HB.out.at3).mono ?_
    rintro e' w1 ⟨rfl, ho⟩
    have HB1 := Lib.hid (HB.out.one ho)
    clear ho HB
    go_upto_region 17 with (fail)
    refine wp_flowM [some 46, some 47, none, none, some 8] [2, 3] [0, 1, 0, 0, 2] [eqV (.agg (vsC (relV V))), eqV (arr (S)), fun _ _ => True, fun _ _ => True, eqV (.bool true)] (fun j W => match j with | 0 => FnAt w (relV V) (S) (zero48) (zero4) W | 1 => FnAt w (relV V) (S) (vsC (relV V)) (zero4) W | _ => FnAt w (relV V) (S) (vsC (relV V)) (arrC (S)) W) (by kernel_rfl) (by kernel_rfl) (by kernel_rfl) (by rfl)
      (by simp only [List.mem_cons, List.not_mem_nil, or_false, forall_eq_or_imp, forall_eq]; refine ⟨?_, ?_, ?_, ?_, ?_⟩ <;> (first | exact eqV_monoB _ _ | exact rowB_mono _ _ _ _ | exact true_monoB _))
      (fun j W W' h hb => by rcases j with _ | _ | j <;> first | exact (FnAt.grown h hb)) (HB1.out) ?_ ?_ ?_
    · intro i o hi ho hc j A W hj hz hMj hk he
      simp only [List.length_cons, List.length_nil, Nat.zero_add, Nat.reduceAdd] at hi
      obtain rfl | rfl | rfl | rfl | rfl : i = 0 ∨ i = 1 ∨ i = 2 ∨ i = 3 ∨ i = 4 := by omega
      · obtain rfl : j = 0 := Nat.le_zero.1 hj
        have hMs : FnAt w (relV V) (S) (zero48) (zero4) W := hMj
        injection ho with ho; subst ho
        refine .inl ⟨wanted_free rfl, ?_⟩
        have h3 : A.tmps[3]?.getD undef = .pointer (some ⟨w.heap.size, 0, none⟩) := hk 3 (by rfl)
        exact y_load (cs := vsC (relV V)) rfl h3 (sits_range (hMs.at3)) Try.underlying29 rfl vsSize
      · have hj2 : j ≤ 1 := hj
        rcases j with _ | _ | j
        · have hMs : FnAt w (relV V) (S) (zero48) (zero4) W := hMj
          injection ho with ho; subst ho
          refine .inl ⟨wanted_free rfl, ?_⟩
          have h5 : A.tmps[5]?.getD undef = .pointer (some ⟨w.heap.size + 1, 0, none⟩) := hk 5 (by rfl)
          have c0 := (hMs.at5).cell 0
          have c1 := (hMs.at5).cell 1
          have c2 := (hMs.at5).cell 2
          have c3 := (hMs.at5).cell 3
          go_simp
          exact ⟨rfl, Below.refl _ _⟩
        · have hMs : FnAt w (relV V) (S) (vsC (relV V)) (zero4) W := hMj
          injection ho with ho; subst ho
          refine .inl ⟨wanted_free rfl, ?_⟩
          have h5 : A.tmps[5]?.getD undef = .pointer (some ⟨w.heap.size + 1, 0, none⟩) := hk 5 (by rfl)
          have c0 := (hMs.at5).cell 0
          have c1 := (hMs.at5).cell 1
          have c2 := (hMs.at5).cell 2
          have c3 := (hMs.at5).cell 3
          go_simp
          exact ⟨rfl, Below.refl _ _⟩
        · omega
      · exact absurd hc (by decide)
      · exact absurd hc (by decide)
      · injection ho with ho; subst ho
        refine .inl ⟨wanted_free rfl, ?_⟩
        go_simp
        exact ⟨rfl, Below.refl _ _⟩
    · intro j i o hji ho A W hz hMj hk he
      rcases j with _ | _ | j
      · obtain rfl : 2 = i := Option.some.inj hji
        injection ho with ho; subst ho
        refine .inl ⟨wanted_free rfl, ?_⟩
        have hMs : FnAt w (relV V) (S) (zero48) (zero4) W := hMj
        have h6 : A.tmps[6]?.getD undef = .pointer (some ⟨w.heap.size + 1 + 1, 0, none⟩) := hk 6 (by rfl)
        have h46 : A.tmps[46]?.getD undef = .agg (vsC (relV V)) := he 0 (by kernel_rfl) (by rfl)
        exact y_store rfl h6 h46 hMs.at6 (by rw [vsC_size]; exact vsSize) (zero48_size.trans (vsC_size _).symm) (vsC_one _) (by have := HB1.out.grow; omega) (fun _ _ => trivial) (hMs.out _)
      · obtain rfl : 3 = i := Option.some.inj hji
        injection ho with ho; subst ho
        refine .inl ⟨wanted_free rfl, ?_⟩
        have hMs : FnAt w (relV V) (S) (vsC (relV V)) (zero4) W := hMj
        have h7 : A.tmps[7]?.getD undef = .pointer (some ⟨w.heap.size + 1 + 1 + 1, 0, none⟩) := hk 7 (by rfl)
        have h47 : A.tmps[47]?.getD undef = arr (S) := he 1 (by kernel_rfl) (by rfl)
        exact y_store (cells := arrC (S)) rfl h7 h47 hMs.at7 arrSize rfl (four_one _ _ _ _) (by have := HB1.out.grow; omega) (fun _ _ => trivial) (hMs.out2 _)
      · simp at hji
    · intro xs W hz hMe hV
      have hMe : FnAt w (relV V) (S) (vsC (relV V)) (arrC (S)) W := hMe
      have e8 : xs 4 = .bool true := hV 4 (by simp) rfl
      simp only [putM, Act.put, List.setIfInBounds_toArray, List.set_cons_zero, List.set_cons_succ, Nat.zero_add, Nat.reduceAdd, e8]
      clear hV e8
      generalize W = W4 at hMe ⊢
      have HY := Lib.hid hMe
      clear hMe hz HB1
      go_wp2_with fail
      exact bodyPost_ret (v := .tuple #[.agg (vsC (relV V)), arr (S), .bool true]) (result_sab Try.results6 rfl rfl rfl HY.out.at6 HY.out.at7) rfl ⟨by rw [hv.out, hs.out, hk.out], HY.out.low⟩
  by_cases h5 : mo = 5
  ·
    subst h5
    clear h3 h4
    have hv : Hid (fenceV V S 5 = relV (acqV V)) := Lib.hid rfl
    have hs : Hid (fenceS V S 5 = S) := Lib.hid rfl
    have hk : Hid (fenceOk 5 = true) := Lib.hid rfl
    go_enter Try.func6, Try.ntmps6
    go_upto_region 1 with (fail)
    generalize (((w.alloc (.cells (vsC V) 29)).alloc (.cells (arrC S) 24)).alloc (.cells zero48 29)).alloc (.cells zero4 24) = w0 at HB ⊢
    go_wp2_with fail
    refine (acq_any (V) _ _ HB.out.at3).mono ?_
    rintro e' w1 ⟨rfl, ho⟩
    have HB1 := Lib.hid (HB.out.one ho)
    clear ho HB
    go_wp2_with fail
    refine (rel_any (acqV V) _ _ HB1.out.at3).mono ?_
    rintro e' w2 ⟨rfl, ho⟩
    have HB2 := Lib.hid (HB1.out.one ho)
    clear ho HB1
    go_upto_region 17 with (fail)
    refine wp_flowM [some 46, some 47, none, none, some 8] [2, 3] [0, 1, 0, 0, 2] [eqV (.agg (vsC (relV (acqV V)))), eqV (arr (S)), fun _ _ => True, fun _ _ => True, eqV (.bool true)] (fun j W => match j with | 0 => FnAt w (relV (acqV V)) (S) (zero48) (zero4) W | 1 => FnAt w (relV (acqV V)) (S) (vsC (relV (acqV V))) (zero4) W | _ => FnAt w (relV (acqV V)) (S) (vsC (relV (acqV V))) (arrC (S)) W) (by kernel_rfl) (by kernel_rfl) (by kernel_rfl) (by rfl)
      (by simp only [List.mem_cons, List.not_mem_nil, or_false, forall_eq_or_imp, forall_eq]; refine ⟨?_, ?_, ?_, ?_, ?_⟩ <;> (first | exact eqV_monoB _ _ | exact rowB_mono _ _ _ _ | exact true_monoB _))
      (fun j W W' h hb => by rcases j with _ | _ | j <;> first | exact (FnAt.grown h hb)) (HB2.out) ?_ ?_ ?_
    · intro i o hi ho hc j A W hj hz hMj hk he
      simp only [List.length_cons, List.length_nil, Nat.zero_add, Nat.reduceAdd] at hi
      obtain rfl | rfl | rfl | rfl | rfl : i = 0 ∨ i = 1 ∨ i = 2 ∨ i = 3 ∨ i = 4 := by omega
      · obtain rfl : j = 0 := Nat.le_zero.1 hj
        have hMs : FnAt w (relV (acqV V)) (S) (zero48) (zero4) W := hMj
        injection ho with ho; subst ho
        refine .inl ⟨wanted_free rfl, ?_⟩
        have h3 : A.tmps[3]?.getD undef = .pointer (some ⟨w.heap.size, 0, none⟩) := hk 3 (by rfl)
        exact y_load (cs := vsC (relV (acqV V))) rfl h3 (sits_range (hMs.at3)) Try.underlying29 rfl vsSize
      · have hj2 : j ≤ 1 := hj
        rcases j with _ | _ | j
        · have hMs : FnAt w (relV (acqV V)) (S) (zero48) (zero4) W := hMj
          injection ho with ho; subst ho
          refine .inl ⟨wanted_free rfl, ?_⟩
          have h5 : A.tmps[5]?.getD undef = .pointer (some ⟨w.heap.size + 1, 0, none⟩) := hk 5 (by rfl)
          have c0 := (hMs.at5).cell 0
          have c1 := (hMs.at5).cell 1
          have c2 := (hMs.at5).cell 2
          have c3 := (hMs.at5).cell 3
          go_simp
          exact ⟨rfl, Below.refl _ _⟩
        · have hMs : FnAt w (relV (acqV V)) (S) (vsC (relV (acqV V))) (zero4) W := hMj
          injection ho with ho; subst ho
          refine .inl ⟨wanted_free rfl, ?_⟩
          have h5 : A.tmps[5]?.getD undef = .pointer (some ⟨w.heap.size + 1, 0, none⟩) := hk 5 (by rfl)
          have c0 := (hMs.at5).cell 0
          have c1 := (hMs.at5).cell 1
          have c2 := (hMs.at5).cell 2
          have c3 := (hMs.at5).cell 3
          go_simp
          exact ⟨rfl, Below.refl _ _⟩
        · omega
      · exact absurd hc (by decide)
      · exact absurd hc (by decide)
      · injection ho with ho; subst ho
        refine .inl ⟨wanted_free rfl, ?_⟩
        go_simp
        exact ⟨rfl, Below.refl _ _⟩
    · intro j i o hji ho A W hz hMj hk he
      rcases j with _ | _ | j
      · obtain rfl : 2 = i := Option.some.inj hji
        injection ho with ho; subst ho
        refine .inl ⟨wanted_free rfl, ?_⟩
        have hMs : FnAt w (relV (acqV V)) (S) (zero48) (zero4) W := hMj
        have h6 : A.tmps[6]?.getD undef = .pointer (some ⟨w.heap.size + 1 + 1, 0, none⟩) := hk 6 (by rfl)
        have h46 : A.tmps[46]?.getD undef = .agg (vsC (relV (acqV V))) := he 0 (by kernel_rfl) (by rfl)
        exact y_store rfl h6 h46 hMs.at6 (by rw [vsC_size]; exact vsSize) (zero48_size.trans (vsC_size _).symm) (vsC_one _) (by have := HB2.out.grow; omega) (fun _ _ => trivial) (hMs.out _)
      · obtain rfl : 3 = i := Option.some.inj hji
        injection ho with ho; subst ho
        refine .inl ⟨wanted_free rfl, ?_⟩
        have hMs : FnAt w (relV (acqV V)) (S) (vsC (relV (acqV V))) (zero4) W := hMj
        have h7 : A.tmps[7]?.getD undef = .pointer (some ⟨w.heap.size + 1 + 1 + 1, 0, none⟩) := hk 7 (by rfl)
        have h47 : A.tmps[47]?.getD undef = arr (S) := he 1 (by kernel_rfl) (by rfl)
        exact y_store (cells := arrC (S)) rfl h7 h47 hMs.at7 arrSize rfl (four_one _ _ _ _) (by have := HB2.out.grow; omega) (fun _ _ => trivial) (hMs.out2 _)
      · simp at hji
    · intro xs W hz hMe hV
      have hMe : FnAt w (relV (acqV V)) (S) (vsC (relV (acqV V))) (arrC (S)) W := hMe
      have e8 : xs 4 = .bool true := hV 4 (by simp) rfl
      simp only [putM, Act.put, List.setIfInBounds_toArray, List.set_cons_zero, List.set_cons_succ, Nat.zero_add, Nat.reduceAdd, e8]
      clear hV e8
      generalize W = W4 at hMe ⊢
      have HY := Lib.hid hMe
      clear hMe hz HB2
      go_wp2_with fail
      exact bodyPost_ret (v := .tuple #[.agg (vsC (relV (acqV V))), arr (S), .bool true]) (result_sab Try.results6 rfl rfl rfl HY.out.at6 HY.out.at7) rfl ⟨by rw [hv.out, hs.out, hk.out], HY.out.low⟩
  by_cases h6 : mo = 6
  ·
    subst h6
    clear h3 h4 h5
    have hv : Hid (fenceV V S 6 = scV (relV (acqV V)) S) := Lib.hid rfl
    have hs : Hid (fenceS V S 6 = laterS (relV (acqV V)) S) := Lib.hid rfl
    have hk : Hid (fenceOk 6 = true) := Lib.hid rfl
    go_enter Try.func6, Try.ntmps6
    go_upto_region 1 with (fail)
    generalize (((w.alloc (.cells (vsC V) 29)).alloc (.cells (arrC S) 24)).alloc (.cells zero48 29)).alloc (.cells zero4 24) = w0 at HB ⊢
    go_wp2_with fail
    refine (acq_any (V) _ _ HB.out.at3).mono ?_
    rintro e' w1 ⟨rfl, ho⟩
    have HB1 := Lib.hid (HB.out.one ho)
    clear ho HB
    go_wp2_with fail
    refine (rel_any (acqV V) _ _ HB1.out.at3).mono ?_
    rintro e' w2 ⟨rfl, ho⟩
    have HB2 := Lib.hid (HB1.out.one ho)
    clear ho HB1
    go_upto_region 15 with (fail)
    refine wp_flowG [36, 37, 38, 39, 40, 41, 42] [eqV (arr S), eqV (.agg (vwC (flatF S))), eqV (.pointer (some ⟨w.heap.size, 0, none⟩)), eqV (.agg (vwC ((relV (acqV V)) 0))), rowV 26 1 (vwC ((relV (acqV V)) 0)), eqV (.agg (vwC (maxF (flatF S) ((relV (acqV V)) 0)))), eqV (arr (laterS (relV (acqV V)) S))] (by kernel_rfl) (by kernel_rfl) (by kernel_rfl) (by kernel_rfl) (by rfl)
      (by simp only [List.mem_cons, List.not_mem_nil, or_false, forall_eq_or_imp, forall_eq]; refine ⟨?_, ?_, ?_, ?_, ?_, ?_, ?_⟩ <;> (first | exact eqV_mono _ | exact rowV_mono _ _ _)) ?_ ?_
    · intro i o hi ho A W hW hk he
      simp only [List.length_cons, List.length_nil, Nat.zero_add, Nat.reduceAdd] at hi
      obtain rfl | rfl | rfl | rfl | rfl | rfl | rfl : i = 0 ∨ i = 1 ∨ i = 2 ∨ i = 3 ∨ i = 4 ∨ i = 5 ∨ i = 6 := by omega
      · injection ho with ho; subst ho
        refine .inl ⟨wanted_free rfl, ?_⟩
        have h5 : A.tmps[5]?.getD undef = .pointer (some ⟨w.heap.size + 1, 0, none⟩) := hk 5 (by rfl)
        have c0 := ((HB2.out.grown hW).at5).cell 0
        have c1 := ((HB2.out.grown hW).at5).cell 1
        have c2 := ((HB2.out.grown hW).at5).cell 2
        have c3 := ((HB2.out.grown hW).at5).cell 3
        go_simp
        exact ⟨rfl, Below.refl _ _⟩
      · injection ho with ho; subst ho
        refine .inl ⟨wanted_free rfl, ?_⟩
        have h36 : A.tmps[36]?.getD undef = arr S := he 0 (by kernel_rfl)
        go_simp
        refine Calls.mono (flat_v S W) ?_
        rintro e' w' ⟨rfl, hb⟩
        exact ⟨_, rfl, rfl, hb⟩
      · injection ho with ho; subst ho
        refine .inl ⟨wanted_free rfl, ?_⟩
        have h3 : A.tmps[3]?.getD undef = .pointer (some ⟨w.heap.size, 0, none⟩) := hk 3 (by rfl)
        go_simp
        exact ⟨rfl, Below.refl _ _⟩
      · injection ho with ho; subst ho
        refine .inl ⟨wanted_free rfl, ?_⟩
        have h38 : A.tmps[38]?.getD undef = .pointer (some ⟨w.heap.size, 0, none⟩) := he 2 (by kernel_rfl)
        exact y_load (cs := vwC ((relV (acqV V)) 0)) rfl h38 (vs_range (V := relV (acqV V)) ((HB2.out.grown hW).at3) (0) _ (by omega) rfl) Try.underlying26 rfl vewSize
      · injection ho with ho; subst ho
        refine .inl ⟨wanted_free rfl, ?_⟩
        have h39 : A.tmps[39]?.getD undef = .agg (vwC ((relV (acqV V)) 0)) := he 3 (by kernel_rfl)
        exact y_one rfl h39
      · injection ho with ho; subst ho
        refine .inl ⟨wanted_free rfl, ?_⟩
        have h37 : A.tmps[37]?.getD undef = .agg (vwC (flatF S)) := he 1 (by kernel_rfl)
        obtain ⟨gr40, h40, hr40⟩ : rowV 26 1 (vwC ((relV (acqV V)) 0)) (A.tmps[40]?.getD undef) W := he 4 (by kernel_rfl)
        go_simp
        refine Calls.mono (join_v (flatF S) ((relV (acqV V)) 0) gr40 _ W hr40) ?_
        rintro e' w' ⟨rfl, hb⟩
        exact ⟨_, rfl, rfl, hb⟩
      · injection ho with ho; subst ho
        refine .inl ⟨wanted_free rfl, ?_⟩
        have h41 : A.tmps[41]?.getD undef = vewV (maxF (flatF S) ((relV (acqV V)) 0)) := he 5 (by kernel_rfl)
        go_simp
        exact ⟨rfl, Below.refl _ _⟩
    · intro xs W hW hV
      have e42 : xs 6 = arr (laterS (relV (acqV V)) S) := hV 6 (by simp)
      simp only [List.length_cons, List.length_nil, Nat.zero_add, Nat.reduceAdd, List.drop_succ_cons, List.drop_zero, putL, Act.put, List.setIfInBounds_toArray, List.set_cons_zero, List.set_cons_succ, e42]
      clear hV e42
      have HT := Lib.hid ((HB2.out.grown hW).times (laterS (relV (acqV V)) S))
      refine wpList_store_row rfl 24 _ _ rfl (w.heap.size + 1) (arrC (laterS (relV (acqV V)) S)) rfl rfl 24 _ (HB2.out.grown hW).at5 arrSize rfl (four_one _ _ _ _) ?_
      generalize W.setRow (w.heap.size + 1) (arrC (laterS (relV (acqV V)) S)) = X1 at HT ⊢
      clear hW HB2
      go_upto_region 16 with (fail)
      have HC : Hid (∀ W, FnAt w (relV (acqV V)) (laterS (relV (acqV V)) S) zero48 zero4 W → Calls Try.prog 24 #[.agg (vsC (relV (acqV V))), .func (.func 25) #[] #[.pointer (some ⟨w.heap.size + 1, 0, none⟩)]] W (Made (.returned (.agg (vsC (scV (relV (acqV V)) S)))) W)) :=
        Lib.hid (fun W h => each_pure (φ := fun f => maxF f (flatF (laterS (relV (acqV V)) S))) W with1_enters (relV (acqV V)) fun w2 f hb => with1_any f (laterS (relV (acqV V)) S) (w.heap.size + 1) w2 (h.at5.below hb h.at5.lt))
      refine wp_flowQ [43, 44, 45] [eqV (.agg (vsC (relV (acqV V)))), eqV (.func (.func 25) #[] #[.pointer (some ⟨w.heap.size + 1, 0, none⟩)]), eqV (.agg (vsC (scV (relV (acqV V)) S)))] (by kernel_rfl) (by kernel_rfl) (by kernel_rfl) (by kernel_rfl) (by rfl)
        (by simp only [List.mem_cons, List.not_mem_nil, or_false, forall_eq_or_imp, forall_eq]; refine ⟨?_, ?_, ?_⟩ <;> (first | exact eqV_mono _ | exact rowV_mono _ _ _)) ?_ ?_
      · intro i o hi ho A W hW hk he
        simp only [List.length_cons, List.length_nil, Nat.zero_add, Nat.reduceAdd] at hi
        obtain rfl | rfl | rfl : i = 0 ∨ i = 1 ∨ i = 2 := by omega
        · injection ho with ho; subst ho
          refine .inl ⟨wanted_free rfl, ?_⟩
          have h3 : A.tmps[3]?.getD undef = .pointer (some ⟨w.heap.size, 0, none⟩) := hk 3 (by rfl)
          exact y_load (cs := vsC (relV (acqV V))) rfl h3 (sits_range ((HT.out.grown hW).at3)) Try.underlying29 rfl vsSize
        · injection ho with ho; subst ho
          refine .inl ⟨wanted_free rfl, ?_⟩
          have h5 : A.tmps[5]?.getD undef = .pointer (some ⟨w.heap.size + 1, 0, none⟩) := hk 5 (by rfl)
          go_simp
          exact ⟨rfl, Below.refl _ _⟩
        · injection ho with ho; subst ho
          refine .inl ⟨wanted_free rfl, ?_⟩
          have h43 : A.tmps[43]?.getD undef = .agg (vsC (relV (acqV V))) := he 0 (by kernel_rfl)
          have h44 : A.tmps[44]?.getD undef = .func (.func 25) #[] #[.pointer (some ⟨w.heap.size + 1, 0, none⟩)] := he 1 (by kernel_rfl)
          go_simp
          refine Calls.mono (HC.out W (HT.out.grown hW)) ?_
          rintro e' w' ⟨rfl, hb⟩
          exact ⟨_, rfl, rfl, hb⟩
      · intro xs W hW hV
        have e45 : xs 2 = .agg (vsC (scV (relV (acqV V)) S)) := hV 2 (by simp)
        simp only [List.length_cons, List.length_nil, Nat.zero_add, Nat.reduceAdd, List.drop_succ_cons, List.drop_zero, putL, Act.put, List.setIfInBounds_toArray, List.set_cons_zero, List.set_cons_succ, e45]
        clear hV e45
        have HZ := Lib.hid ((HT.out.grown hW).all (scV (relV (acqV V)) S))
        refine wpList_store_row rfl 29 _ _ rfl w.heap.size (vsC (scV (relV (acqV V)) S)) rfl rfl 29 _ (HT.out.grown hW).at3 (by rw [vsC_size]; exact vsSize) (by rw [vsC_size, vsC_size]) (vsC_one _) ?_
        generalize W.setRow w.heap.size (vsC (scV (relV (acqV V)) S)) = X2 at HZ ⊢
        clear hW HT HC
        go_upto_region 17 with (fail)
        refine wp_flowM [some 46, some 47, none, none, some 8] [2, 3] [0, 1, 0, 0, 2] [eqV (.agg (vsC (scV (relV (acqV V)) S))), eqV (arr (laterS (relV (acqV V)) S)), fun _ _ => True, fun _ _ => True, eqV (.bool true)] (fun j W => match j with | 0 => FnAt w (scV (relV (acqV V)) S) (laterS (relV (acqV V)) S) (zero48) (zero4) W | 1 => FnAt w (scV (relV (acqV V)) S) (laterS (relV (acqV V)) S) (vsC (scV (relV (acqV V)) S)) (zero4) W | _ => FnAt w (scV (relV (acqV V)) S) (laterS (relV (acqV V)) S) (vsC (scV (relV (acqV V)) S)) (arrC (laterS (relV (acqV V)) S)) W) (by kernel_rfl) (by kernel_rfl) (by kernel_rfl) (by rfl)
          (by simp only [List.mem_cons, List.not_mem_nil, or_false, forall_eq_or_imp, forall_eq]; refine ⟨?_, ?_, ?_, ?_, ?_⟩ <;> (first | exact eqV_monoB _ _ | exact rowB_mono _ _ _ _ | exact true_monoB _))
          (fun j W W' h hb => by rcases j with _ | _ | j <;> first | exact (FnAt.grown h hb)) (HZ.out) ?_ ?_ ?_
        · intro i o hi ho hc j A W hj hz hMj hk he
          simp only [List.length_cons, List.length_nil, Nat.zero_add, Nat.reduceAdd] at hi
          obtain rfl | rfl | rfl | rfl | rfl : i = 0 ∨ i = 1 ∨ i = 2 ∨ i = 3 ∨ i = 4 := by omega
          · obtain rfl : j = 0 := Nat.le_zero.1 hj
            have hMs : FnAt w (scV (relV (acqV V)) S) (laterS (relV (acqV V)) S) (zero48) (zero4) W := hMj
            injection ho with ho; subst ho
            refine .inl ⟨wanted_free rfl, ?_⟩
            have h3 : A.tmps[3]?.getD undef = .pointer (some ⟨w.heap.size, 0, none⟩) := hk 3 (by rfl)
            exact y_load (cs := vsC (scV (relV (acqV V)) S)) rfl h3 (sits_range (hMs.at3)) Try.underlying29 rfl vsSize
          · have hj2 : j ≤ 1 := hj
            rcases j with _ | _ | j
            · have hMs : FnAt w (scV (relV (acqV V)) S) (laterS (relV (acqV V)) S) (zero48) (zero4) W := hMj
              injection ho with ho; subst ho
              refine .inl ⟨wanted_free rfl, ?_⟩
              have h5 : A.tmps[5]?.getD undef = .pointer (some ⟨w.heap.size + 1, 0, none⟩) := hk 5 (by rfl)
              have c0 := (hMs.at5).cell 0
              have c1 := (hMs.at5).cell 1
              have c2 := (hMs.at5).cell 2
              have c3 := (hMs.at5).cell 3
              go_simp
              exact ⟨rfl, Below.refl _ _⟩
            · have hMs : FnAt w (scV (relV (acqV V)) S) (laterS (relV (acqV V)) S) (vsC (scV (relV (acqV V)) S)) (zero4) W := hMj
              injection ho with ho; subst ho
              refine .inl ⟨wanted_free rfl, ?_⟩
              have h5 : A.tmps[5]?.getD undef = .pointer (some ⟨w.heap.size + 1, 0, none⟩) := hk 5 (by rfl)
              have c0 := (hMs.at5).cell 0
              have c1 := (hMs.at5).cell 1
              have c2 := (hMs.at5).cell 2
              have c3 := (hMs.at5).cell 3
              go_simp
              exact ⟨rfl, Below.refl _ _⟩
            · omega
          · exact absurd hc (by decide)
          · exact absurd hc (by decide)
          · injection ho with ho; subst ho
            refine .inl ⟨wanted_free rfl, ?_⟩
            go_simp
            exact ⟨rfl, Below.refl _ _⟩
        · intro j i o hji ho A W hz hMj hk he
          rcases j with _ | _ | j
          · obtain rfl : 2 = i := Option.some.inj hji
            injection ho with ho; subst ho
            refine .inl ⟨wanted_free rfl, ?_⟩
            have hMs : FnAt w (scV (relV (acqV V)) S) (laterS (relV (acqV V)) S) (zero48) (zero4) W := hMj
            have h6 : A.tmps[6]?.getD undef = .pointer (some ⟨w.heap.size + 1 + 1, 0, none⟩) := hk 6 (by rfl)
            have h46 : A.tmps[46]?.getD undef = .agg (vsC (scV (relV (acqV V)) S)) := he 0 (by kernel_rfl) (by rfl)
            exact y_store rfl h6 h46 hMs.at6 (by rw [vsC_size]; exact vsSize) (zero48_size.trans (vsC_size _).symm) (vsC_one _) (by have := HZ.out.grow; omega) (fun _ _ => trivial) (hMs.out _)
          · obtain rfl : 3 = i := Option.some.inj hji
            injection ho with ho; subst ho
            refine .inl ⟨wanted_free rfl, ?_⟩
            have hMs : FnAt w (scV (relV (acqV V)) S) (laterS (relV (acqV V)) S) (vsC (scV (relV (acqV V)) S)) (zero4) W := hMj
            have h7 : A.tmps[7]?.getD undef = .pointer (some ⟨w.heap.size + 1 + 1 + 1, 0, none⟩) := hk 7 (by rfl)
            have h47 : A.tmps[47]?.getD undef = arr (laterS (relV (acqV V)) S) := he 1 (by kernel_rfl) (by rfl)
            exact y_store (cells := arrC (laterS (relV (acqV V)) S)) rfl h7 h47 hMs.at7 arrSize rfl (four_one _ _ _ _) (by have := HZ.out.grow; omega) (fun _ _ => trivial) (hMs.out2 _)
          · simp at hji
        · intro xs W hz hMe hV
          have hMe : FnAt w (scV (relV (acqV V)) S) (laterS (relV (acqV V)) S) (vsC (scV (relV (acqV V)) S)) (arrC (laterS (relV (acqV V)) S)) W := hMe
          have e8 : xs 4 = .bool true := hV 4 (by simp) rfl
          simp only [putM, Act.put, List.setIfInBounds_toArray, List.set_cons_zero, List.set_cons_succ, Nat.zero_add, Nat.reduceAdd, e8]
          clear hV e8
          generalize W = W4 at hMe ⊢
          have HY := Lib.hid hMe
          clear hMe hz HZ
          go_wp2_with fail
          exact bodyPost_ret (v := .tuple #[.agg (vsC (scV (relV (acqV V)) S)), arr (laterS (relV (acqV V)) S), .bool true]) (result_sab Try.results6 rfl rfl rfl HY.out.at6 HY.out.at7) rfl ⟨by rw [hv.out, hs.out, hk.out], HY.out.low⟩
  have hv : Hid (fenceV V S mo = V) := Lib.hid (by unfold fenceV; simp [h3, h4, h5, h6])
  have hs : Hid (fenceS V S mo = S) := Lib.hid (by unfold fenceS; simp [h6])
  have hk : Hid (fenceOk mo = false) := Lib.hid (by unfold fenceOk; simp [h3, h4, h5, h6])
  have e3 : ((mo : Int) == 3) = false := by simpa using h3
  have e4 : ((mo : Int) == 4) = false := by simpa using h4
  have e5 : ((mo : Int) == 5) = false := by simpa using h5
  have e6 : ((mo : Int) == 6) = false := by simpa using h6
  clear h3 h4 h5 h6
  go_enter Try.func6, Try.ntmps6
  go_upto_region 1 with (fail)
  generalize (((w.alloc (.cells (vsC V) 29)).alloc (.cells (arrC S) 24)).alloc (.cells zero48 29)).alloc (.cells zero4 24) = w0 at HB ⊢
  go_upto_region 4 with (fail)
  refine wp_flowM [some 14, some 15, none, none, some 8] [2, 3] [0, 1, 0, 0, 2] [eqV (.agg (vsC (V))), eqV (arr (S)), fun _ _ => True, fun _ _ => True, eqV (.bool false)] (fun j W => match j with | 0 => FnAt w (V) (S) (zero48) (zero4) W | 1 => FnAt w (V) (S) (vsC (V)) (zero4) W | _ => FnAt w (V) (S) (vsC (V)) (arrC (S)) W) (by kernel_rfl) (by kernel_rfl) (by kernel_rfl) (by rfl)
    (by simp only [List.mem_cons, List.not_mem_nil, or_false, forall_eq_or_imp, forall_eq]; refine ⟨?_, ?_, ?_, ?_, ?_⟩ <;> (first | exact eqV_monoB _ _ | exact rowB_mono _ _ _ _ | exact true_monoB _))
    (fun j W W' h hb => by rcases j with _ | _ | j <;> first | exact (FnAt.grown h hb)) (HB.out) ?_ ?_ ?_
  · intro i o hi ho hc j A W hj hz hMj hk he
    simp only [List.length_cons, List.length_nil, Nat.zero_add, Nat.reduceAdd] at hi
    obtain rfl | rfl | rfl | rfl | rfl : i = 0 ∨ i = 1 ∨ i = 2 ∨ i = 3 ∨ i = 4 := by omega
    · obtain rfl : j = 0 := Nat.le_zero.1 hj
      have hMs : FnAt w (V) (S) (zero48) (zero4) W := hMj
      injection ho with ho; subst ho
      refine .inl ⟨wanted_free rfl, ?_⟩
      have h3 : A.tmps[3]?.getD undef = .pointer (some ⟨w.heap.size, 0, none⟩) := hk 3 (by rfl)
      exact y_load (cs := vsC (V)) rfl h3 (sits_range (hMs.at3)) Try.underlying29 rfl vsSize
    · have hj2 : j ≤ 1 := hj
      rcases j with _ | _ | j
      · have hMs : FnAt w (V) (S) (zero48) (zero4) W := hMj
        injection ho with ho; subst ho
        refine .inl ⟨wanted_free rfl, ?_⟩
        have h5 : A.tmps[5]?.getD undef = .pointer (some ⟨w.heap.size + 1, 0, none⟩) := hk 5 (by rfl)
        have c0 := (hMs.at5).cell 0
        have c1 := (hMs.at5).cell 1
        have c2 := (hMs.at5).cell 2
        have c3 := (hMs.at5).cell 3
        go_simp
        exact ⟨rfl, Below.refl _ _⟩
      · have hMs : FnAt w (V) (S) (vsC (V)) (zero4) W := hMj
        injection ho with ho; subst ho
        refine .inl ⟨wanted_free rfl, ?_⟩
        have h5 : A.tmps[5]?.getD undef = .pointer (some ⟨w.heap.size + 1, 0, none⟩) := hk 5 (by rfl)
        have c0 := (hMs.at5).cell 0
        have c1 := (hMs.at5).cell 1
        have c2 := (hMs.at5).cell 2
        have c3 := (hMs.at5).cell 3
        go_simp
        exact ⟨rfl, Below.refl _ _⟩
      · omega
    · exact absurd hc (by decide)
    · exact absurd hc (by decide)
    · injection ho with ho; subst ho
      refine .inl ⟨wanted_free rfl, ?_⟩
      go_simp
      exact ⟨rfl, Below.refl _ _⟩
  · intro j i o hji ho A W hz hMj hk he
    rcases j with _ | _ | j
    · obtain rfl : 2 = i := Option.some.inj hji
      injection ho with ho; subst ho
      refine .inl ⟨wanted_free rfl, ?_⟩
      have hMs : FnAt w (V) (S) (zero48) (zero4) W := hMj
      have h6 : A.tmps[6]?.getD undef = .pointer (some ⟨w.heap.size + 1 + 1, 0, none⟩) := hk 6 (by rfl)
      have h14 : A.tmps[14]?.getD undef = .agg (vsC (V)) := he 0 (by kernel_rfl) (by rfl)
      exact y_store rfl h6 h14 hMs.at6 (by rw [vsC_size]; exact vsSize) (zero48_size.trans (vsC_size _).symm) (vsC_one _) (by have := HB.out.grow; omega) (fun _ _ => trivial) (hMs.out _)
    · obtain rfl : 3 = i := Option.some.inj hji
      injection ho with ho; subst ho
      refine .inl ⟨wanted_free rfl, ?_⟩
      have hMs : FnAt w (V) (S) (vsC (V)) (zero4) W := hMj
      have h7 : A.tmps[7]?.getD undef = .pointer (some ⟨w.heap.size + 1 + 1 + 1, 0, none⟩) := hk 7 (by rfl)
      have h15 : A.tmps[15]?.getD undef = arr (S) := he 1 (by kernel_rfl) (by rfl)
      exact y_store (cells := arrC (S)) rfl h7 h15 hMs.at7 arrSize rfl (four_one _ _ _ _) (by have := HB.out.grow; omega) (fun _ _ => trivial) (hMs.out2 _)
    · simp at hji
  · intro xs W hz hMe hV
    have hMe : FnAt w (V) (S) (vsC (V)) (arrC (S)) W := hMe
    have e8 : xs 4 = .bool false := hV 4 (by simp) rfl
    simp only [putM, Act.put, List.setIfInBounds_toArray, List.set_cons_zero, List.set_cons_succ, Nat.zero_add, Nat.reduceAdd, e8]
    clear hV e8
    generalize W = W4 at hMe ⊢
    have HY := Lib.hid hMe
    clear hMe hz HB
    go_wp2_with fail
    exact bodyPost_ret (v := .tuple #[.agg (vsC (V)), arr (S), .bool false]) (result_sab Try.results6 rfl rfl rfl HY.out.at6 HY.out.at7) rfl ⟨by rw [hv.out, hs.out, hk.out], HY.out.low⟩
end Go.Proofs.Ytanbkclomjbokaa.Tvw
