/- Layer 13 (tview): wakes. -/
import Derived.Test.YtanbkclomjbokaaTvwH
import Derived.Test.YtanbkclomjbokaaFlowP
namespace Go.Proofs.Ytanbkclomjbokaa.Tvw
open Go.RowKit Go.Proofs.Ytanbkclomjbokaa.Mem Go.Proofs.Ytanbkclomjbokaa.Flow Go.Proofs.Ytanbkclomjbokaa.Vew

/-- Blocks of one's own that are known whole, and memory has only grown. -/
structure Bs (w : World) (l : List (Nat × TypeId × Array Value)) (W : World) : Prop where
  sits : ∀ p, p ∈ l → Sits W p.1 p.2.1 p.2.2
  low : Below w.heap.size w W
section
variable {w W W' : World} {l : List (Nat × TypeId × Array Value)}
theorem Bs.grown (h : Bs w l W) (hb : Below W.heap.size W W') : Bs w l W' := ⟨fun p hp => (h.sits p hp).below hb (h.sits p hp).lt, h.low.trans (hb.mono h.low.size)⟩
theorem Bs.get (h : Bs w l W) {g : Nat} {t : TypeId} {cs : Array Value} (hm : (g, t, cs) ∈ l) : Sits W g t cs := h.sits (g, t, cs) hm
theorem Bs.add (h : Bs w l W) (t : TypeId) (z cs : Array Value) : Bs w ((W.heap.size, t, cs) :: l) ((W.alloc (.cells z t)).setRow W.heap.size cs) :=
  ⟨fun p hp => by
    rcases List.mem_cons.1 hp with rfl | hp
    · exact setRow_heap _ _ _ _ _ _ (Sits.new _ _ _)
    · exact (setRow_other _ _ _ _ (Nat.ne_of_lt (h.sits p hp).lt)).trans ((h.sits p hp).alloc _), (h.low.alloc h.low.size _).trans (below_row h.low.size)⟩
theorem Bs.put (h : Bs w l W) {g : Nat} (hg : w.heap.size ≤ g) (hn : ∀ p, p ∈ l → p.1 ≠ g) {t : TypeId} {z : Array Value} (hs : Sits W g t z) (cs : Array Value) : Bs w ((g, t, cs) :: l) (W.setRow g cs) :=
  ⟨fun p hp => by
    rcases List.mem_cons.1 hp with rfl | hp
    · exact setRow_heap _ _ _ _ _ _ hs
    · exact (setRow_other _ _ _ _ (hn p hp)).trans (h.sits p hp), h.low.trans (below_row hg)⟩
theorem Bs.new (h : Bs w l W) (t : TypeId) (cs : Array Value) : Bs w ((W.heap.size, t, cs) :: l) (W.alloc (.cells cs t)) :=
  ⟨fun p hp => by
    rcases List.mem_cons.1 hp with rfl | hp
    · exact Sits.new _ _ _
    · exact (h.sits p hp).alloc _, h.low.alloc h.low.size _⟩
theorem Bs.two (h : Bs w l W) (t t' : TypeId) (z z' cs cs' : Array Value) : Bs w ((W.heap.size, t, cs) :: (W.heap.size + 1, t', cs') :: l) ((((W.alloc (.cells z t)).alloc (.cells z' t')).setRow W.heap.size cs).setRow (W.heap.size + 1) cs') :=
  ⟨fun p hp => by
    have h1 : Sits ((W.alloc (.cells z t)).alloc (.cells z' t')) W.heap.size t z := (Sits.new _ _ _).alloc _
    have h2 : Sits ((W.alloc (.cells z t)).alloc (.cells z' t')) (W.heap.size + 1) t' z' := Sits.made (by simp) _ _
    rcases List.mem_cons.1 hp with rfl | hp
    · exact (setRow_other _ _ _ _ (by omega)).trans (setRow_heap _ _ _ _ _ _ h1)
    · rcases List.mem_cons.1 hp with rfl | hp
      · exact setRow_heap _ _ _ _ _ _ ((setRow_other _ _ _ _ (by omega)).trans h2)
      · have hl := (h.sits p hp).lt
        exact (setRow_other _ _ _ _ (by omega)).trans ((setRow_other _ _ _ _ (by omega)).trans (((h.sits p hp).alloc _).alloc _)), ((((h.low.alloc h.low.size _).alloc (by have := h.low.size; simp; omega) _).trans (below_row h.low.size)).trans (below_row (by have := h.low.size; omega)))⟩
end
def Wk0 (w : World) (l : List (Nat × TypeId × Array Value)) (_ : Value) (W : World) : Prop := Bs w l W
def Wk1 (w : World) (l : List (Nat × TypeId × Array Value)) (u : Value) (W : World) : Prop := ∃ g, u = .pointer (some ⟨g, 0, none⟩) ∧ w.heap.size ≤ g ∧ (∀ p, p ∈ l → p.1 ≠ g) ∧ Bs w l W ∧ Sits W g 29 zero48
def Wk2 (w : World) (l : List (Nat × TypeId × Array Value)) (cs : Array Value) (u : Value) (W : World) : Prop := ∃ g, u = .pointer (some ⟨g, 0, none⟩) ∧ Bs w ((g, 29, cs) :: l) W
theorem wk0_grown {w W W' : World} {l : List (Nat × TypeId × Array Value)} {u : Value} (h : Wk0 w l u W) (hb : Below W.heap.size W W') : Wk0 w l u W' := Bs.grown h hb
theorem wk1_grown {w W W' : World} {l : List (Nat × TypeId × Array Value)} {u : Value} (h : Wk1 w l u W) (hb : Below W.heap.size W W') : Wk1 w l u W' := by
  obtain ⟨g, e, h1, h2, h3, h4⟩ := h
  exact ⟨g, e, h1, h2, h3.grown hb, h4.below hb h4.lt⟩
theorem wk2_grown {w W W' : World} {l : List (Nat × TypeId × Array Value)} {cs : Array Value} {u : Value} (h : Wk2 w l cs u W) (hb : Below W.heap.size W W') : Wk2 w l cs u W' := by
  obtain ⟨g, e, h1⟩ := h
  exact ⟨g, e, h1.grown hb⟩
theorem wk1_new {w W : World} {l : List (Nat × TypeId × Array Value)} {u : Value} (h : Wk0 w l u W) : Wk1 w l (.pointer (some ⟨W.heap.size, 0, none⟩)) (W.alloc (.cells zero48 29)) :=
  ⟨_, rfl, h.low.size, fun p hp => Nat.ne_of_lt (h.sits p hp).lt, Bs.grown h ((Below.refl _ _).alloc (Nat.le_refl _) _), Sits.new _ _ _⟩
/-- A store into the box that a slot points to. -/
theorem y_storeX {P : Program} {o : Oper} {A : Act} {w W : World} {l : List (Nat × TypeId × Array Value)} {p : Value → World → Prop} {a b : Nat} (ho : o.op = .store 29 (.tmp a) (.tmp b)) {V : Nat → Nat → Int} (hx : Wk1 w l (A.tmps[a]?.getD undef) W) (hy : A.tmps[b]?.getD undef = .agg (vsC V))
    (hi : (P.info? 29).map (·.size) = some 48) (hd : o.dst = none) (hp : ∀ u w, p u w) :
    YieldsW P (fun u w' => p u w' ∧ Keeps (fun _ => True) W w' ∧ Wk2 w l (vsC V) (after1 a o A u) w') ((execOp A.eval o).run P W) := by
  obtain ⟨g, e, h1, h2, h3, h4⟩ := hx
  unfold execOp
  simp only [ho, eval_form, e, hy, Instr.storeAt, Instr.sureAddr, Sem.run_bind, Sem.run_pure, Result.andThen_ok, run_storeVar_row W g 29 29 zero48 (vsC V) h4 (by rw [vsC_size]; exact hi) (zero48_size.trans (vsC_size _).symm) (vsC_one V)]
  exact ⟨hp _ _, (keeps_setRow W g _).wider (fun _ _ _ => trivial), g, by unfold after1; rw [hd, if_neg (by intro h; cases h)]; exact e, h3.put h1 h2 h4 _⟩
theorem bs_new (w : World) : Bs w [] w := ⟨fun _ h => (by cases h), Below.refl _ _⟩
def zV : Nat → Nat → Int := fun _ _ => 0
theorem zV_cells : vsC zV = zero48 := rfl
theorem wake_facts : ∃ (wv xv yv : Nat → Nat → Int) (m1 s1 : Nat → Int),
    (∀ W, Calls Try.prog 8 #[.agg zero48, .int .i64 0, .int .i64 1, .int .u8 4, .agg zero8] W (Made (.returned (.tuple #[.agg (vsC wv), .agg (vwC m1), .bool true])) W)) ∧
    (∀ W, Calls Try.prog 11 #[.agg zero48, .int .i64 0, .int .i64 1, .int .u8 2, .agg (vwC (atF 1 7 true))] W (Made (.returned (.tuple #[.agg (vsC xv), .bool true])) W)) ∧
    (∀ W, Calls Try.prog 6 #[.agg (vsC xv), .int .u8 3, .agg zero4] W (Made (.returned (.tuple #[.agg (vsC yv), arr s1, .bool true])) W)) ∧
    (∀ W, Calls Try.prog 11 #[.agg (vsC wv), .int .i64 0, .int .i64 0, .int .u8 1, .agg zero8] W (Made (.returned (.tuple #[.agg (vsC wv), .bool false])) W)) ∧
    sameF 8 m1 (atF 0 1 true) = true ∧ sameF 8 (wv 0) m1 = true ∧ sameF 8 (xv 0) m1 = true ∧ xv 1 5 = 7 ∧ yv 0 5 = 7 ∧ sameF 4 s1 zeroF = true ∧ may6F wv = true :=
  ⟨writeV zV 0 1 4, readV zV 0 1 2 (atF 1 7 true), fenceV (readV zV 0 1 2 (atF 1 7 true)) zeroF 3, writeM zV 0 1 4 zeroF, fenceS (readV zV 0 1 2 (atF 1 7 true)) zeroF 3,
    fun W => write_any zV 0 1 4 zeroF W, fun W => read_any zV 0 1 2 (atF 1 7 true) W, fun W => fence_any _ zeroF 3 W,
    fun W => by
      have h := read_any (writeV zV 0 1 4) 0 0 1 zeroF W
      have e : readOk (writeV zV 0 1 4) 0 0 1 = false := by decide
      have e2 : readV (writeV zV 0 1 4) 0 0 1 zeroF = writeV zV 0 1 4 := by unfold readV; rw [e]; rfl
      rw [e, e2] at h
      exact h, by decide, by decide, by decide, by decide, by decide, by decide, by decide⟩
set_option maxRecDepth 100000 in
set_option maxHeartbeats 4000000 in
theorem wakes_any (w : World) : Calls Try.prog 5 #[] w (Made (.returned (.bool true)) w) := by
  obtain ⟨wv, xv, yv, m1, s1, c1, c2, c3, c4, e1, e2, e3, e4, e5, e6, e7⟩ := wake_facts
  have HC := Lib.hid (And.intro c1 (And.intro c2 (And.intro c3 c4)))
  have HE := Lib.hid (And.intro e1 (And.intro e2 (And.intro e3 (And.intro e4 (And.intro e5 (And.intro e6 e7))))))
  clear c1 c2 c3 c4 e1 e2 e3 e4 e5 e6 e7
  have H0 : Hid (Bs w [(w.heap.size, 29, zero48)] (w.alloc (.cells zero48 29))) := Lib.hid ((bs_new w).new _ _)
  have hlz : (vsC zV).size = 48 := vsC_size _
  go_enter Try.func5, Try.ntmps5
  go_upto_region 2 with (fail)
  generalize w.alloc (.cells zero48 29) = w0 at H0 ⊢
  generalize w.heap.size = g1 at H0 ⊢
  have s1' : Sits w0 g1 29 zero48 := H0.out.get (by simp)
  go_wp2_with (refine wpList_load_row rfl 29 _ rfl _ rfl _ zero48 (0, 0) _ s1' Try.underlying29 rfl vsSize ?_)
  refine (HC.out.1 _).mono ?_
  rintro e w1 ⟨rfl, hb⟩
  have HB1 := Lib.hid (H0.out.grown hb)
  clear hb s1' H0
  go_upto_region 3 with (first | refine wpList_store_row rfl 29 _ _ rfl (w1.heap.size) (vsC wv) rfl rfl 29 zero48 ((Sits.new _ _ _).alloc _) (by rw [vsC_size]; exact vsSize) (zero48_size.trans (vsC_size _).symm) (vsC_one _) ?_ | refine wpList_store_row rfl 26 _ _ rfl (w1.heap.size + 1) (vwC m1) rfl rfl 26 zero8 ((setRow_other _ _ _ _ (by omega)).trans (Sits.made (by simp) _ _ : Sits _ _ _ _)) vewSize rfl (vwC_one _) ?_)
  have H2 := Lib.hid (HB1.out.two 29 26 zero48 zero8 (vsC wv) (vwC m1))
  generalize (((w1.alloc (.cells zero48 29)).alloc (.cells zero8 26)).setRow w1.heap.size (vsC wv)).setRow (w1.heap.size + 1) (vwC m1) = w2 at H2 ⊢
  generalize hg2 : w1.heap.size = g2 at H2 ⊢
  clear hg2 HB1
  have hB : Hid (w.heap.size ≤ w2.heap.size) := Lib.hid H2.out.low.size
  refine wp_flowP [some 20, some 21, some 22, some 19, some 23, some 24, some 5, none, some 6] [6, 7] [1, 1, 1, 1, 1, 2, 0, 0, 2] [eqV (.agg zero48), eqV (.agg (vwC (atF 1 7 true))), eqV (.tuple #[.agg (vsC xv), .bool true]), eqV (.tuple #[.agg (vsC xv), .bool true]), eqV (.agg (vsC (xv))), eqV (.bool true), fun _ _ => True, fun _ _ => True, eqV (.bool true)] (fun j u W => match j with | 0 => Wk0 w [(g2, 29, vsC wv), (g2 + 1, 26, vwC m1), (g1, 29, zero48)] u W | 1 => Wk1 w [(g2, 29, vsC wv), (g2 + 1, 26, vwC m1), (g1, 29, zero48)] u W | _ => Wk2 w [(g2, 29, vsC wv), (g2 + 1, 26, vwC m1), (g1, 29, zero48)] (vsC xv) u W) 5 (fun _ => True) (by kernel_rfl) (by kernel_rfl) (by kernel_rfl) (by kernel_rfl) (by rfl)
    (by simp only [List.mem_cons, List.not_mem_nil, or_false, forall_eq_or_imp, forall_eq]; refine ⟨?_, ?_, ?_, ?_, ?_, ?_, ?_, ?_, ?_⟩ <;> (first | exact eqV_monoX _ _ | exact true_monoX _))
    (fun j u W W' h hb => by rcases j with _ | _ | j <;> first | exact (wk0_grown h hb) | exact (wk1_grown h hb) | exact (wk2_grown h hb)) (H2.out) ?_ ?_ ?_
  · intro i o hi ho hc j A W hj hz hMj hk he
    simp only [List.length_cons, List.length_nil, Nat.zero_add, Nat.reduceAdd] at hi
    obtain rfl | rfl | rfl | rfl | rfl | rfl | rfl | rfl | rfl : i = 0 ∨ i = 1 ∨ i = 2 ∨ i = 3 ∨ i = 4 ∨ i = 5 ∨ i = 6 ∨ i = 7 ∨ i = 8 := by omega
    · have hb : Bs w [(g2, 29, vsC wv), (g2 + 1, 26, vwC m1), (g1, 29, zero48)] W := by
            rcases j with _ | _ | j
            · exact hMj
            · exact hMj.elim fun _ h => h.2.2.2.1
            · exact absurd (show j + 2 ≤ 1 from hj) (by omega)
      injection ho with ho; subst ho
      refine .inl ⟨wanted_free rfl, ?_⟩
      have h1 : A.tmps[1]?.getD undef = .pointer (some ⟨g1, 0, none⟩) := hk 1 (by rfl)
      exact y_load (cs := zero48) rfl h1 (sits_range ((hb).get (g := g1) (t := 29) (cs := zero48) (by simp))) Try.underlying29 rfl vsSize
    · injection ho with ho; subst ho
      refine .inl ⟨wanted_free rfl, ?_⟩
      go_simp
      refine Calls.mono (at_v 1 7 true W) ?_
      rintro e' w' ⟨rfl, hb⟩
      exact ⟨_, rfl, rfl, hb⟩
    · injection ho with ho; subst ho
      refine .inl ⟨wanted_free rfl, ?_⟩
      have h20 : A.tmps[20]?.getD undef = .agg zero48 := he 0 (by kernel_rfl) (by rfl)
      have h21 : A.tmps[21]?.getD undef = .agg (vwC (atF 1 7 true)) := he 1 (by kernel_rfl) (by rfl)
      go_simp
      refine Calls.mono (HC.out.2.1 W) ?_
      rintro e' w' ⟨rfl, hb⟩
      exact ⟨_, rfl, rfl, hb⟩
    · injection ho with ho; subst ho
      refine .inl ⟨wanted_free rfl, ?_⟩
      have h22 : A.tmps[22]?.getD undef = .tuple #[.agg (vsC xv), .bool true] := he 2 (by kernel_rfl) (by rfl)
      go_simp
      exact ⟨rfl, Below.refl _ _⟩
    · injection ho with ho; subst ho
      refine .inl ⟨wanted_free rfl, ?_⟩
      have h19 : A.tmps[19]?.getD undef = .tuple #[.agg (vsC xv), .bool true] := he 3 (by kernel_rfl) (by rfl)
      go_simp
      exact ⟨rfl, Below.refl _ _⟩
    · injection ho with ho; subst ho
      refine .inl ⟨wanted_free rfl, ?_⟩
      have h19 : A.tmps[19]?.getD undef = .tuple #[.agg (vsC xv), .bool true] := he 3 (by kernel_rfl) (by rfl)
      go_simp
      exact ⟨rfl, Below.refl _ _⟩
    · exact absurd hc (by decide)
    · exact absurd hc (by decide)
    · injection ho with ho; subst ho
      refine .inl ⟨wanted_free rfl, ?_⟩
      have h24 : A.tmps[24]?.getD undef = .bool true := he 5 (by kernel_rfl) (by rfl)
      go_simp
      exact ⟨rfl, Below.refl _ _⟩
  · intro j i o hji ho A W hz hMj hk he
    rcases j with _ | _ | j
    · obtain rfl : 6 = i := Option.some.inj hji
      injection ho with ho; subst ho
      refine .inl ⟨wanted_free rfl, ?_⟩
      have hMs : Wk0 w [(g2, 29, vsC wv), (g2 + 1, 26, vwC m1), (g1, 29, zero48)] (A.tmps[5]?.getD undef) W := hMj
      go_simp
      exact ⟨trivial, Keeps.of_below ((Below.refl _ _).alloc (Nat.le_refl _) _), wk1_new hMs⟩
    · obtain rfl : 7 = i := Option.some.inj hji
      injection ho with ho; subst ho
      refine .inl ⟨wanted_free rfl, ?_⟩
      have hMs : Wk1 w [(g2, 29, vsC wv), (g2 + 1, 26, vwC m1), (g1, 29, zero48)] (A.tmps[5]?.getD undef) W := hMj
      have h23 : A.tmps[23]?.getD undef = .agg (vsC (xv)) := he 4 (by kernel_rfl) (by rfl)
      exact y_storeX rfl hMs h23 vsSize rfl (fun _ _ => trivial)
    · simp at hji
  · intro xs W hz hMe hV
    have hMe : Wk2 w [(g2, 29, vsC wv), (g2 + 1, 26, vwC m1), (g1, 29, zero48)] (vsC xv) _ W := hMe
    have e6 : xs 8 = .bool true := hV 8 (by simp) rfl
    simp only [putM, Act.put, List.setIfInBounds_toArray, List.set_cons_zero, List.set_cons_succ, Nat.zero_add, Nat.reduceAdd, e6]
    clear hV e6
    obtain ⟨g5, e5, hb5⟩ := hMe
    have e5 : xs 6 = .pointer (some ⟨g5, 0, none⟩) := by simpa [putM, Act.put] using e5
    simp only [e5]
    have H3 := Lib.hid hb5
    clear e5 hb5 hz H2 hB
    have s1' : Sits W g5 29 (vsC xv) := H3.out.get (by simp)
    go_wp2_with (refine wpList_load_row rfl 29 _ rfl _ rfl _ (vsC xv) (0, 0) _ s1' Try.underlying29 rfl (by rw [vsC_size]; exact vsSize) ?_)
    refine (HC.out.2.2.1 _).mono ?_
    rintro e w4 ⟨rfl, hb⟩
    have H4 := Lib.hid (H3.out.grown hb)
    clear hb s1' H3
    go_upto_region 5 with (first | refine wpList_store_row rfl 29 _ _ rfl (w4.heap.size) (vsC yv) rfl rfl 29 zero48 ((Sits.new _ _ _).alloc _) (by rw [vsC_size]; exact vsSize) (zero48_size.trans (vsC_size _).symm) (vsC_one _) ?_ | refine wpList_store_row rfl 24 _ _ rfl (w4.heap.size + 1) (arrC s1) rfl rfl 24 zero4 ((setRow_other _ _ _ _ (by omega)).trans (Sits.made (by simp) _ _ : Sits _ _ _ _)) arrSize rfl (four_one _ _ _ _) ?_)
    have H5 := Lib.hid (H4.out.two 29 24 zero48 zero4 (vsC yv) (arrC s1))
    generalize (((w4.alloc (.cells zero48 29)).alloc (.cells zero4 24)).setRow w4.heap.size (vsC yv)).setRow (w4.heap.size + 1) (arrC s1) = w5 at H5 ⊢
    generalize hg7 : w4.heap.size = g7 at H5 ⊢
    clear hg7 H4
    have s1' : Sits w5 g2 29 (vsC wv) := H5.out.get (by simp)
    go_wp2_with (refine wpList_load_row rfl 29 _ rfl _ rfl _ (vsC wv) (0, 0) _ s1' Try.underlying29 rfl (by rw [vsC_size]; exact vsSize) ?_)
    refine (HC.out.2.2.2 _).mono ?_
    rintro e w6 ⟨rfl, hb⟩
    have H6 := Lib.hid (H5.out.grown hb)
    clear hb s1' H5
    go_upto_region 6 with (refine wpList_store_row rfl 29 _ _ rfl (w6.heap.size) (vsC wv) rfl rfl 29 zero48 (Sits.new _ _ _) (by rw [vsC_size]; exact vsSize) (zero48_size.trans (vsC_size _).symm) (vsC_one _) ?_)
    have H7 := Lib.hid (H6.out.add 29 zero48 (vsC wv))
    generalize (w6.alloc (.cells zero48 29)).setRow w6.heap.size (vsC wv) = w7 at H7 ⊢
    generalize hg10 : w6.heap.size = g10 at H7 ⊢
    clear hg10 H6
    have HM : Hid (∀ W, Calls Try.prog 17 #[.agg (vsC wv)] W (Made (.returned (.bool true)) W)) := Lib.hid (fun W => by
      have h := may6_any wv W
      rwa [HE.out.2.2.2.2.2.2] at h)
    have HQ1 : Hid (∀ W, (binOp .eql 26 (.agg (vwC m1)) (.agg (vwC (atF 0 1 true)))).run Try.prog W = .ok (.bool true) W) := Lib.hid (fun W => by have h := eql_vew m1 (atF 0 1 true) W; rw [HE.out.1] at h; exact h)
    have HQ2 : Hid (∀ W, (binOp .eql 26 (.agg (vwC (wv 0))) (.agg (vwC m1))).run Try.prog W = .ok (.bool true) W) := Lib.hid (fun W => by have h := eql_vew (wv 0) m1 W; rw [HE.out.2.1] at h; exact h)
    have HQ3 : Hid (∀ W, (binOp .eql 26 (.agg (vwC (xv 0))) (.agg (vwC m1))).run Try.prog W = .ok (.bool true) W) := Lib.hid (fun W => by have h := eql_vew (xv 0) m1 W; rw [HE.out.2.2.1] at h; exact h)
    have HQ4 : Hid (∀ W, (binOp .eql 24 (arr s1) (.agg zero4)).run Try.prog W = .ok (.bool true) W) := Lib.hid (fun W => by have h := eql_arr s1 zeroF W; rw [HE.out.2.2.2.2.2.1] at h; exact h)
    have HG4 : Hid (∀ x y W, (eqGuard .eql 24 x y (arr s1) (.agg zero4)).run Try.prog W = .ok () W) := Lib.hid (fun x y W => guard_arr .eql x y s1 zeroF W)
    refine wp_flowG [38, 39, 40, 41, 42, 43, 44, 45, 46, 47, 48, 49, 50, 51, 52, 53, 54, 55, 56, 57, 58, 59, 60, 61, 62, 63, 64, 65, 66, 67, 68, 69, 70, 71, 72, 73, 74, 75, 76, 77, 78, 79, 80, 81, 82, 83, 84, 85, 86, 87, 88] [eqV (.bool true), eqV (.bool true), eqV (.agg (vwC (m1))), eqV (.agg (vwC (atF 0 1 true))), eqV (.bool true), eqV (.bool true), eqV (.bool true), eqV (.pointer (some ⟨g2, 0, none⟩)), eqV (.agg (vwC (wv 0))), eqV (.agg (vwC (m1))), eqV (.bool true), eqV (.bool true), eqV (.bool true), eqV (.bool true), eqV (.bool true), eqV (.bool true), eqV (.pointer (some ⟨g5, 0, none⟩)), eqV (.agg (vwC (xv 0))), eqV (.agg (vwC (m1))), eqV (.bool true), eqV (.bool true), eqV (.bool true), eqV (.pointer (some ⟨g5, 8, none⟩)), eqV (.pointer (some ⟨g5, 12, none⟩)), eqV (.pointer (some ⟨g5, 13, none⟩)), eqV (.int .i64 (xv 1 5)), eqV (.bool true), eqV (.bool true), eqV (.bool true), eqV (.bool true), eqV (.bool true), eqV (.bool true), eqV (.pointer (some ⟨g7, 0, none⟩)), eqV (.pointer (some ⟨g7, 4, none⟩)), eqV (.pointer (some ⟨g7, 5, none⟩)), eqV (.int .i64 (yv 0 5)), eqV (.bool true), eqV (.bool true), eqV (.bool true), eqV (arr s1), eqV (.agg zero4), eqV (.bool true), eqV (.bool true), eqV (.bool true), eqV (.bool false), eqV (.bool true), eqV (.bool true), eqV (.bool true), eqV (.agg (vsC (wv))), eqV (.bool true), eqV (.bool true)] (by kernel_rfl) (by kernel_rfl) (by kernel_rfl) (by kernel_rfl) (by rfl)
      (by simp only [List.mem_cons, List.not_mem_nil, or_false, forall_eq_or_imp, forall_eq]; refine ⟨?_, ?_, ?_, ?_, ?_, ?_, ?_, ?_, ?_, ?_, ?_, ?_, ?_, ?_, ?_, ?_, ?_, ?_, ?_, ?_, ?_, ?_, ?_, ?_, ?_, ?_, ?_, ?_, ?_, ?_, ?_, ?_, ?_, ?_, ?_, ?_, ?_, ?_, ?_, ?_, ?_, ?_, ?_, ?_, ?_, ?_, ?_, ?_, ?_, ?_, ?_⟩ <;> (first | exact eqV_mono _ | exact rowV_mono _ _ _)) ?_ ?_
    · intro i o hi ho A W hW hk he
      simp only [List.length_cons, List.length_nil, Nat.zero_add, Nat.reduceAdd] at hi
      obtain rfl | rfl | rfl | rfl | rfl | rfl | rfl | rfl | rfl | rfl | rfl | rfl | rfl | rfl | rfl | rfl | rfl | rfl | rfl | rfl | rfl | rfl | rfl | rfl | rfl | rfl | rfl | rfl | rfl | rfl | rfl | rfl | rfl | rfl | rfl | rfl | rfl | rfl | rfl | rfl | rfl | rfl | rfl | rfl | rfl | rfl | rfl | rfl | rfl | rfl | rfl : i = 0 ∨ i = 1 ∨ i = 2 ∨ i = 3 ∨ i = 4 ∨ i = 5 ∨ i = 6 ∨ i = 7 ∨ i = 8 ∨ i = 9 ∨ i = 10 ∨ i = 11 ∨ i = 12 ∨ i = 13 ∨ i = 14 ∨ i = 15 ∨ i = 16 ∨ i = 17 ∨ i = 18 ∨ i = 19 ∨ i = 20 ∨ i = 21 ∨ i = 22 ∨ i = 23 ∨ i = 24 ∨ i = 25 ∨ i = 26 ∨ i = 27 ∨ i = 28 ∨ i = 29 ∨ i = 30 ∨ i = 31 ∨ i = 32 ∨ i = 33 ∨ i = 34 ∨ i = 35 ∨ i = 36 ∨ i = 37 ∨ i = 38 ∨ i = 39 ∨ i = 40 ∨ i = 41 ∨ i = 42 ∨ i = 43 ∨ i = 44 ∨ i = 45 ∨ i = 46 ∨ i = 47 ∨ i = 48 ∨ i = 49 ∨ i = 50 := by omega
      · injection ho with ho; subst ho
        refine .inl ⟨wanted_free rfl, ?_⟩
        have h4 : A.tmps[4]?.getD undef = .bool true := hk 4 (by rfl)
        go_simp
        exact ⟨rfl, Below.refl _ _⟩
      · injection ho with ho; subst ho
        refine .inl ⟨wanted_free rfl, ?_⟩
        have h38 : A.tmps[38]?.getD undef = .bool true := he 0 (by kernel_rfl)
        go_simp
        exact ⟨rfl, Below.refl _ _⟩
      · injection ho with ho; subst ho
        have hg : A.tmps[39]?.getD undef = .bool true := he 1 (by kernel_rfl)
        refine .inl ⟨wanted_yes (d := 39) rfl (by kernel_rfl) hg, ?_⟩
        have h3 : A.tmps[3]?.getD undef = .pointer (some ⟨g2 + 1, 0, none⟩) := hk 3 (by rfl)
        exact y_load (cs := vwC (m1)) rfl h3 (sits_range (((H7.out.grown hW).get (g := g2 + 1) (t := 26) (cs := vwC m1) (by simp)))) Try.underlying26 rfl vewSize
      · injection ho with ho; subst ho
        have hg : A.tmps[39]?.getD undef = .bool true := he 1 (by kernel_rfl)
        refine .inl ⟨wanted_yes (d := 39) rfl (by kernel_rfl) hg, ?_⟩
        go_simp
        refine Calls.mono (at_v 0 1 true W) ?_
        rintro e' w' ⟨rfl, hb⟩
        exact ⟨_, rfl, rfl, hb⟩
      · injection ho with ho; subst ho
        have hg : A.tmps[39]?.getD undef = .bool true := he 1 (by kernel_rfl)
        refine .inl ⟨wanted_yes (d := 39) rfl (by kernel_rfl) hg, ?_⟩
        have h40 : A.tmps[40]?.getD undef = .agg (vwC (m1)) := he 2 (by kernel_rfl)
        have h41 : A.tmps[41]?.getD undef = .agg (vwC (atF 0 1 true)) := he 3 (by kernel_rfl)
        have hq := HQ1.out W
        have hgd : ∀ x y, (eqGuard .eql 26 x y (Value.agg (vwC (m1))) (Value.agg (vwC (atF 0 1 true)))).run Try.prog W = .ok () W := fun x y => guard_vew .eql x y (m1) (atF 0 1 true) W
        generalize Value.agg (vwC (m1)) = X at h40 hq hgd
        generalize Value.agg (vwC (atF 0 1 true)) = Y at h41 hq hgd
        go_simp
        exact ⟨rfl, Below.refl _ _⟩
      · injection ho with ho; subst ho
        refine .inl ⟨wanted_free rfl, ?_⟩
        have h39 : A.tmps[39]?.getD undef = .bool true := he 1 (by kernel_rfl)
        have h42 : A.tmps[42]?.getD undef = .bool true := he 4 (by kernel_rfl)
        go_simp
        exact ⟨rfl, Below.refl _ _⟩
      · injection ho with ho; subst ho
        refine .inl ⟨wanted_free rfl, ?_⟩
        have h43 : A.tmps[43]?.getD undef = .bool true := he 5 (by kernel_rfl)
        go_simp
        exact ⟨rfl, Below.refl _ _⟩
      · injection ho with ho; subst ho
        have hg : A.tmps[44]?.getD undef = .bool true := he 6 (by kernel_rfl)
        refine .inl ⟨wanted_yes (d := 44) rfl (by kernel_rfl) hg, ?_⟩
        have h2 : A.tmps[2]?.getD undef = .pointer (some ⟨g2, 0, none⟩) := hk 2 (by rfl)
        go_simp
        exact ⟨rfl, Below.refl _ _⟩
      · injection ho with ho; subst ho
        have hg : A.tmps[44]?.getD undef = .bool true := he 6 (by kernel_rfl)
        refine .inl ⟨wanted_yes (d := 44) rfl (by kernel_rfl) hg, ?_⟩
        have h45 : A.tmps[45]?.getD undef = .pointer (some ⟨g2, 0, none⟩) := he 7 (by kernel_rfl)
        exact y_load (cs := vwC (wv 0)) rfl h45 (vs_range (V := wv) (((H7.out.grown hW).get (g := g2) (t := 29) (cs := vsC wv) (by simp))) (0) _ (by omega) rfl) Try.underlying26 rfl vewSize
      · injection ho with ho; subst ho
        have hg : A.tmps[44]?.getD undef = .bool true := he 6 (by kernel_rfl)
        refine .inl ⟨wanted_yes (d := 44) rfl (by kernel_rfl) hg, ?_⟩
        have h3 : A.tmps[3]?.getD undef = .pointer (some ⟨g2 + 1, 0, none⟩) := hk 3 (by rfl)
        exact y_load (cs := vwC (m1)) rfl h3 (sits_range (((H7.out.grown hW).get (g := g2 + 1) (t := 26) (cs := vwC m1) (by simp)))) Try.underlying26 rfl vewSize
      · injection ho with ho; subst ho
        have hg : A.tmps[44]?.getD undef = .bool true := he 6 (by kernel_rfl)
        refine .inl ⟨wanted_yes (d := 44) rfl (by kernel_rfl) hg, ?_⟩
        have h46 : A.tmps[46]?.getD undef = .agg (vwC (wv 0)) := he 8 (by kernel_rfl)
        have h47 : A.tmps[47]?.getD undef = .agg (vwC (m1)) := he 9 (by kernel_rfl)
        have hq := HQ2.out W
        have hgd : ∀ x y, (eqGuard .eql 26 x y (Value.agg (vwC (wv 0))) (Value.agg (vwC (m1)))).run Try.prog W = .ok () W := fun x y => guard_vew .eql x y (wv 0) (m1) W
        generalize Value.agg (vwC (wv 0)) = X at h46 hq hgd
        generalize Value.agg (vwC (m1)) = Y at h47 hq hgd
        go_simp
        exact ⟨rfl, Below.refl _ _⟩
      · injection ho with ho; subst ho
        refine .inl ⟨wanted_free rfl, ?_⟩
        have h44 : A.tmps[44]?.getD undef = .bool true := he 6 (by kernel_rfl)
        have h48 : A.tmps[48]?.getD undef = .bool true := he 10 (by kernel_rfl)
        go_simp
        exact ⟨rfl, Below.refl _ _⟩
      · injection ho with ho; subst ho
        refine .inl ⟨wanted_free rfl, ?_⟩
        have h49 : A.tmps[49]?.getD undef = .bool true := he 11 (by kernel_rfl)
        go_simp
        exact ⟨rfl, Below.refl _ _⟩
      · injection ho with ho; subst ho
        have hg : A.tmps[50]?.getD undef = .bool true := he 12 (by kernel_rfl)
        refine .inl ⟨wanted_yes (d := 50) rfl (by kernel_rfl) hg, ?_⟩
        have h6 : A.tmps[6]?.getD undef = .bool true := hk 6 (by rfl)
        go_simp
        exact ⟨rfl, Below.refl _ _⟩
      · injection ho with ho; subst ho
        refine .inl ⟨wanted_free rfl, ?_⟩
        have h50 : A.tmps[50]?.getD undef = .bool true := he 12 (by kernel_rfl)
        have h51 : A.tmps[51]?.getD undef = .bool true := he 13 (by kernel_rfl)
        go_simp
        exact ⟨rfl, Below.refl _ _⟩
      · injection ho with ho; subst ho
        refine .inl ⟨wanted_free rfl, ?_⟩
        have h52 : A.tmps[52]?.getD undef = .bool true := he 14 (by kernel_rfl)
        go_simp
        exact ⟨rfl, Below.refl _ _⟩
      · injection ho with ho; subst ho
        have hg : A.tmps[53]?.getD undef = .bool true := he 15 (by kernel_rfl)
        refine .inl ⟨wanted_yes (d := 53) rfl (by kernel_rfl) hg, ?_⟩
        have h5 : A.tmps[5]?.getD undef = .pointer (some ⟨g5, 0, none⟩) := hk 5 (by rfl)
        go_simp
        exact ⟨rfl, Below.refl _ _⟩
      · injection ho with ho; subst ho
        have hg : A.tmps[53]?.getD undef = .bool true := he 15 (by kernel_rfl)
        refine .inl ⟨wanted_yes (d := 53) rfl (by kernel_rfl) hg, ?_⟩
        have h54 : A.tmps[54]?.getD undef = .pointer (some ⟨g5, 0, none⟩) := he 16 (by kernel_rfl)
        exact y_load (cs := vwC (xv 0)) rfl h54 (vs_range (V := xv) (((H7.out.grown hW).get (g := g5) (t := 29) (cs := vsC xv) (by simp))) (0) _ (by omega) rfl) Try.underlying26 rfl vewSize
      · injection ho with ho; subst ho
        have hg : A.tmps[53]?.getD undef = .bool true := he 15 (by kernel_rfl)
        refine .inl ⟨wanted_yes (d := 53) rfl (by kernel_rfl) hg, ?_⟩
        have h3 : A.tmps[3]?.getD undef = .pointer (some ⟨g2 + 1, 0, none⟩) := hk 3 (by rfl)
        exact y_load (cs := vwC (m1)) rfl h3 (sits_range (((H7.out.grown hW).get (g := g2 + 1) (t := 26) (cs := vwC m1) (by simp)))) Try.underlying26 rfl vewSize
      · injection ho with ho; subst ho
        have hg : A.tmps[53]?.getD undef = .bool true := he 15 (by kernel_rfl)
        refine .inl ⟨wanted_yes (d := 53) rfl (by kernel_rfl) hg, ?_⟩
        have h55 : A.tmps[55]?.getD undef = .agg (vwC (xv 0)) := he 17 (by kernel_rfl)
        have h56 : A.tmps[56]?.getD undef = .agg (vwC (m1)) := he 18 (by kernel_rfl)
        have hq := HQ3.out W
        have hgd : ∀ x y, (eqGuard .eql 26 x y (Value.agg (vwC (xv 0))) (Value.agg (vwC (m1)))).run Try.prog W = .ok () W := fun x y => guard_vew .eql x y (xv 0) (m1) W
        generalize Value.agg (vwC (xv 0)) = X at h55 hq hgd
        generalize Value.agg (vwC (m1)) = Y at h56 hq hgd
        go_simp
        exact ⟨rfl, Below.refl _ _⟩
      · injection ho with ho; subst ho
        refine .inl ⟨wanted_free rfl, ?_⟩
        have h53 : A.tmps[53]?.getD undef = .bool true := he 15 (by kernel_rfl)
        have h57 : A.tmps[57]?.getD undef = .bool true := he 19 (by kernel_rfl)
        go_simp
        exact ⟨rfl, Below.refl _ _⟩
      · injection ho with ho; subst ho
        refine .inl ⟨wanted_free rfl, ?_⟩
        have h58 : A.tmps[58]?.getD undef = .bool true := he 20 (by kernel_rfl)
        go_simp
        exact ⟨rfl, Below.refl _ _⟩
      · injection ho with ho; subst ho
        have hg : A.tmps[59]?.getD undef = .bool true := he 21 (by kernel_rfl)
        refine .inl ⟨wanted_yes (d := 59) rfl (by kernel_rfl) hg, ?_⟩
        have h5 : A.tmps[5]?.getD undef = .pointer (some ⟨g5, 0, none⟩) := hk 5 (by rfl)
        go_simp
        exact ⟨rfl, Below.refl _ _⟩
      · injection ho with ho; subst ho
        have hg : A.tmps[59]?.getD undef = .bool true := he 21 (by kernel_rfl)
        refine .inl ⟨wanted_yes (d := 59) rfl (by kernel_rfl) hg, ?_⟩
        have h60 : A.tmps[60]?.getD undef = .pointer (some ⟨g5, 8, none⟩) := he 22 (by kernel_rfl)
        go_simp
        exact ⟨rfl, Below.refl _ _⟩
      · injection ho with ho; subst ho
        have hg : A.tmps[59]?.getD undef = .bool true := he 21 (by kernel_rfl)
        refine .inl ⟨wanted_yes (d := 59) rfl (by kernel_rfl) hg, ?_⟩
        have h61 : A.tmps[61]?.getD undef = .pointer (some ⟨g5, 12, none⟩) := he 23 (by kernel_rfl)
        go_simp
        exact ⟨rfl, Below.refl _ _⟩
      · injection ho with ho; subst ho
        have hg : A.tmps[59]?.getD undef = .bool true := he 21 (by kernel_rfl)
        refine .inl ⟨wanted_yes (d := 59) rfl (by kernel_rfl) hg, ?_⟩
        have h62 : A.tmps[62]?.getD undef = .pointer (some ⟨g5, 13, none⟩) := he 24 (by kernel_rfl)
        have c0 := (((H7.out.grown hW).get (g := g5) (t := 29) (cs := vsC xv) (by simp)).cell 13).trans (vsC_at xv 1 5 13 (by omega) (by omega) rfl)
        go_simp
        exact ⟨rfl, Below.refl _ _⟩
      · injection ho with ho; subst ho
        have hg : A.tmps[59]?.getD undef = .bool true := he 21 (by kernel_rfl)
        refine .inl ⟨wanted_yes (d := 59) rfl (by kernel_rfl) hg, ?_⟩
        have h63 : A.tmps[63]?.getD undef = .int .i64 (xv 1 5) := he 25 (by kernel_rfl)
        have e4 := HE.out.2.2.2.1
        go_simp
        exact ⟨rfl, Below.refl _ _⟩
      · injection ho with ho; subst ho
        refine .inl ⟨wanted_free rfl, ?_⟩
        have h59 : A.tmps[59]?.getD undef = .bool true := he 21 (by kernel_rfl)
        have h64 : A.tmps[64]?.getD undef = .bool true := he 26 (by kernel_rfl)
        go_simp
        exact ⟨rfl, Below.refl _ _⟩
      · injection ho with ho; subst ho
        refine .inl ⟨wanted_free rfl, ?_⟩
        have h65 : A.tmps[65]?.getD undef = .bool true := he 27 (by kernel_rfl)
        go_simp
        exact ⟨rfl, Below.refl _ _⟩
      · injection ho with ho; subst ho
        have hg : A.tmps[66]?.getD undef = .bool true := he 28 (by kernel_rfl)
        refine .inl ⟨wanted_yes (d := 66) rfl (by kernel_rfl) hg, ?_⟩
        have h9 : A.tmps[9]?.getD undef = .bool true := hk 9 (by rfl)
        go_simp
        exact ⟨rfl, Below.refl _ _⟩
      · injection ho with ho; subst ho
        refine .inl ⟨wanted_free rfl, ?_⟩
        have h66 : A.tmps[66]?.getD undef = .bool true := he 28 (by kernel_rfl)
        have h67 : A.tmps[67]?.getD undef = .bool true := he 29 (by kernel_rfl)
        go_simp
        exact ⟨rfl, Below.refl _ _⟩
      · injection ho with ho; subst ho
        refine .inl ⟨wanted_free rfl, ?_⟩
        have h68 : A.tmps[68]?.getD undef = .bool true := he 30 (by kernel_rfl)
        go_simp
        exact ⟨rfl, Below.refl _ _⟩
      · injection ho with ho; subst ho
        have hg : A.tmps[69]?.getD undef = .bool true := he 31 (by kernel_rfl)
        refine .inl ⟨wanted_yes (d := 69) rfl (by kernel_rfl) hg, ?_⟩
        have h7 : A.tmps[7]?.getD undef = .pointer (some ⟨g7, 0, none⟩) := hk 7 (by rfl)
        go_simp
        exact ⟨rfl, Below.refl _ _⟩
      · injection ho with ho; subst ho
        have hg : A.tmps[69]?.getD undef = .bool true := he 31 (by kernel_rfl)
        refine .inl ⟨wanted_yes (d := 69) rfl (by kernel_rfl) hg, ?_⟩
        have h70 : A.tmps[70]?.getD undef = .pointer (some ⟨g7, 0, none⟩) := he 32 (by kernel_rfl)
        go_simp
        exact ⟨rfl, Below.refl _ _⟩
      · injection ho with ho; subst ho
        have hg : A.tmps[69]?.getD undef = .bool true := he 31 (by kernel_rfl)
        refine .inl ⟨wanted_yes (d := 69) rfl (by kernel_rfl) hg, ?_⟩
        have h71 : A.tmps[71]?.getD undef = .pointer (some ⟨g7, 4, none⟩) := he 33 (by kernel_rfl)
        go_simp
        exact ⟨rfl, Below.refl _ _⟩
      · injection ho with ho; subst ho
        have hg : A.tmps[69]?.getD undef = .bool true := he 31 (by kernel_rfl)
        refine .inl ⟨wanted_yes (d := 69) rfl (by kernel_rfl) hg, ?_⟩
        have h72 : A.tmps[72]?.getD undef = .pointer (some ⟨g7, 5, none⟩) := he 34 (by kernel_rfl)
        have c0 := (((H7.out.grown hW).get (g := g7) (t := 29) (cs := vsC yv) (by simp)).cell 5).trans (vsC_at yv 0 5 5 (by omega) (by omega) rfl)
        go_simp
        exact ⟨rfl, Below.refl _ _⟩
      · injection ho with ho; subst ho
        have hg : A.tmps[69]?.getD undef = .bool true := he 31 (by kernel_rfl)
        refine .inl ⟨wanted_yes (d := 69) rfl (by kernel_rfl) hg, ?_⟩
        have h73 : A.tmps[73]?.getD undef = .int .i64 (yv 0 5) := he 35 (by kernel_rfl)
        have e5 := HE.out.2.2.2.2.1
        go_simp
        exact ⟨rfl, Below.refl _ _⟩
      · injection ho with ho; subst ho
        refine .inl ⟨wanted_free rfl, ?_⟩
        have h69 : A.tmps[69]?.getD undef = .bool true := he 31 (by kernel_rfl)
        have h74 : A.tmps[74]?.getD undef = .bool true := he 36 (by kernel_rfl)
        go_simp
        exact ⟨rfl, Below.refl _ _⟩
      · injection ho with ho; subst ho
        refine .inl ⟨wanted_free rfl, ?_⟩
        have h75 : A.tmps[75]?.getD undef = .bool true := he 37 (by kernel_rfl)
        go_simp
        exact ⟨rfl, Below.refl _ _⟩
      · injection ho with ho; subst ho
        have hg : A.tmps[76]?.getD undef = .bool true := he 38 (by kernel_rfl)
        refine .inl ⟨wanted_yes (d := 76) rfl (by kernel_rfl) hg, ?_⟩
        have h8 : A.tmps[8]?.getD undef = .pointer (some ⟨g7 + 1, 0, none⟩) := hk 8 (by rfl)
        have c0 := (((H7.out.grown hW).get (g := g7 + 1) (t := 24) (cs := arrC s1) (by simp))).cell 0
        have c1 := (((H7.out.grown hW).get (g := g7 + 1) (t := 24) (cs := arrC s1) (by simp))).cell 1
        have c2 := (((H7.out.grown hW).get (g := g7 + 1) (t := 24) (cs := arrC s1) (by simp))).cell 2
        have c3 := (((H7.out.grown hW).get (g := g7 + 1) (t := 24) (cs := arrC s1) (by simp))).cell 3
        go_simp
        exact ⟨rfl, Below.refl _ _⟩
      · injection ho with ho; subst ho
        have hg : A.tmps[76]?.getD undef = .bool true := he 38 (by kernel_rfl)
        refine .inl ⟨wanted_yes (d := 76) rfl (by kernel_rfl) hg, ?_⟩
        go_simp
        exact ⟨rfl, Below.refl _ _⟩
      · injection ho with ho; subst ho
        have hg : A.tmps[76]?.getD undef = .bool true := he 38 (by kernel_rfl)
        refine .inl ⟨wanted_yes (d := 76) rfl (by kernel_rfl) hg, ?_⟩
        have h77 : A.tmps[77]?.getD undef = arr s1 := he 39 (by kernel_rfl)
        have h78 : A.tmps[78]?.getD undef = .agg zero4 := he 40 (by kernel_rfl)
        have hq := HQ4.out W
        have hgd := fun x y => HG4.out x y W
        generalize arr s1 = X at h77 hq hgd
        generalize Value.agg zero4 = Y at h78 hq hgd
        go_simp
        exact ⟨rfl, Below.refl _ _⟩
      · injection ho with ho; subst ho
        refine .inl ⟨wanted_free rfl, ?_⟩
        have h76 : A.tmps[76]?.getD undef = .bool true := he 38 (by kernel_rfl)
        have h79 : A.tmps[79]?.getD undef = .bool true := he 41 (by kernel_rfl)
        go_simp
        exact ⟨rfl, Below.refl _ _⟩
      · injection ho with ho; subst ho
        refine .inl ⟨wanted_free rfl, ?_⟩
        have h80 : A.tmps[80]?.getD undef = .bool true := he 42 (by kernel_rfl)
        go_simp
        exact ⟨rfl, Below.refl _ _⟩
      · injection ho with ho; subst ho
        have hg : A.tmps[81]?.getD undef = .bool true := he 43 (by kernel_rfl)
        refine .inl ⟨wanted_yes (d := 81) rfl (by kernel_rfl) hg, ?_⟩
        have h11 : A.tmps[11]?.getD undef = .bool false := hk 11 (by rfl)
        go_simp
        exact ⟨rfl, Below.refl _ _⟩
      · injection ho with ho; subst ho
        have hg : A.tmps[81]?.getD undef = .bool true := he 43 (by kernel_rfl)
        refine .inl ⟨wanted_yes (d := 81) rfl (by kernel_rfl) hg, ?_⟩
        have h82 : A.tmps[82]?.getD undef = .bool false := he 44 (by kernel_rfl)
        go_simp
        exact ⟨rfl, Below.refl _ _⟩
      · injection ho with ho; subst ho
        refine .inl ⟨wanted_free rfl, ?_⟩
        have h81 : A.tmps[81]?.getD undef = .bool true := he 43 (by kernel_rfl)
        have h83 : A.tmps[83]?.getD undef = .bool true := he 45 (by kernel_rfl)
        go_simp
        exact ⟨rfl, Below.refl _ _⟩
      · injection ho with ho; subst ho
        refine .inl ⟨wanted_free rfl, ?_⟩
        have h84 : A.tmps[84]?.getD undef = .bool true := he 46 (by kernel_rfl)
        go_simp
        exact ⟨rfl, Below.refl _ _⟩
      · injection ho with ho; subst ho
        have hg : A.tmps[85]?.getD undef = .bool true := he 47 (by kernel_rfl)
        refine .inl ⟨wanted_yes (d := 85) rfl (by kernel_rfl) hg, ?_⟩
        have h2 : A.tmps[2]?.getD undef = .pointer (some ⟨g2, 0, none⟩) := hk 2 (by rfl)
        exact y_load (cs := vsC (wv)) rfl h2 (sits_range (((H7.out.grown hW).get (g := g2) (t := 29) (cs := vsC wv) (by simp)))) Try.underlying29 rfl vsSize
      · injection ho with ho; subst ho
        have hg : A.tmps[85]?.getD undef = .bool true := he 47 (by kernel_rfl)
        refine .inl ⟨wanted_yes (d := 85) rfl (by kernel_rfl) hg, ?_⟩
        have h86 : A.tmps[86]?.getD undef = .agg (vsC (wv)) := he 48 (by kernel_rfl)
        go_simp
        refine Calls.mono (HM.out W) ?_
        rintro e' w' ⟨rfl, hb⟩
        exact ⟨_, rfl, rfl, hb⟩
      · injection ho with ho; subst ho
        refine .inl ⟨wanted_free rfl, ?_⟩
        have h85 : A.tmps[85]?.getD undef = .bool true := he 47 (by kernel_rfl)
        have h87 : A.tmps[87]?.getD undef = .bool true := he 49 (by kernel_rfl)
        go_simp
        exact ⟨rfl, Below.refl _ _⟩
    · intro xs W hW hV
      have e88 : xs 50 = .bool true := hV 50 (by simp)
      simp only [List.length_cons, List.length_nil, Nat.zero_add, Nat.reduceAdd, List.drop_succ_cons, List.drop_zero, putL, Act.put, List.setIfInBounds_toArray, List.set_cons_zero, List.set_cons_succ, e88]
      clear hV e88
      have HL := Lib.hid (H7.out.grown hW)
      clear hW H7
      go_wp2_with fail
      go_ret
      exact ⟨rfl, HL.out.low⟩
end Go.Proofs.Ytanbkclomjbokaa.Tvw
