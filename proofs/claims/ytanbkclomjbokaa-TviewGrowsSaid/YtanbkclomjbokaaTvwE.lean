/- Layer 13 (tview): May. -/
import Derived.Test.YtanbkclomjbokaaTvwD
import Derived.Test.YtanbkclomjbokaaTvwJ
namespace Go.Proofs.Ytanbkclomjbokaa.Tvw
open Go.RowKit Go.Proofs.Ytanbkclomjbokaa.Mem Go.Proofs.Ytanbkclomjbokaa.Flow Go.Proofs.Ytanbkclomjbokaa.Vew

theorem join_rel (V : Nat → Nat → Int) (g c : Nat) (t : TypeId) (w : World) (h : Sits w g t (vsC V)) :
    Calls Try.prog 21 #[.agg (vwC (V 0)), .slice (some ⟨g, 16, none⟩) 4 c] w (Made (.returned (.agg (vwC (joins (V 0) [V 2, V 3, V 4, V 5])))) w) :=
  join_off (V 0) [V 2, V 3, V 4, V 5] g 16 c (by simp) w ⟨h.lt, fun k u hk i hi => by
    rcases k with _ | _ | _ | _ | k
    · injection hk with hk; subst hk; rw [h.cell]; exact vsC_at V 2 i _ (by omega) hi (by omega)
    · injection hk with hk; subst hk; rw [h.cell]; exact vsC_at V 3 i _ (by omega) hi (by omega)
    · injection hk with hk; subst hk; rw [h.cell]; exact vsC_at V 4 i _ (by omega) hi (by omega)
    · injection hk with hk; subst hk; rw [h.cell]; exact vsC_at V 5 i _ (by omega) hi (by omega)
    · simp at hk⟩
theorem turns_may (g B : Nat) (hg : g < B) : Turns 35 #[.pointer (some ⟨g, 0, none⟩)] (fun f => f) B (· = g) (fun l W => Sits W g 4 #[.bool (l.all mayF)]) where
  enters := may1_enters
  old := fun b hb => by rw [hb]; exact hg
  keep := fun _ _ _ h hb => h.below hb hg
  call := fun l f w hw _ => (may1_any f _ g w hw).mono fun _ _ ⟨he, hs, hk⟩ => ⟨he, by rw [List.all_append]; simpa using hs, hk⟩
def mayAll (V : Nat → Nat → Int) : Bool := [V 0, V 1, V 2, V 3, V 4, V 5].all mayF
def upV (V : Nat → Nat → Int) : Nat → Nat → Int := setV (setV V 0 (joins (V 0) [V 2, V 3, V 4, V 5])) 1 (maxF (V 1) (V 0))
def may6F (V : Nat → Nat → Int) : Bool := mayAll V && sameV (upV V) V
structure MayAt (w : World) (V : Nat → Nat → Int) (b : Bool) (W : World) : Prop where
  at1 : Sits W w.heap.size 29 (vsC V)
  at3 : Sits W (w.heap.size + 1) 4 #[.bool b]
  low : Below w.heap.size w W
  grow : w.heap.size + 2 ≤ W.heap.size
structure MayUp (w : World) (V : Nat → Nat → Int) (b : Bool) (gu : Nat) (U : Nat → Nat → Int) (W : World) : Prop where
  may : MayAt w V b W
  up : Sits W gu 29 (vsC U)
  ge : w.heap.size + 2 ≤ gu
section
variable {w W W' : World} {V U : Nat → Nat → Int} {b : Bool} {gu : Nat}
theorem MayAt.grown (h : MayAt w V b W) (hb : Below W.heap.size W W') : MayAt w V b W' :=
  ⟨h.at1.below hb h.at1.lt, h.at3.below hb h.at3.lt, h.low.trans (hb.mono h.low.size), by have := h.grow; have := hb.size; omega⟩
theorem MayUp.grown (h : MayUp w V b gu U W) (hb : Below W.heap.size W W') : MayUp w V b gu U W' := ⟨h.may.grown hb, h.up.below hb h.up.lt, h.ge⟩
theorem MayUp.setK (h : MayUp w V b gu U W) (k o : Nat) (f : Nat → Int) (ho : o = 8 * k) : MayUp w V b gu (setV U k f) (W.setCells gu o (vwC f).toList) := by
  have g := h.ge
  exact ⟨⟨(setCells_other _ _ _ _ _ (by omega)).trans h.may.at1, (setCells_other _ _ _ _ _ (by omega)).trans h.may.at3, h.may.low.trans (below_cells (by omega)), by rw [setCells_size]; exact h.may.grow⟩, vs_set h.up k o f ho, g⟩
theorem mayAt_new (w : World) (V : Nat → Nat → Int) : MayAt w V true ((w.alloc (.cells (vsC V) 29)).alloc (.cells #[.bool true] 4)) :=
  ⟨(Sits.new _ _ _).alloc _, Sits.made (by simp) _ _, below_more (below_more (Below.refl _ w) (Nat.le_refl _) _) (by simp) _, by simp⟩
theorem MayAt.upped (h : MayAt w V b W) : MayUp w V b W.heap.size V ((W.alloc (.cells zero48 29)).setRow W.heap.size (vsC V)) := by
  have g := h.grow
  exact ⟨⟨(setRow_other _ _ _ _ (Nat.ne_of_lt h.at1.lt)).trans (h.at1.alloc _), (setRow_other _ _ _ _ (Nat.ne_of_lt h.at3.lt)).trans (h.at3.alloc _), (h.low.alloc (by omega) _).trans (below_row (by omega)), by simp [World.setRow]; omega⟩, setRow_heap _ _ _ _ _ _ (Sits.new _ _ _), g⟩
end
set_option maxRecDepth 100000 in
set_option maxHeartbeats 2000000 in
theorem may6_any (V : Nat → Nat → Int) (w : World) : Calls Try.prog 17 #[.agg (vsC V)] w (Made (.returned (.bool (may6F V))) w) := by
  have HB := Lib.hid (mayAt_new w V)
  have HQ : Hid (∀ W, (binOp .eql 29 (.agg (vsC (upV V))) (.agg (vsC V))).run Try.prog W = .ok (.bool (sameV (upV V) V)) W) := Lib.hid (fun W => eql_vs _ _ W)
  go_enter Try.func17, Try.ntmps17
  go_upto_region 2 with (fail)
  generalize (w.alloc (.cells (vsC V) 29)).alloc (.cells #[.bool true] 4) = w0 at HB ⊢
  refine wp_flowS1 [some 5, some 6, some 7] [2] [0, 0, 0] [eqV (.agg (vsC (V))), eqV (.func (.func 35) #[] #[.pointer (some ⟨w.heap.size + 1, 0, none⟩)]), eqV (.agg (vsC (fun k => (fun f => f) (V k))))] (fun j W => match j with | 0 => MayAt w V true W | _ => MayAt w V (mayAll V) W) (by kernel_rfl) (by kernel_rfl) (by kernel_rfl) (by rfl)
    (by simp only [List.mem_cons, List.not_mem_nil, or_false, forall_eq_or_imp, forall_eq]; refine ⟨?_, ?_, ?_⟩ <;> (first | exact eqV_monoB _ _ | exact rowB_mono _ _ _ _ | exact true_monoB _))
    (fun j W W' h hb => by rcases j with _ | j <;> first | exact (MayAt.grown h hb)) (HB.out) ?_ ?_ ?_
  · intro i o hi ho hc j A W hj hz hMj hk he
    simp only [List.length_cons, List.length_nil, Nat.zero_add, Nat.reduceAdd] at hi
    obtain rfl | rfl | rfl : i = 0 ∨ i = 1 ∨ i = 2 := by omega
    · obtain rfl : j = 0 := hj
      have hMs : MayAt w V true W := hMj
      injection ho with ho; subst ho
      refine .inl ⟨wanted_free rfl, ?_⟩
      have h1 : A.tmps[1]?.getD undef = .pointer (some ⟨w.heap.size, 0, none⟩) := hk 1 (by rfl)
      exact y_load (cs := vsC (V)) rfl h1 (sits_range (hMs.at1)) Try.underlying29 rfl vsSize
    · injection ho with ho; subst ho
      refine .inl ⟨wanted_free rfl, ?_⟩
      have h3 : A.tmps[3]?.getD undef = .pointer (some ⟨w.heap.size + 1, 0, none⟩) := hk 3 (by rfl)
      go_simp
      exact ⟨rfl, Below.refl _ _⟩
    · exact absurd hc (by decide)
  · intro j i o hji ho A W hz hMj hk he
    rcases j with _ | j
    · obtain rfl : 2 = i := Option.some.inj hji
      injection ho with ho; subst ho
      refine .inl ⟨wanted_free rfl, ?_⟩
      have hMs : MayAt w V true W := hMj
      have h5 : A.tmps[5]?.getD undef = .agg (vsC (V)) := he 0 (by kernel_rfl) (by rfl)
      have h6 : A.tmps[6]?.getD undef = .func (.func 35) #[] #[.pointer (some ⟨w.heap.size + 1, 0, none⟩)] := he 1 (by kernel_rfl) (by rfl)
      go_simp
      refine Calls.mono (each_any _ (turns_may (w.heap.size + 1) _ (by have := hMs.grow; omega)) V hMs.at3) ?_
      rintro e' w' ⟨rfl, hi, hk⟩
      exact ⟨_, rfl, rfl, hk.wider (fun b _ hx => by have := HB.out.grow; omega), ⟨hMs.at1.keep hk (by omega), hi, hMs.low.trans (hk.below (by have := hMs.grow; omega) (fun b hx => by omega)), by have := hMs.grow; have := hk.size; omega⟩⟩
    · simp at hji
  · intro xs W hz hMe hV
    have hMe : MayAt w V (mayAll V) W := hMe
    simp only [putM, Act.put, List.setIfInBounds_toArray, List.set_cons_zero, List.set_cons_succ, Nat.zero_add, Nat.reduceAdd]
    clear hV
    have HB1 := Lib.hid hMe
    clear hMe hz HB
    have s1 := HB1.out.at1
    go_upto_region 4 with (first | refine wpList_load_row rfl 29 _ rfl _ rfl _ (vsC V) (0, 0) _ s1 Try.underlying29 rfl (by rw [vsC_size]; exact vsSize) ?_ | refine wpList_store_row rfl 29 _ _ rfl (W.heap.size) (vsC V) rfl rfl 29 zero48 (Sits.new _ _ _) (by rw [vsC_size]; exact vsSize) (zero48_size.trans (vsC_size _).symm) (vsC_one _) ?_)
    clear s1
    have HU := Lib.hid HB1.out.upped
    generalize (W.alloc (.cells zero48 29)).setRow W.heap.size (vsC V) = W1 at HU ⊢
    generalize W.heap.size = gu at HU ⊢
    clear HB1
    refine wp_flowM [some 9, some 10, some 11, some 12, some 13, some 14, some 15, some 16, some 17, some 18, some 19, some 20, none, some 21, none] [12, 14] [0, 0, 0, 0, 0, 1, 1, 1, 1, 1, 0, 0, 0, 1, 0] [eqV (.pointer (some ⟨w.heap.size, 0, none⟩)), eqV (.agg (vwC (V 0))), eqV (.pointer (some ⟨w.heap.size, 16, none⟩)), eqV (.slice (some ⟨w.heap.size, 16, none⟩) 4 4), eqV (.agg (vwC (joins (V 0) [V 2, V 3, V 4, V 5]))), eqV (.pointer (some ⟨w.heap.size, 8, none⟩)), eqV (.agg (vwC (V 1))), eqV (.pointer (some ⟨w.heap.size, 0, none⟩)), eqV (.agg (vwC (V 0))), rowB _ 26 1 (vwC (V 0)), eqV (.agg (vwC (maxF (V 1) (V 0)))), eqV (.pointer (some ⟨gu, 0, none⟩)), fun _ _ => True, eqV (.pointer (some ⟨gu, 8, none⟩)), fun _ _ => True] (fun j W => match j with | 0 => MayUp w V (mayAll V) gu (V) W | 1 => MayUp w V (mayAll V) gu (setV V 0 (joins (V 0) [V 2, V 3, V 4, V 5])) W | _ => MayUp w V (mayAll V) gu (upV V) W) (by kernel_rfl) (by kernel_rfl) (by kernel_rfl) (by rfl)
      (by simp only [List.mem_cons, List.not_mem_nil, or_false, forall_eq_or_imp, forall_eq]; refine ⟨?_, ?_, ?_, ?_, ?_, ?_, ?_, ?_, ?_, ?_, ?_, ?_, ?_, ?_, ?_⟩ <;> (first | exact eqV_monoB _ _ | exact rowB_mono _ _ _ _ | exact true_monoB _))
      (fun j W W' h hb => by rcases j with _ | _ | j <;> first | exact (MayUp.grown h hb)) (HU.out) ?_ ?_ ?_
    · intro i o hi ho hc j A W hj hz hMj hk he
      simp only [List.length_cons, List.length_nil, Nat.zero_add, Nat.reduceAdd] at hi
      obtain rfl | rfl | rfl | rfl | rfl | rfl | rfl | rfl | rfl | rfl | rfl | rfl | rfl | rfl | rfl : i = 0 ∨ i = 1 ∨ i = 2 ∨ i = 3 ∨ i = 4 ∨ i = 5 ∨ i = 6 ∨ i = 7 ∨ i = 8 ∨ i = 9 ∨ i = 10 ∨ i = 11 ∨ i = 12 ∨ i = 13 ∨ i = 14 := by omega
      · injection ho with ho; subst ho
        refine .inl ⟨wanted_free rfl, ?_⟩
        have h1 : A.tmps[1]?.getD undef = .pointer (some ⟨w.heap.size, 0, none⟩) := hk 1 (by rfl)
        go_simp
        exact ⟨rfl, Below.refl _ _⟩
      · obtain rfl : j = 0 := Nat.le_zero.1 hj
        have hMs : MayUp w V (mayAll V) gu (V) W := hMj
        injection ho with ho; subst ho
        refine .inl ⟨wanted_free rfl, ?_⟩
        have h9 : A.tmps[9]?.getD undef = .pointer (some ⟨w.heap.size, 0, none⟩) := he 0 (by kernel_rfl) (by rfl)
        exact y_load (cs := vwC (V 0)) rfl h9 (vs_range (V := V) (hMs.may.at1) (0) _ (by omega) rfl) Try.underlying26 rfl vewSize
      · injection ho with ho; subst ho
        refine .inl ⟨wanted_free rfl, ?_⟩
        have h1 : A.tmps[1]?.getD undef = .pointer (some ⟨w.heap.size, 0, none⟩) := hk 1 (by rfl)
        go_simp
        exact ⟨rfl, Below.refl _ _⟩
      · injection ho with ho; subst ho
        refine .inl ⟨wanted_free rfl, ?_⟩
        have h11 : A.tmps[11]?.getD undef = .pointer (some ⟨w.heap.size, 16, none⟩) := he 2 (by kernel_rfl) (by rfl)
        go_simp
        exact ⟨rfl, Below.refl _ _⟩
      · obtain rfl : j = 0 := Nat.le_zero.1 hj
        have hMs : MayUp w V (mayAll V) gu (V) W := hMj
        injection ho with ho; subst ho
        refine .inl ⟨wanted_free rfl, ?_⟩
        have h10 : A.tmps[10]?.getD undef = .agg (vwC (V 0)) := he 1 (by kernel_rfl) (by rfl)
        have h12 : A.tmps[12]?.getD undef = .slice (some ⟨w.heap.size, 16, none⟩) 4 4 := he 3 (by kernel_rfl) (by rfl)
        go_simp
        refine Calls.mono (join_rel V (w.heap.size) 4 _ W hMs.may.at1) ?_
        rintro e' w' ⟨rfl, hb⟩
        exact ⟨_, rfl, rfl, hb⟩
      · injection ho with ho; subst ho
        refine .inl ⟨wanted_free rfl, ?_⟩
        have h1 : A.tmps[1]?.getD undef = .pointer (some ⟨w.heap.size, 0, none⟩) := hk 1 (by rfl)
        go_simp
        exact ⟨rfl, Below.refl _ _⟩
      · have hj2 : j ≤ 1 := hj
        rcases j with _ | _ | j
        · have hMs : MayUp w V (mayAll V) gu (V) W := hMj
          injection ho with ho; subst ho
          refine .inl ⟨wanted_free rfl, ?_⟩
          have h14 : A.tmps[14]?.getD undef = .pointer (some ⟨w.heap.size, 8, none⟩) := he 5 (by kernel_rfl) (by rfl)
          exact y_load (cs := vwC (V 1)) rfl h14 (vs_range (V := V) (hMs.may.at1) (1) _ (by omega) rfl) Try.underlying26 rfl vewSize
        · have hMs : MayUp w V (mayAll V) gu (setV V 0 (joins (V 0) [V 2, V 3, V 4, V 5])) W := hMj
          injection ho with ho; subst ho
          refine .inl ⟨wanted_free rfl, ?_⟩
          have h14 : A.tmps[14]?.getD undef = .pointer (some ⟨w.heap.size, 8, none⟩) := he 5 (by kernel_rfl) (by rfl)
          exact y_load (cs := vwC (V 1)) rfl h14 (vs_range (V := V) (hMs.may.at1) (1) _ (by omega) rfl) Try.underlying26 rfl vewSize
        · omega
      · injection ho with ho; subst ho
        refine .inl ⟨wanted_free rfl, ?_⟩
        have h1 : A.tmps[1]?.getD undef = .pointer (some ⟨w.heap.size, 0, none⟩) := hk 1 (by rfl)
        go_simp
        exact ⟨rfl, Below.refl _ _⟩
      · have hj2 : j ≤ 1 := hj
        rcases j with _ | _ | j
        · have hMs : MayUp w V (mayAll V) gu (V) W := hMj
          injection ho with ho; subst ho
          refine .inl ⟨wanted_free rfl, ?_⟩
          have h16 : A.tmps[16]?.getD undef = .pointer (some ⟨w.heap.size, 0, none⟩) := he 7 (by kernel_rfl) (by rfl)
          exact y_load (cs := vwC (V 0)) rfl h16 (vs_range (V := V) (hMs.may.at1) (0) _ (by omega) rfl) Try.underlying26 rfl vewSize
        · have hMs : MayUp w V (mayAll V) gu (setV V 0 (joins (V 0) [V 2, V 3, V 4, V 5])) W := hMj
          injection ho with ho; subst ho
          refine .inl ⟨wanted_free rfl, ?_⟩
          have h16 : A.tmps[16]?.getD undef = .pointer (some ⟨w.heap.size, 0, none⟩) := he 7 (by kernel_rfl) (by rfl)
          exact y_load (cs := vwC (V 0)) rfl h16 (vs_range (V := V) (hMs.may.at1) (0) _ (by omega) rfl) Try.underlying26 rfl vewSize
        · omega
      · injection ho with ho; subst ho
        refine .inl ⟨wanted_free rfl, ?_⟩
        have h17 : A.tmps[17]?.getD undef = .agg (vwC (V 0)) := he 8 (by kernel_rfl) (by rfl)
        exact y_oneB hz rfl h17
      · obtain rfl : j = 0 := Nat.le_zero.1 hj
        have hMs : MayUp w V (mayAll V) gu (V) W := hMj
        injection ho with ho; subst ho
        refine .inl ⟨wanted_free rfl, ?_⟩
        have h15 : A.tmps[15]?.getD undef = .agg (vwC (V 1)) := he 6 (by kernel_rfl) (by rfl)
        obtain ⟨gr18, hg18, h18, hr18⟩ : rowB _ 26 1 (vwC (V 0)) (A.tmps[18]?.getD undef) W := he 9 (by kernel_rfl) (by rfl)
        go_simp
        refine Calls.mono (join_v (V 1) (V 0) gr18 _ W hr18) ?_
        rintro e' w' ⟨rfl, hb⟩
        exact ⟨_, rfl, rfl, hb⟩
      · injection ho with ho; subst ho
        refine .inl ⟨wanted_free rfl, ?_⟩
        have h4 : A.tmps[4]?.getD undef = .pointer (some ⟨gu, 0, none⟩) := hk 4 (by rfl)
        go_simp
        exact ⟨rfl, Below.refl _ _⟩
      · exact absurd hc (by decide)
      · injection ho with ho; subst ho
        refine .inl ⟨wanted_free rfl, ?_⟩
        have h4 : A.tmps[4]?.getD undef = .pointer (some ⟨gu, 0, none⟩) := hk 4 (by rfl)
        go_simp
        exact ⟨rfl, Below.refl _ _⟩
      · exact absurd hc (by decide)
    · intro j i o hji ho A W hz hMj hk he
      rcases j with _ | _ | j
      · obtain rfl : 12 = i := Option.some.inj hji
        injection ho with ho; subst ho
        refine .inl ⟨wanted_free rfl, ?_⟩
        have hMs : MayUp w V (mayAll V) gu (V) W := hMj
        have h20 : A.tmps[20]?.getD undef = .pointer (some ⟨gu, 0, none⟩) := he 11 (by kernel_rfl) (by rfl)
        have h13 : A.tmps[13]?.getD undef = .agg (vwC (joins (V 0) [V 2, V 3, V 4, V 5])) := he 4 (by kernel_rfl) (by rfl)
        exact y_storeK rfl h20 h13 hMs.up (k := 0) (by omega) rfl vewSize HU.out.up.lt (fun _ _ => trivial) (hMs.setK 0 _ _ rfl)
      · obtain rfl : 14 = i := Option.some.inj hji
        injection ho with ho; subst ho
        refine .inl ⟨wanted_free rfl, ?_⟩
        have hMs : MayUp w V (mayAll V) gu (setV V 0 (joins (V 0) [V 2, V 3, V 4, V 5])) W := hMj
        have h21 : A.tmps[21]?.getD undef = .pointer (some ⟨gu, 8, none⟩) := he 13 (by kernel_rfl) (by rfl)
        have h19 : A.tmps[19]?.getD undef = .agg (vwC (maxF (V 1) (V 0))) := he 10 (by kernel_rfl) (by rfl)
        exact y_storeK rfl h21 h19 hMs.up (k := 1) (by omega) rfl vewSize HU.out.up.lt (fun _ _ => trivial) (hMs.setK 1 _ _ rfl)
      · simp at hji
    · intro xs W hz hMe hV
      have hMe : MayUp w V (mayAll V) gu (upV V) W := hMe
      simp only [putM, Act.put, List.setIfInBounds_toArray, List.set_cons_zero, List.set_cons_succ, Nat.zero_add, Nat.reduceAdd]
      clear hV
      have HE := Lib.hid hMe
      clear hMe hz HU
      cases hb : mayAll V
      ·
        have hm : Hid (may6F V = false) := Lib.hid (by unfold may6F; rw [hb]; rfl)
        rw [hb] at HE
        clear hb
        go_upto_region 5 with (fail)
        refine wp_flowQ [22, 23, 24, 25, 26, 27] [eqV (.bool false), eqV (.bool false), eqV undef, eqV undef, eqV undef, eqV (.bool false)] (by kernel_rfl) (by kernel_rfl) (by kernel_rfl) (by kernel_rfl) (by rfl)
          (by simp only [List.mem_cons, List.not_mem_nil, or_false, forall_eq_or_imp, forall_eq]; refine ⟨?_, ?_, ?_, ?_, ?_, ?_⟩ <;> (first | exact eqV_mono _ | exact rowV_mono _ _ _)) ?_ ?_
        · intro i o hi ho A W hW hk he
          simp only [List.length_cons, List.length_nil, Nat.zero_add, Nat.reduceAdd] at hi
          obtain rfl | rfl | rfl | rfl | rfl | rfl : i = 0 ∨ i = 1 ∨ i = 2 ∨ i = 3 ∨ i = 4 ∨ i = 5 := by omega
          · injection ho with ho; subst ho
            refine .inl ⟨wanted_free rfl, ?_⟩
            have h3 : A.tmps[3]?.getD undef = .pointer (some ⟨w.heap.size + 1, 0, none⟩) := hk 3 (by rfl)
            have c0 := ((HE.out.grown hW).may.at3).cell 0
            go_simp
            exact ⟨rfl, Below.refl _ _⟩
          · injection ho with ho; subst ho
            refine .inl ⟨wanted_free rfl, ?_⟩
            have h22 : A.tmps[22]?.getD undef = .bool false := he 0 (by kernel_rfl)
            go_simp
            exact ⟨rfl, Below.refl _ _⟩
          · injection ho with ho; subst ho
            have hg : A.tmps[23]?.getD undef = .bool false := he 1 (by kernel_rfl)
            exact .inr ⟨wanted_no (d := 23) rfl (by kernel_rfl) hg, rfl⟩
          · injection ho with ho; subst ho
            have hg : A.tmps[23]?.getD undef = .bool false := he 1 (by kernel_rfl)
            exact .inr ⟨wanted_no (d := 23) rfl (by kernel_rfl) hg, rfl⟩
          · injection ho with ho; subst ho
            have hg : A.tmps[23]?.getD undef = .bool false := he 1 (by kernel_rfl)
            exact .inr ⟨wanted_no (d := 23) rfl (by kernel_rfl) hg, rfl⟩
          · injection ho with ho; subst ho
            refine .inl ⟨wanted_free rfl, ?_⟩
            have h23 : A.tmps[23]?.getD undef = .bool false := he 1 (by kernel_rfl)
            have h26 : A.tmps[26]?.getD undef = undef := he 4 (by kernel_rfl)
            go_simp
            exact ⟨rfl, Below.refl _ _⟩
        · intro xs W hW hV
          have e27 : xs 5 = .bool false := hV 5 (by simp)
          simp only [List.length_cons, List.length_nil, Nat.zero_add, Nat.reduceAdd, List.drop_succ_cons, List.drop_zero, putL, Act.put, List.setIfInBounds_toArray, List.set_cons_zero, List.set_cons_succ, e27]
          clear hV e27
          have HL := Lib.hid (HE.out.grown hW)
          clear hW HE
          go_wp2_with fail
          go_ret
          exact ⟨by rw [hm.out]; rfl, HL.out.may.low⟩
      ·
        have hm : Hid (may6F V = sameV (upV V) V) := Lib.hid (by unfold may6F; rw [hb]; rfl)
        rw [hb] at HE
        clear hb
        go_upto_region 5 with (fail)
        refine wp_flowQ [22, 23, 24, 25, 26, 27] [eqV (.bool true), eqV (.bool true), eqV (.agg (vsC (upV V))), eqV (.agg (vsC (V))), eqV (.bool (sameV (upV V) V)), eqV (.bool (sameV (upV V) V))] (by kernel_rfl) (by kernel_rfl) (by kernel_rfl) (by kernel_rfl) (by rfl)
          (by simp only [List.mem_cons, List.not_mem_nil, or_false, forall_eq_or_imp, forall_eq]; refine ⟨?_, ?_, ?_, ?_, ?_, ?_⟩ <;> (first | exact eqV_mono _ | exact rowV_mono _ _ _)) ?_ ?_
        · intro i o hi ho A W hW hk he
          simp only [List.length_cons, List.length_nil, Nat.zero_add, Nat.reduceAdd] at hi
          obtain rfl | rfl | rfl | rfl | rfl | rfl : i = 0 ∨ i = 1 ∨ i = 2 ∨ i = 3 ∨ i = 4 ∨ i = 5 := by omega
          · injection ho with ho; subst ho
            refine .inl ⟨wanted_free rfl, ?_⟩
            have h3 : A.tmps[3]?.getD undef = .pointer (some ⟨w.heap.size + 1, 0, none⟩) := hk 3 (by rfl)
            have c0 := ((HE.out.grown hW).may.at3).cell 0
            go_simp
            exact ⟨rfl, Below.refl _ _⟩
          · injection ho with ho; subst ho
            refine .inl ⟨wanted_free rfl, ?_⟩
            have h22 : A.tmps[22]?.getD undef = .bool true := he 0 (by kernel_rfl)
            go_simp
            exact ⟨rfl, Below.refl _ _⟩
          · injection ho with ho; subst ho
            have hg : A.tmps[23]?.getD undef = .bool true := he 1 (by kernel_rfl)
            refine .inl ⟨wanted_yes (d := 23) rfl (by kernel_rfl) hg, ?_⟩
            have h4 : A.tmps[4]?.getD undef = .pointer (some ⟨gu, 0, none⟩) := hk 4 (by rfl)
            exact y_load (cs := vsC (upV V)) rfl h4 (sits_range ((HE.out.grown hW).up)) Try.underlying29 rfl vsSize
          · injection ho with ho; subst ho
            have hg : A.tmps[23]?.getD undef = .bool true := he 1 (by kernel_rfl)
            refine .inl ⟨wanted_yes (d := 23) rfl (by kernel_rfl) hg, ?_⟩
            have h1 : A.tmps[1]?.getD undef = .pointer (some ⟨w.heap.size, 0, none⟩) := hk 1 (by rfl)
            exact y_load (cs := vsC (V)) rfl h1 (sits_range ((HE.out.grown hW).may.at1)) Try.underlying29 rfl vsSize
          · injection ho with ho; subst ho
            have hg : A.tmps[23]?.getD undef = .bool true := he 1 (by kernel_rfl)
            refine .inl ⟨wanted_yes (d := 23) rfl (by kernel_rfl) hg, ?_⟩
            have h24 : A.tmps[24]?.getD undef = .agg (vsC (upV V)) := he 2 (by kernel_rfl)
            have h25 : A.tmps[25]?.getD undef = .agg (vsC (V)) := he 3 (by kernel_rfl)
            have hq := HQ.out W
            have hgd : ∀ x y, (eqGuard .eql 29 x y (.agg (vsC (upV V))) (.agg (vsC V))).run Try.prog W = .ok () W := fun x y => guard_vs .eql x y _ _ W
            generalize Value.agg (vsC (upV V)) = X at h24 hq hgd
            generalize Value.agg (vsC (V)) = Y at h25 hq hgd
            go_simp
            exact ⟨rfl, Below.refl _ _⟩
          · injection ho with ho; subst ho
            refine .inl ⟨wanted_free rfl, ?_⟩
            have h23 : A.tmps[23]?.getD undef = .bool true := he 1 (by kernel_rfl)
            have h26 : A.tmps[26]?.getD undef = .bool (sameV (upV V) V) := he 4 (by kernel_rfl)
            go_simp
            exact ⟨rfl, Below.refl _ _⟩
        · intro xs W hW hV
          have e27 : xs 5 = .bool (sameV (upV V) V) := hV 5 (by simp)
          simp only [List.length_cons, List.length_nil, Nat.zero_add, Nat.reduceAdd, List.drop_succ_cons, List.drop_zero, putL, Act.put, List.setIfInBounds_toArray, List.set_cons_zero, List.set_cons_succ, e27]
          clear hV e27
          have HL := Lib.hid (HE.out.grown hW)
          clear hW HE
          go_wp2_with fail
          go_ret
          exact ⟨by rw [hm.out]; rfl, HL.out.may.low⟩
end Go.Proofs.Ytanbkclomjbokaa.Tvw
