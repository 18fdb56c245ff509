/- Layer 13 (tview): acquire, release, each. -/
import Derived.Test.YtanbkclomjbokaaTvwB
namespace Go.Proofs.Ytanbkclomjbokaa.Tvw
open Go.RowKit Go.Proofs.Ytanbkclomjbokaa.Mem Go.Proofs.Ytanbkclomjbokaa.Flow Go.Proofs.Ytanbkclomjbokaa.Vew

/-- Six views lie there; who calls keeps all but some old blocks. -/
structure OneS (w : World) (X : Nat → Prop) (g : Nat) (V : Nat → Nat → Int) (W : World) : Prop where
  at1 : Sits W g 29 (vsC V)
  low : Keeps X w W
section
variable {w W W' : World} {X : Nat → Prop} {g : Nat} {V : Nat → Nat → Int}
theorem OneS.grown (h : OneS w X g V W) (hb : Below W.heap.size W W') : OneS w X g V W' := ⟨h.at1.below hb h.at1.lt, h.low.trans (Keeps.of_below hb)⟩
theorem OneS.setK (h : OneS w (· = g) g V W) (k o : Nat) (f : Nat → Int) (ho : o = 8 * k) : OneS w (· = g) g (setV V k f) (W.setCells g o (vwC f).toList) :=
  ⟨vs_set h.at1 k o f ho, h.low.trans (keeps_setCells W g o _)⟩
end
def acqV (V : Nat → Nat → Int) : Nat → Nat → Int := setV V 0 (maxF (V 1) (V 0))
theorem acq_enters : EntersV 20 := enters_of Try.func20 (by kernel_rfl) rfl
set_option maxRecDepth 100000 in
theorem acq_any (V : Nat → Nat → Int) (g : Nat) (w : World) (h : Sits w g 29 (vsC V)) :
    Calls Try.prog 20 #[.pointer (some ⟨g, 0, none⟩)] w fun e w' => e = .returned (.tuple #[]) ∧ OneS w (· = g) g (acqV V) w' := by
  have HB : Hid (OneS w (· = g) g V w) := Lib.hid ⟨h, Keeps.refl _ _⟩
  have hl := h.lt
  clear h
  go_enter Try.func20, Try.ntmps20
  go_upto_region 0 with (fail)
  refine wp_flowS1 [some 1, some 2, some 3, some 4, some 5, some 6, some 7, none] [7] [0, 0, 0, 0, 0, 0, 0, 0] [eqV (.pointer (some ⟨g, 8, none⟩)), eqV (.agg (vwC (V 1))), eqV (.pointer (some ⟨g, 0, none⟩)), eqV (.agg (vwC (V 0))), rowB _ 26 1 (vwC (V 0)), eqV (.agg (vwC (maxF (V 1) (V 0)))), eqV (.pointer (some ⟨g, 0, none⟩)), fun _ _ => True] (fun j W => match j with | 0 => OneS w (· = g) g V W | _ => OneS w (· = g) g (acqV V) W) (by kernel_rfl) (by kernel_rfl) (by kernel_rfl) (by rfl)
    (by simp only [List.mem_cons, List.not_mem_nil, or_false, forall_eq_or_imp, forall_eq]; refine ⟨?_, ?_, ?_, ?_, ?_, ?_, ?_, ?_⟩ <;> (first | exact eqV_monoB _ _ | exact rowB_mono _ _ _ _ | exact true_monoB _))
    (fun j W W' h hb => by rcases j with _ | j <;> first | exact (OneS.grown h hb)) (HB.out) ?_ ?_ ?_
  · intro i o hi ho hc j A W hj hz hMj hk he
    simp only [List.length_cons, List.length_nil, Nat.zero_add, Nat.reduceAdd] at hi
    obtain rfl | rfl | rfl | rfl | rfl | rfl | rfl | rfl : i = 0 ∨ i = 1 ∨ i = 2 ∨ i = 3 ∨ i = 4 ∨ i = 5 ∨ i = 6 ∨ i = 7 := by omega
    · injection ho with ho; subst ho
      refine .inl ⟨wanted_free rfl, ?_⟩
      have h0 : A.tmps[0]?.getD undef = .pointer (some ⟨g, 0, none⟩) := hk 0 (by rfl)
      go_simp
      exact ⟨rfl, Below.refl _ _⟩
    · obtain rfl : j = 0 := hj
      have hMs : OneS w (· = g) g V W := hMj
      injection ho with ho; subst ho
      refine .inl ⟨wanted_free rfl, ?_⟩
      have h1 : A.tmps[1]?.getD undef = .pointer (some ⟨g, 8, none⟩) := he 0 (by kernel_rfl) (by rfl)
      exact y_load (cs := vwC (V 1)) rfl h1 (vs_range (V := V) (hMs.at1) (1) _ (by omega) rfl) Try.underlying26 rfl vewSize
    · injection ho with ho; subst ho
      refine .inl ⟨wanted_free rfl, ?_⟩
      have h0 : A.tmps[0]?.getD undef = .pointer (some ⟨g, 0, none⟩) := hk 0 (by rfl)
      go_simp
      exact ⟨rfl, Below.refl _ _⟩
    · obtain rfl : j = 0 := hj
      have hMs : OneS w (· = g) g V W := hMj
      injection ho with ho; subst ho
      refine .inl ⟨wanted_free rfl, ?_⟩
      have h3 : A.tmps[3]?.getD undef = .pointer (some ⟨g, 0, none⟩) := he 2 (by kernel_rfl) (by rfl)
      exact y_load (cs := vwC (V 0)) rfl h3 (vs_range (V := V) (hMs.at1) (0) _ (by omega) rfl) Try.underlying26 rfl vewSize
    · injection ho with ho; subst ho
      refine .inl ⟨wanted_free rfl, ?_⟩
      have h4 : A.tmps[4]?.getD undef = .agg (vwC (V 0)) := he 3 (by kernel_rfl) (by rfl)
      exact y_oneB hz rfl h4
    · obtain rfl : j = 0 := hj
      have hMs : OneS w (· = g) g V W := hMj
      injection ho with ho; subst ho
      refine .inl ⟨wanted_free rfl, ?_⟩
      have h2 : A.tmps[2]?.getD undef = .agg (vwC (V 1)) := he 1 (by kernel_rfl) (by rfl)
      obtain ⟨gr5, hg5, h5, hr5⟩ : rowB _ 26 1 (vwC (V 0)) (A.tmps[5]?.getD undef) W := he 4 (by kernel_rfl) (by rfl)
      go_simp
      refine Calls.mono (join_v (V 1) (V 0) gr5 _ W hr5) ?_
      rintro e' w' ⟨rfl, hb⟩
      exact ⟨_, rfl, rfl, hb⟩
    · injection ho with ho; subst ho
      refine .inl ⟨wanted_free rfl, ?_⟩
      have h0 : A.tmps[0]?.getD undef = .pointer (some ⟨g, 0, none⟩) := hk 0 (by rfl)
      go_simp
      exact ⟨rfl, Below.refl _ _⟩
    · exact absurd hc (by decide)
  · intro j i o hji ho A W hz hMj hk he
    rcases j with _ | j
    · obtain rfl : 7 = i := Option.some.inj hji
      injection ho with ho; subst ho
      refine .inl ⟨wanted_free rfl, ?_⟩
      have hMs : OneS w (· = g) g V W := hMj
      have h7 : A.tmps[7]?.getD undef = .pointer (some ⟨g, 0, none⟩) := he 6 (by kernel_rfl) (by rfl)
      have h6 : A.tmps[6]?.getD undef = .agg (vwC (maxF (V 1) (V 0))) := he 5 (by kernel_rfl) (by rfl)
      exact y_storeK rfl h7 h6 hMs.at1 (k := 0) (by omega) rfl vewSize hl (fun _ _ => trivial) (hMs.setK 0 _ _ rfl)
    · simp at hji
  · intro xs W hz hMe hV
    have hMe : OneS w (· = g) g (acqV V) W := hMe
    simp only [putM, Act.put, List.setIfInBounds_toArray, List.set_cons_zero, List.set_cons_succ, Nat.zero_add, Nat.reduceAdd]
    clear hV
    go_wp2_with fail
    go_end0
    exact ⟨rfl, hMe⟩

/-- Two boxes at most beside it. -/
def relK (V : Nat → Nat → Int) : Nat → Nat → Nat → Int
  | 0 => V
  | k + 1 => setV (relK V k) (k + 2) (maxF (V (k + 2)) (relK V k 0))
def relV (V : Nat → Nat → Int) (k : Nat) : Nat → Int := if 2 ≤ k then maxF (V k) (V 0) else V k
theorem relK_0 (V : Nat → Nat → Int) (k : Nat) : relK V k 0 = V 0 := by
  induction k with
  | zero => rfl
  | succ k ih => rw [relK, setV_other _ _ _ _ (by omega), ih]
theorem relK_4 (V : Nat → Nat → Int) : vsC (relK V 4) = vsC (relV V) := vsC_congr fun j m hj _ => by
  simp only [relK, setV, relV]
  rcases (by omega : j = 0 ∨ j = 1 ∨ j = 2 ∨ j = 3 ∨ j = 4 ∨ j = 5) with rfl | rfl | rfl | rfl | rfl | rfl <;> simp
/-- The four views of a thread's rel. -/
def relC (V : Nat → Nat → Int) : Array Value := ((List.range 32).map fun i => Value.int .i64 (V (i / 8 + 2) (i % 8))).toArray
theorem relC_size (V : Nat → Nat → Int) : (relC V).size = 32 := by simp [relC]
theorem rel_range {W : World} {g : Nat} {t : TypeId} {V : Nat → Nat → Int} (h : Sits W g t (vsC V)) : W.rangeAt g 16 (relC V).toList := fun j v hv => by
  have hj : j < 32 := by
    have := (List.getElem?_eq_some_iff.1 hv).1
    simpa [relC_size] using this
  have e : v = .int .i64 (V (j / 8 + 2) (j % 8)) := by
    have : (relC V)[j]? = some (.int .i64 (V (j / 8 + 2) (j % 8))) := by simp [relC, hj]
    rw [← Array.getElem?_toList, hv] at this
    exact Option.some.inj this
  rw [h.cell, vsC_at V (j / 8 + 2) (j % 8) _ (by omega) (by omega) (by omega), e]
theorem extract_rel (V : Nat → Nat → Int) (k : Nat) (hk : k < 4) : (relC V).extract (k * 8) (k * 8 + 8) = vwC (V (k + 2)) := by
  apply Array.ext
  · simp [relC_size, vwC_size]; omega
  · intro j h1 h2
    have hj : j < 8 := by simpa [vwC_size] using h2
    have e1 : ((relC V).extract (k * 8) (k * 8 + 8))[j]? = some (.int .i64 (V (k + 2) j)) := by
      rw [Array.getElem?_extract_of_lt (by rw [relC_size]; omega)]
      have : (relC V)[k * 8 + j]? = some (.int .i64 (V ((k * 8 + j) / 8 + 2) ((k * 8 + j) % 8))) := by simp [relC, show k * 8 + j < 32 by omega]
      rw [Array.getElem?_eq_getElem (by rw [relC_size]; omega)] at this
      rw [this, show (k * 8 + j) / 8 = k by omega, show (k * 8 + j) % 8 = j by omega]
    have e2 := vwC_at (V (k + 2)) j hj
    rw [Array.getElem?_eq_getElem h1] at e1
    rw [Array.getElem?_eq_getElem h2] at e2
    injection e1.trans e2.symm
theorem run_index_rel (V : Nat → Nat → Int) (k : Nat) (hk : k < 4) (w : World) : (Instr.index 27 (.agg (relC V)) (.int .i64 (k : Nat))).run Try.prog w = .ok (.agg (vwC (V (k + 2)))) w := by
  have hz : (sizeOf 26).run Try.prog w = .ok 8 w := Try.sizeOf26 w
  have he := extract_rel V k hk
  simp [Instr.index, run_underlying Try.underlying27, asIntOf, part, hz, go_sem, he]
  intro h
  omega
structure RelAt (w : World) (X : Nat → Prop) (g : Nat) (V : Nat → Nat → Int) (gb : Nat) (f : Nat → Int) (W : World) : Prop where
  one : OneS w X g V W
  box : Sits W gb 26 (vwC f)
  ge : w.heap.size ≤ gb
section
variable {w W W' : World} {X : Nat → Prop} {g gb : Nat} {V : Nat → Nat → Int} {f : Nat → Int}
theorem RelAt.grown (h : RelAt w X g V gb f W) (hb : Below W.heap.size W W') : RelAt w X g V gb f W' := ⟨h.one.grown hb, h.box.below hb h.box.lt, h.ge⟩
theorem RelAt.setK (h : RelAt w (· = g) g V gb f W) (hg : g < w.heap.size) (k o : Nat) (u : Nat → Int) (ho : o = 8 * k) : RelAt w (· = g) g (setV V k u) gb f (W.setCells g o (vwC u).toList) :=
  ⟨h.one.setK k o u ho, h.box.keep (keeps_setCells W g o _) (by have := h.ge; omega), h.ge⟩
theorem OneS.boxed (h : OneS w X g V W) (f : Nat → Int) : RelAt w X g V W.heap.size f ((W.alloc (.cells zero8 26)).setRow W.heap.size (vwC f)) :=
  ⟨⟨(setRow_other _ _ _ _ (Nat.ne_of_lt h.at1.lt)).trans (h.at1.alloc _), keeps_new_row (h.low.alloc _) h.low.size⟩, setRow_heap _ _ _ _ _ _ (Sits.new _ _ _), h.low.size⟩
end
theorem rel_enters : EntersV 22 := enters_of Try.func22 (by kernel_rfl) rfl
set_option maxRecDepth 100000 in
set_option maxHeartbeats 2000000 in
theorem rel_any (V : Nat → Nat → Int) (g : Nat) (w : World) (h : Sits w g 29 (vsC V)) :
    Calls Try.prog 22 #[.pointer (some ⟨g, 0, none⟩)] w fun e w' => e = .returned (.tuple #[]) ∧ OneS w (· = g) g (relV V) w' := by
  have HB : Hid (OneS w (· = g) g V w) := Lib.hid ⟨h, Keeps.refl _ _⟩
  have hlg := Lib.hid h.lt
  clear h
  have x0 : ∀ W, (Instr.index 27 (.agg (relC V)) (.int .i64 0)).run Try.prog W = .ok (.agg (vwC (V 2))) W := run_index_rel V 0 (by decide)
  have x1 : ∀ W, (Instr.index 27 (.agg (relC V)) (.int .i64 1)).run Try.prog W = .ok (.agg (vwC (V 3))) W := run_index_rel V 1 (by decide)
  have x2 : ∀ W, (Instr.index 27 (.agg (relC V)) (.int .i64 2)).run Try.prog W = .ok (.agg (vwC (V 4))) W := run_index_rel V 2 (by decide)
  have x3 : ∀ W, (Instr.index 27 (.agg (relC V)) (.int .i64 3)).run Try.prog W = .ok (.agg (vwC (V 5))) W := run_index_rel V 3 (by decide)
  go_enter Try.func22, Try.ntmps22
  go_upto_region 0 with (fail)
  refine wp_flowS1 [some 3, some 4, some 5] [] [0, 0, 0] [eqV (.pointer (some ⟨g, 16, none⟩)), eqV (.agg (relC (V))), eqV (.int .i64 0)] (fun _ W => OneS w (· = g) g V W) (by kernel_rfl) (by kernel_rfl) (by kernel_rfl) (by rfl)
    (by simp only [List.mem_cons, List.not_mem_nil, or_false, forall_eq_or_imp, forall_eq]; refine ⟨?_, ?_, ?_⟩ <;> (first | exact eqV_monoB _ _ | exact rowB_mono _ _ _ _ | exact true_monoB _))
    (fun j W W' h hb => by exact (OneS.grown h hb)) (HB.out) ?_ ?_ ?_
  · intro i o hi ho hc j A W hj hz hMj hk he
    simp only [List.length_cons, List.length_nil, Nat.zero_add, Nat.reduceAdd] at hi
    obtain rfl | rfl | rfl : i = 0 ∨ i = 1 ∨ i = 2 := by omega
    · injection ho with ho; subst ho
      refine .inl ⟨wanted_free rfl, ?_⟩
      have h0 : A.tmps[0]?.getD undef = .pointer (some ⟨g, 0, none⟩) := hk 0 (by rfl)
      go_simp
      exact ⟨rfl, Below.refl _ _⟩
    · obtain rfl : j = 0 := hj
      have hMs : OneS w (· = g) g V W := hMj
      injection ho with ho; subst ho
      refine .inl ⟨wanted_free rfl, ?_⟩
      have h3 : A.tmps[3]?.getD undef = .pointer (some ⟨g, 16, none⟩) := he 0 (by kernel_rfl) (by rfl)
      exact y_load (cs := relC (V)) rfl h3 (rel_range (hMs.at1)) Try.underlying27 rfl arrvSize
    · injection ho with ho; subst ho
      refine .inl ⟨wanted_free rfl, ?_⟩
      go_simp
      exact ⟨rfl, Below.refl _ _⟩
  · intro j i o hji ho A W hz hMj hk he
    simp at hji
  · intro xs W hz hMe hV
    have hMe : OneS w (· = g) g V W := hMe
    have e4 : xs 1 = .agg (relC (V)) := hV 1 (by simp) rfl
    have e5 : xs 2 = .int .i64 0 := hV 2 (by simp) rfl
    simp only [putM, Act.put, List.setIfInBounds_toArray, List.set_cons_zero, List.set_cons_succ, Nat.zero_add, Nat.reduceAdd, e4, e5]
    clear hV e4 e5
    have HB0 : Hid (OneS w (· = g) g (relK V 0) W) := Lib.hid hMe
    clear hMe HB hz
    go_wp2_with fail
    refine wp_loop_rounds 5 ?_
    simp only [Code.rounds]
    go_upto_region 2 with (fail)
    go_upto_region 3 with (refine wpList_store_row rfl 26 _ _ rfl (W.heap.size) (vwC (V 2)) rfl rfl 26 zero8 (Sits.new _ _ _) vewSize rfl (vwC_one _) ?_)
    have HR0 := Lib.hid (HB0.out.boxed (V 2))
    generalize (W.alloc (.cells zero8 26)).setRow W.heap.size (vwC (V 2)) = X0 at HR0 ⊢
    generalize W.heap.size = gb0 at HR0 ⊢
    clear HB0
    refine wp_flowS1 [some 9, some 10, some 11, some 12, some 13, some 14, some 15, some 16, none] [8] [0, 0, 0, 0, 0, 0, 0, 0, 0] [eqV (.int .i64 (0)), eqV (.agg (vwC (V 2))), eqV (.pointer (some ⟨g, 0, none⟩)), eqV (.agg (vwC ((relK V 0) 0))), rowB _ 26 1 (vwC ((relK V 0) 0)), eqV (.agg (vwC (maxF (V 2) (relK V 0 0)))), eqV (.pointer (some ⟨g, 16, none⟩)), eqV (.pointer (some ⟨g, 16, none⟩)), fun _ _ => True] (fun j W => match j with | 0 => RelAt w (· = g) g (relK V 0) gb0 (V 2) W | _ => RelAt w (· = g) g (relK V 1) gb0 (V 2) W) (by kernel_rfl) (by kernel_rfl) (by kernel_rfl) (by rfl)
      (by simp only [List.mem_cons, List.not_mem_nil, or_false, forall_eq_or_imp, forall_eq]; refine ⟨?_, ?_, ?_, ?_, ?_, ?_, ?_, ?_, ?_⟩ <;> (first | exact eqV_monoB _ _ | exact rowB_mono _ _ _ _ | exact true_monoB _))
      (fun j W W' h hb => by rcases j with _ | j <;> first | exact (RelAt.grown h hb)) (HR0.out) ?_ ?_ ?_
    · intro i o hi ho hc j A W hj hz hMj hk he
      simp only [List.length_cons, List.length_nil, Nat.zero_add, Nat.reduceAdd] at hi
      obtain rfl | rfl | rfl | rfl | rfl | rfl | rfl | rfl | rfl : i = 0 ∨ i = 1 ∨ i = 2 ∨ i = 3 ∨ i = 4 ∨ i = 5 ∨ i = 6 ∨ i = 7 ∨ i = 8 := by omega
      · injection ho with ho; subst ho
        refine .inl ⟨wanted_free rfl, ?_⟩
        have h1 : A.tmps[1]?.getD undef = .int .i64 (0) := hk 1 (by rfl)
        go_simp
        exact ⟨rfl, Below.refl _ _⟩
      · obtain rfl : j = 0 := hj
        have hMs : RelAt w (· = g) g (relK V 0) gb0 (V 2) W := hMj
        injection ho with ho; subst ho
        refine .inl ⟨wanted_free rfl, ?_⟩
        have h2 : A.tmps[2]?.getD undef = .pointer (some ⟨gb0, 0, none⟩) := hk 2 (by rfl)
        exact y_load (cs := vwC (V 2)) rfl h2 (sits_range (hMs.box)) Try.underlying26 rfl vewSize
      · injection ho with ho; subst ho
        refine .inl ⟨wanted_free rfl, ?_⟩
        have h0 : A.tmps[0]?.getD undef = .pointer (some ⟨g, 0, none⟩) := hk 0 (by rfl)
        go_simp
        exact ⟨rfl, Below.refl _ _⟩
      · obtain rfl : j = 0 := hj
        have hMs : RelAt w (· = g) g (relK V 0) gb0 (V 2) W := hMj
        injection ho with ho; subst ho
        refine .inl ⟨wanted_free rfl, ?_⟩
        have h11 : A.tmps[11]?.getD undef = .pointer (some ⟨g, 0, none⟩) := he 2 (by kernel_rfl) (by rfl)
        exact y_load (cs := vwC ((relK V 0) 0)) rfl h11 (vs_range (V := relK V 0) (hMs.one.at1) (0) _ (by omega) rfl) Try.underlying26 rfl vewSize
      · injection ho with ho; subst ho
        refine .inl ⟨wanted_free rfl, ?_⟩
        have h12 : A.tmps[12]?.getD undef = .agg (vwC ((relK V 0) 0)) := he 3 (by kernel_rfl) (by rfl)
        exact y_oneB hz rfl h12
      · obtain rfl : j = 0 := hj
        have hMs : RelAt w (· = g) g (relK V 0) gb0 (V 2) W := hMj
        injection ho with ho; subst ho
        refine .inl ⟨wanted_free rfl, ?_⟩
        have h10 : A.tmps[10]?.getD undef = .agg (vwC (V 2)) := he 1 (by kernel_rfl) (by rfl)
        obtain ⟨gr13, hg13, h13, hr13⟩ : rowB _ 26 1 (vwC ((relK V 0) 0)) (A.tmps[13]?.getD undef) W := he 4 (by kernel_rfl) (by rfl)
        go_simp
        refine Calls.mono (join_v (V 2) (relK V 0 0) gr13 _ W hr13) ?_
        rintro e' w' ⟨rfl, hb⟩
        exact ⟨_, rfl, rfl, hb⟩
      · injection ho with ho; subst ho
        refine .inl ⟨wanted_free rfl, ?_⟩
        have h0 : A.tmps[0]?.getD undef = .pointer (some ⟨g, 0, none⟩) := hk 0 (by rfl)
        go_simp
        exact ⟨rfl, Below.refl _ _⟩
      · injection ho with ho; subst ho
        refine .inl ⟨wanted_free rfl, ?_⟩
        have h15 : A.tmps[15]?.getD undef = .pointer (some ⟨g, 16, none⟩) := he 6 (by kernel_rfl) (by rfl)
        have h9 : A.tmps[9]?.getD undef = .int .i64 (0) := he 0 (by kernel_rfl) (by rfl)
        go_simp
        exact ⟨rfl, Below.refl _ _⟩
      · exact absurd hc (by decide)
    · intro j i o hji ho A W hz hMj hk he
      rcases j with _ | j
      · obtain rfl : 8 = i := Option.some.inj hji
        injection ho with ho; subst ho
        refine .inl ⟨wanted_free rfl, ?_⟩
        have hMs : RelAt w (· = g) g (relK V 0) gb0 (V 2) W := hMj
        have h16 : A.tmps[16]?.getD undef = .pointer (some ⟨g, 16, none⟩) := he 7 (by kernel_rfl) (by rfl)
        have h14 : A.tmps[14]?.getD undef = .agg (vwC (maxF (V 2) (relK V 0 0))) := he 5 (by kernel_rfl) (by rfl)
        exact y_storeK rfl h16 h14 hMs.one.at1 (k := 2) (by omega) rfl vewSize (Nat.lt_of_lt_of_le hlg.out HR0.out.one.low.size) (fun _ _ => trivial) (hMs.setK hlg.out 2 _ _ rfl)
      · simp at hji
    · intro xs W hz hMe hV
      have hMe : RelAt w (· = g) g (relK V 1) gb0 (V 2) W := hMe
      simp only [putM, Act.put, List.setIfInBounds_toArray, List.set_cons_zero, List.set_cons_succ, Nat.zero_add, Nat.reduceAdd]
      clear hV
      generalize W = W0 at hMe ⊢
      have HB1 := Lib.hid hMe.one
      clear hMe hz HR0
      go_upto_region 2 with (fail)
      go_upto_region 3 with (refine wpList_store_row rfl 26 _ _ rfl (W0.heap.size) (vwC (V 3)) rfl rfl 26 zero8 (Sits.new _ _ _) vewSize rfl (vwC_one _) ?_)
      have HR1 := Lib.hid (HB1.out.boxed (V 3))
      generalize (W0.alloc (.cells zero8 26)).setRow W0.heap.size (vwC (V 3)) = X1 at HR1 ⊢
      generalize W0.heap.size = gb1 at HR1 ⊢
      clear HB1
      refine wp_flowS1 [some 9, some 10, some 11, some 12, some 13, some 14, some 15, some 16, none] [8] [0, 0, 0, 0, 0, 0, 0, 0, 0] [eqV (.int .i64 (1)), eqV (.agg (vwC (V 3))), eqV (.pointer (some ⟨g, 0, none⟩)), eqV (.agg (vwC ((relK V 1) 0))), rowB _ 26 1 (vwC ((relK V 1) 0)), eqV (.agg (vwC (maxF (V 3) (relK V 1 0)))), eqV (.pointer (some ⟨g, 16, none⟩)), eqV (.pointer (some ⟨g, 24, none⟩)), fun _ _ => True] (fun j W => match j with | 0 => RelAt w (· = g) g (relK V 1) gb1 (V 3) W | _ => RelAt w (· = g) g (relK V 2) gb1 (V 3) W) (by kernel_rfl) (by kernel_rfl) (by kernel_rfl) (by rfl)
        (by simp only [List.mem_cons, List.not_mem_nil, or_false, forall_eq_or_imp, forall_eq]; refine ⟨?_, ?_, ?_, ?_, ?_, ?_, ?_, ?_, ?_⟩ <;> (first | exact eqV_monoB _ _ | exact rowB_mono _ _ _ _ | exact true_monoB _))
        (fun j W W' h hb => by rcases j with _ | j <;> first | exact (RelAt.grown h hb)) (HR1.out) ?_ ?_ ?_
      · intro i o hi ho hc j A W hj hz hMj hk he
        simp only [List.length_cons, List.length_nil, Nat.zero_add, Nat.reduceAdd] at hi
        obtain rfl | rfl | rfl | rfl | rfl | rfl | rfl | rfl | rfl : i = 0 ∨ i = 1 ∨ i = 2 ∨ i = 3 ∨ i = 4 ∨ i = 5 ∨ i = 6 ∨ i = 7 ∨ i = 8 := by omega
        · injection ho with ho; subst ho
          refine .inl ⟨wanted_free rfl, ?_⟩
          have h1 : A.tmps[1]?.getD undef = .int .i64 (1) := hk 1 (by rfl)
          go_simp
          exact ⟨rfl, Below.refl _ _⟩
        · obtain rfl : j = 0 := hj
          have hMs : RelAt w (· = g) g (relK V 1) gb1 (V 3) W := hMj
          injection ho with ho; subst ho
          refine .inl ⟨wanted_free rfl, ?_⟩
          have h2 : A.tmps[2]?.getD undef = .pointer (some ⟨gb1, 0, none⟩) := hk 2 (by rfl)
          exact y_load (cs := vwC (V 3)) rfl h2 (sits_range (hMs.box)) Try.underlying26 rfl vewSize
        · injection ho with ho; subst ho
          refine .inl ⟨wanted_free rfl, ?_⟩
          have h0 : A.tmps[0]?.getD undef = .pointer (some ⟨g, 0, none⟩) := hk 0 (by rfl)
          go_simp
          exact ⟨rfl, Below.refl _ _⟩
        · obtain rfl : j = 0 := hj
          have hMs : RelAt w (· = g) g (relK V 1) gb1 (V 3) W := hMj
          injection ho with ho; subst ho
          refine .inl ⟨wanted_free rfl, ?_⟩
          have h11 : A.tmps[11]?.getD undef = .pointer (some ⟨g, 0, none⟩) := he 2 (by kernel_rfl) (by rfl)
          exact y_load (cs := vwC ((relK V 1) 0)) rfl h11 (vs_range (V := relK V 1) (hMs.one.at1) (0) _ (by omega) rfl) Try.underlying26 rfl vewSize
        · injection ho with ho; subst ho
          refine .inl ⟨wanted_free rfl, ?_⟩
          have h12 : A.tmps[12]?.getD undef = .agg (vwC ((relK V 1) 0)) := he 3 (by kernel_rfl) (by rfl)
          exact y_oneB hz rfl h12
        · obtain rfl : j = 0 := hj
          have hMs : RelAt w (· = g) g (relK V 1) gb1 (V 3) W := hMj
          injection ho with ho; subst ho
          refine .inl ⟨wanted_free rfl, ?_⟩
          have h10 : A.tmps[10]?.getD undef = .agg (vwC (V 3)) := he 1 (by kernel_rfl) (by rfl)
          obtain ⟨gr13, hg13, h13, hr13⟩ : rowB _ 26 1 (vwC ((relK V 1) 0)) (A.tmps[13]?.getD undef) W := he 4 (by kernel_rfl) (by rfl)
          go_simp
          refine Calls.mono (join_v (V 3) (relK V 1 0) gr13 _ W hr13) ?_
          rintro e' w' ⟨rfl, hb⟩
          exact ⟨_, rfl, rfl, hb⟩
        · injection ho with ho; subst ho
          refine .inl ⟨wanted_free rfl, ?_⟩
          have h0 : A.tmps[0]?.getD undef = .pointer (some ⟨g, 0, none⟩) := hk 0 (by rfl)
          go_simp
          exact ⟨rfl, Below.refl _ _⟩
        · injection ho with ho; subst ho
          refine .inl ⟨wanted_free rfl, ?_⟩
          have h15 : A.tmps[15]?.getD undef = .pointer (some ⟨g, 16, none⟩) := he 6 (by kernel_rfl) (by rfl)
          have h9 : A.tmps[9]?.getD undef = .int .i64 (1) := he 0 (by kernel_rfl) (by rfl)
          go_simp
          exact ⟨rfl, Below.refl _ _⟩
        · exact absurd hc (by decide)
      · intro j i o hji ho A W hz hMj hk he
        rcases j with _ | j
        · obtain rfl : 8 = i := Option.some.inj hji
          injection ho with ho; subst ho
          refine .inl ⟨wanted_free rfl, ?_⟩
          have hMs : RelAt w (· = g) g (relK V 1) gb1 (V 3) W := hMj
          have h16 : A.tmps[16]?.getD undef = .pointer (some ⟨g, 24, none⟩) := he 7 (by kernel_rfl) (by rfl)
          have h14 : A.tmps[14]?.getD undef = .agg (vwC (maxF (V 3) (relK V 1 0))) := he 5 (by kernel_rfl) (by rfl)
          exact y_storeK rfl h16 h14 hMs.one.at1 (k := 3) (by omega) rfl vewSize (Nat.lt_of_lt_of_le hlg.out HR1.out.one.low.size) (fun _ _ => trivial) (hMs.setK hlg.out 3 _ _ rfl)
        · simp at hji
      · intro xs W hz hMe hV
        have hMe : RelAt w (· = g) g (relK V 2) gb1 (V 3) W := hMe
        simp only [putM, Act.put, List.setIfInBounds_toArray, List.set_cons_zero, List.set_cons_succ, Nat.zero_add, Nat.reduceAdd]
        clear hV
        generalize W = W1 at hMe ⊢
        have HB2 := Lib.hid hMe.one
        clear hMe hz HR1
        go_upto_region 2 with (fail)
        go_upto_region 3 with (refine wpList_store_row rfl 26 _ _ rfl (W1.heap.size) (vwC (V 4)) rfl rfl 26 zero8 (Sits.new _ _ _) vewSize rfl (vwC_one _) ?_)
        have HR2 := Lib.hid (HB2.out.boxed (V 4))
        generalize (W1.alloc (.cells zero8 26)).setRow W1.heap.size (vwC (V 4)) = X2 at HR2 ⊢
        generalize W1.heap.size = gb2 at HR2 ⊢
        clear HB2
        refine wp_flowS1 [some 9, some 10, some 11, some 12, some 13, some 14, some 15, some 16, none] [8] [0, 0, 0, 0, 0, 0, 0, 0, 0] [eqV (.int .i64 (2)), eqV (.agg (vwC (V 4))), eqV (.pointer (some ⟨g, 0, none⟩)), eqV (.agg (vwC ((relK V 2) 0))), rowB _ 26 1 (vwC ((relK V 2) 0)), eqV (.agg (vwC (maxF (V 4) (relK V 2 0)))), eqV (.pointer (some ⟨g, 16, none⟩)), eqV (.pointer (some ⟨g, 32, none⟩)), fun _ _ => True] (fun j W => match j with | 0 => RelAt w (· = g) g (relK V 2) gb2 (V 4) W | _ => RelAt w (· = g) g (relK V 3) gb2 (V 4) W) (by kernel_rfl) (by kernel_rfl) (by kernel_rfl) (by rfl)
          (by simp only [List.mem_cons, List.not_mem_nil, or_false, forall_eq_or_imp, forall_eq]; refine ⟨?_, ?_, ?_, ?_, ?_, ?_, ?_, ?_, ?_⟩ <;> (first | exact eqV_monoB _ _ | exact rowB_mono _ _ _ _ | exact true_monoB _))
          (fun j W W' h hb => by rcases j with _ | j <;> first | exact (RelAt.grown h hb)) (HR2.out) ?_ ?_ ?_
        · intro i o hi ho hc j A W hj hz hMj hk he
          simp only [List.length_cons, List.length_nil, Nat.zero_add, Nat.reduceAdd] at hi
          obtain rfl | rfl | rfl | rfl | rfl | rfl | rfl | rfl | rfl : i = 0 ∨ i = 1 ∨ i = 2 ∨ i = 3 ∨ i = 4 ∨ i = 5 ∨ i = 6 ∨ i = 7 ∨ i = 8 := by omega
          · injection ho with ho; subst ho
            refine .inl ⟨wanted_free rfl, ?_⟩
            have h1 : A.tmps[1]?.getD undef = .int .i64 (2) := hk 1 (by rfl)
            go_simp
            exact ⟨rfl, Below.refl _ _⟩
          · obtain rfl : j = 0 := hj
            have hMs : RelAt w (· = g) g (relK V 2) gb2 (V 4) W := hMj
            injection ho with ho; subst ho
            refine .inl ⟨wanted_free rfl, ?_⟩
            have h2 : A.tmps[2]?.getD undef = .pointer (some ⟨gb2, 0, none⟩) := hk 2 (by rfl)
            exact y_load (cs := vwC (V 4)) rfl h2 (sits_range (hMs.box)) Try.underlying26 rfl vewSize
          · injection ho with ho; subst ho
            refine .inl ⟨wanted_free rfl, ?_⟩
            have h0 : A.tmps[0]?.getD undef = .pointer (some ⟨g, 0, none⟩) := hk 0 (by rfl)
            go_simp
            exact ⟨rfl, Below.refl _ _⟩
          · obtain rfl : j = 0 := hj
            have hMs : RelAt w (· = g) g (relK V 2) gb2 (V 4) W := hMj
            injection ho with ho; subst ho
            refine .inl ⟨wanted_free rfl, ?_⟩
            have h11 : A.tmps[11]?.getD undef = .pointer (some ⟨g, 0, none⟩) := he 2 (by kernel_rfl) (by rfl)
            exact y_load (cs := vwC ((relK V 2) 0)) rfl h11 (vs_range (V := relK V 2) (hMs.one.at1) (0) _ (by omega) rfl) Try.underlying26 rfl vewSize
          · injection ho with ho; subst ho
            refine .inl ⟨wanted_free rfl, ?_⟩
            have h12 : A.tmps[12]?.getD undef = .agg (vwC ((relK V 2) 0)) := he 3 (by kernel_rfl) (by rfl)
            exact y_oneB hz rfl h12
          · obtain rfl : j = 0 := hj
            have hMs : RelAt w (· = g) g (relK V 2) gb2 (V 4) W := hMj
            injection ho with ho; subst ho
            refine .inl ⟨wanted_free rfl, ?_⟩
            have h10 : A.tmps[10]?.getD undef = .agg (vwC (V 4)) := he 1 (by kernel_rfl) (by rfl)
            obtain ⟨gr13, hg13, h13, hr13⟩ : rowB _ 26 1 (vwC ((relK V 2) 0)) (A.tmps[13]?.getD undef) W := he 4 (by kernel_rfl) (by rfl)
            go_simp
            refine Calls.mono (join_v (V 4) (relK V 2 0) gr13 _ W hr13) ?_
            rintro e' w' ⟨rfl, hb⟩
            exact ⟨_, rfl, rfl, hb⟩
          · injection ho with ho; subst ho
            refine .inl ⟨wanted_free rfl, ?_⟩
            have h0 : A.tmps[0]?.getD undef = .pointer (some ⟨g, 0, none⟩) := hk 0 (by rfl)
            go_simp
            exact ⟨rfl, Below.refl _ _⟩
          · injection ho with ho; subst ho
            refine .inl ⟨wanted_free rfl, ?_⟩
            have h15 : A.tmps[15]?.getD undef = .pointer (some ⟨g, 16, none⟩) := he 6 (by kernel_rfl) (by rfl)
            have h9 : A.tmps[9]?.getD undef = .int .i64 (2) := he 0 (by kernel_rfl) (by rfl)
            go_simp
            exact ⟨rfl, Below.refl _ _⟩
          · exact absurd hc (by decide)
        · intro j i o hji ho A W hz hMj hk he
          rcases j with _ | j
          · obtain rfl : 8 = i := Option.some.inj hji
            injection ho with ho; subst ho
            refine .inl ⟨wanted_free rfl, ?_⟩
            have hMs : RelAt w (· = g) g (relK V 2) gb2 (V 4) W := hMj
            have h16 : A.tmps[16]?.getD undef = .pointer (some ⟨g, 32, none⟩) := he 7 (by kernel_rfl) (by rfl)
            have h14 : A.tmps[14]?.getD undef = .agg (vwC (maxF (V 4) (relK V 2 0))) := he 5 (by kernel_rfl) (by rfl)
            exact y_storeK rfl h16 h14 hMs.one.at1 (k := 4) (by omega) rfl vewSize (Nat.lt_of_lt_of_le hlg.out HR2.out.one.low.size) (fun _ _ => trivial) (hMs.setK hlg.out 4 _ _ rfl)
          · simp at hji
        · intro xs W hz hMe hV
          have hMe : RelAt w (· = g) g (relK V 3) gb2 (V 4) W := hMe
          simp only [putM, Act.put, List.setIfInBounds_toArray, List.set_cons_zero, List.set_cons_succ, Nat.zero_add, Nat.reduceAdd]
          clear hV
          generalize W = W2 at hMe ⊢
          have HB3 := Lib.hid hMe.one
          clear hMe hz HR2
          go_upto_region 2 with (fail)
          go_upto_region 3 with (refine wpList_store_row rfl 26 _ _ rfl (W2.heap.size) (vwC (V 5)) rfl rfl 26 zero8 (Sits.new _ _ _) vewSize rfl (vwC_one _) ?_)
          have HR3 := Lib.hid (HB3.out.boxed (V 5))
          generalize (W2.alloc (.cells zero8 26)).setRow W2.heap.size (vwC (V 5)) = X3 at HR3 ⊢
          generalize W2.heap.size = gb3 at HR3 ⊢
          clear HB3
          refine wp_flowS1 [some 9, some 10, some 11, some 12, some 13, some 14, some 15, some 16, none] [8] [0, 0, 0, 0, 0, 0, 0, 0, 0] [eqV (.int .i64 (3)), eqV (.agg (vwC (V 5))), eqV (.pointer (some ⟨g, 0, none⟩)), eqV (.agg (vwC ((relK V 3) 0))), rowB _ 26 1 (vwC ((relK V 3) 0)), eqV (.agg (vwC (maxF (V 5) (relK V 3 0)))), eqV (.pointer (some ⟨g, 16, none⟩)), eqV (.pointer (some ⟨g, 40, none⟩)), fun _ _ => True] (fun j W => match j with | 0 => RelAt w (· = g) g (relK V 3) gb3 (V 5) W | _ => RelAt w (· = g) g (relK V 4) gb3 (V 5) W) (by kernel_rfl) (by kernel_rfl) (by kernel_rfl) (by rfl)
            (by simp only [List.mem_cons, List.not_mem_nil, or_false, forall_eq_or_imp, forall_eq]; refine ⟨?_, ?_, ?_, ?_, ?_, ?_, ?_, ?_, ?_⟩ <;> (first | exact eqV_monoB _ _ | exact rowB_mono _ _ _ _ | exact true_monoB _))
            (fun j W W' h hb => by rcases j with _ | j <;> first | exact (RelAt.grown h hb)) (HR3.out) ?_ ?_ ?_
          · intro i o hi ho hc j A W hj hz hMj hk he
            simp only [List.length_cons, List.length_nil, Nat.zero_add, Nat.reduceAdd] at hi
            obtain rfl | rfl | rfl | rfl | rfl | rfl | rfl | rfl | rfl : i = 0 ∨ i = 1 ∨ i = 2 ∨ i = 3 ∨ i = 4 ∨ i = 5 ∨ i = 6 ∨ i = 7 ∨ i = 8 := by omega
            · injection ho with ho; subst ho
              refine .inl ⟨wanted_free rfl, ?_⟩
              have h1 : A.tmps[1]?.getD undef = .int .i64 (3) := hk 1 (by rfl)
              go_simp
              exact ⟨rfl, Below.refl _ _⟩
            · obtain rfl : j = 0 := hj
              have hMs : RelAt w (· = g) g (relK V 3) gb3 (V 5) W := hMj
              injection ho with ho; subst ho
              refine .inl ⟨wanted_free rfl, ?_⟩
              have h2 : A.tmps[2]?.getD undef = .pointer (some ⟨gb3, 0, none⟩) := hk 2 (by rfl)
              exact y_load (cs := vwC (V 5)) rfl h2 (sits_range (hMs.box)) Try.underlying26 rfl vewSize
            · injection ho with ho; subst ho
              refine .inl ⟨wanted_free rfl, ?_⟩
              have h0 : A.tmps[0]?.getD undef = .pointer (some ⟨g, 0, none⟩) := hk 0 (by rfl)
              go_simp
              exact ⟨rfl, Below.refl _ _⟩
            · obtain rfl : j = 0 := hj
              have hMs : RelAt w (· = g) g (relK V 3) gb3 (V 5) W := hMj
              injection ho with ho; subst ho
              refine .inl ⟨wanted_free rfl, ?_⟩
              have h11 : A.tmps[11]?.getD undef = .pointer (some ⟨g, 0, none⟩) := he 2 (by kernel_rfl) (by rfl)
              exact y_load (cs := vwC ((relK V 3) 0)) rfl h11 (vs_range (V := relK V 3) (hMs.one.at1) (0) _ (by omega) rfl) Try.underlying26 rfl vewSize
            · injection ho with ho; subst ho
              refine .inl ⟨wanted_free rfl, ?_⟩
              have h12 : A.tmps[12]?.getD undef = .agg (vwC ((relK V 3) 0)) := he 3 (by kernel_rfl) (by rfl)
              exact y_oneB hz rfl h12
            · obtain rfl : j = 0 := hj
              have hMs : RelAt w (· = g) g (relK V 3) gb3 (V 5) W := hMj
              injection ho with ho; subst ho
              refine .inl ⟨wanted_free rfl, ?_⟩
              have h10 : A.tmps[10]?.getD undef = .agg (vwC (V 5)) := he 1 (by kernel_rfl) (by rfl)
              obtain ⟨gr13, hg13, h13, hr13⟩ : rowB _ 26 1 (vwC ((relK V 3) 0)) (A.tmps[13]?.getD undef) W := he 4 (by kernel_rfl) (by rfl)
              go_simp
              refine Calls.mono (join_v (V 5) (relK V 3 0) gr13 _ W hr13) ?_
              rintro e' w' ⟨rfl, hb⟩
              exact ⟨_, rfl, rfl, hb⟩
            · injection ho with ho; subst ho
              refine .inl ⟨wanted_free rfl, ?_⟩
              have h0 : A.tmps[0]?.getD undef = .pointer (some ⟨g, 0, none⟩) := hk 0 (by rfl)
              go_simp
              exact ⟨rfl, Below.refl _ _⟩
            · injection ho with ho; subst ho
              refine .inl ⟨wanted_free rfl, ?_⟩
              have h15 : A.tmps[15]?.getD undef = .pointer (some ⟨g, 16, none⟩) := he 6 (by kernel_rfl) (by rfl)
              have h9 : A.tmps[9]?.getD undef = .int .i64 (3) := he 0 (by kernel_rfl) (by rfl)
              go_simp
              exact ⟨rfl, Below.refl _ _⟩
            · exact absurd hc (by decide)
          · intro j i o hji ho A W hz hMj hk he
            rcases j with _ | j
            · obtain rfl : 8 = i := Option.some.inj hji
              injection ho with ho; subst ho
              refine .inl ⟨wanted_free rfl, ?_⟩
              have hMs : RelAt w (· = g) g (relK V 3) gb3 (V 5) W := hMj
              have h16 : A.tmps[16]?.getD undef = .pointer (some ⟨g, 40, none⟩) := he 7 (by kernel_rfl) (by rfl)
              have h14 : A.tmps[14]?.getD undef = .agg (vwC (maxF (V 5) (relK V 3 0))) := he 5 (by kernel_rfl) (by rfl)
              exact y_storeK rfl h16 h14 hMs.one.at1 (k := 5) (by omega) rfl vewSize (Nat.lt_of_lt_of_le hlg.out HR3.out.one.low.size) (fun _ _ => trivial) (hMs.setK hlg.out 5 _ _ rfl)
            · simp at hji
          · intro xs W hz hMe hV
            have hMe : RelAt w (· = g) g (relK V 4) gb3 (V 5) W := hMe
            simp only [putM, Act.put, List.setIfInBounds_toArray, List.set_cons_zero, List.set_cons_succ, Nat.zero_add, Nat.reduceAdd]
            clear hV
            generalize W = W3 at hMe ⊢
            have HB4 := Lib.hid hMe.one
            clear hMe hz HR3
            go_wp2_with fail
            go_end0
            exact ⟨rfl, ⟨by rw [← relK_4]; exact HB4.out.at1, HB4.out.low⟩⟩

abbrev zero48 : Array Value := #[.int .i64 0, .int .i64 0, .int .i64 0, .int .i64 0, .int .i64 0, .int .i64 0, .int .i64 0, .int .i64 0, .int .i64 0, .int .i64 0, .int .i64 0, .int .i64 0, .int .i64 0, .int .i64 0, .int .i64 0, .int .i64 0, .int .i64 0, .int .i64 0, .int .i64 0, .int .i64 0, .int .i64 0, .int .i64 0, .int .i64 0, .int .i64 0, .int .i64 0, .int .i64 0, .int .i64 0, .int .i64 0, .int .i64 0, .int .i64 0, .int .i64 0, .int .i64 0, .int .i64 0, .int .i64 0, .int .i64 0, .int .i64 0, .int .i64 0, .int .i64 0, .int .i64 0, .int .i64 0, .int .i64 0, .int .i64 0, .int .i64 0, .int .i64 0, .int .i64 0, .int .i64 0, .int .i64 0, .int .i64 0]
theorem zero48_size : zero48.size = 48 := rfl
theorem below_cells {B : Nat} {W : World} {g o : Nat} {l : List Value} (hg : B ≤ g) : Below B W (W.setCells g o l) :=
  have k := keeps_setCells W g o l
  ⟨k.os, k.tape, k.output, by rw [setCells_size]; exact Nat.le_refl _, fun b hb => setCells_other g l o W b (by omega)⟩
theorem below_row {B : Nat} {W : World} {g : Nat} {cs : Array Value} (hg : B ≤ g) : Below B W (W.setRow g cs) :=
  ⟨rfl, rfl, rfl, by simp [World.setRow], fun b hb => setRow_other W g b cs (by omega)⟩
/-- A function value that says a view of a view, and remembers in old blocks alone what it has seen. -/
structure Turns (F : FuncId) (c : Array Value) (φ : (Nat → Int) → Nat → Int) (B : Nat) (X : Nat → Prop) (Inv : List (Nat → Int) → World → Prop) : Prop where
  enters : EntersV F
  old : ∀ b, X b → b < B
  keep : ∀ l w w', Inv l w → Below B w w' → Inv l w'
  call : ∀ l f w, Inv l w → B ≤ w.heap.size → Calls Try.prog F (#[.agg (vwC f)] ++ c) w fun e w' => e = .returned (.agg (vwC (φ f))) ∧ Inv (l ++ [f]) w' ∧ Keeps X w w'
structure EachAt (w : World) (X : Nat → Prop) (Inv : List (Nat → Int) → World → Prop) (r : Array Value) (l : List (Nat → Int)) (V : Nat → Nat → Int) (W : World) : Prop where
  at2 : Sits W w.heap.size 29 (vsC V)
  at4 : Sits W (w.heap.size + 1) 29 r
  inv : Inv l W
  low : Keeps X w W
  grow : w.heap.size + 2 ≤ W.heap.size
section
variable {w W W' : World} {X : Nat → Prop} {Inv : List (Nat → Int) → World → Prop} {l l' : List (Nat → Int)} {V : Nat → Nat → Int} {F : FuncId} {c r : Array Value} {φ : (Nat → Int) → Nat → Int}
theorem EachAt.grown (T : Turns F c φ w.heap.size X Inv) (h : EachAt w X Inv r l V W) (hb : Below W.heap.size W W') : EachAt w X Inv r l V W' :=
  ⟨h.at2.below hb h.at2.lt, h.at4.below hb h.at4.lt, T.keep _ _ _ h.inv (hb.mono (by have := h.grow; omega)), h.low.trans (Keeps.of_below hb), by have := h.grow; have := hb.size; omega⟩
theorem EachAt.setK (T : Turns F c φ w.heap.size X Inv) (h : EachAt w X Inv r l V W) (k o : Nat) (f : Nat → Int) (ho : o = 8 * k) : EachAt w X Inv r l (setV V k f) (W.setCells w.heap.size o (vwC f).toList) :=
  ⟨vs_set h.at2 k o f ho, (setCells_other _ _ _ _ _ (by omega)).trans h.at4, T.keep _ _ _ h.inv (below_cells (Nat.le_refl _)), keeps_new_cells h.low (Nat.le_refl _), by rw [setCells_size]; exact h.grow⟩
theorem EachAt.call (T : Turns F c φ w.heap.size X Inv) (h : EachAt w X Inv r l V W) (hi : Inv l' W') (hk : Keeps X W W') : EachAt w X Inv r l' V W' :=
  ⟨h.at2.keep hk (fun hx => by have := T.old _ hx; omega), h.at4.keep hk (fun hx => by have := T.old _ hx; omega), hi, h.low.trans hk, by have := h.grow; have := hk.size; omega⟩
theorem EachAt.out (T : Turns F c φ w.heap.size X Inv) (h : EachAt w X Inv r l V W) (u : Array Value) : EachAt w X Inv u l V (W.setRow (w.heap.size + 1) u) :=
  ⟨(setRow_other _ _ _ _ (by omega)).trans h.at2, setRow_heap _ _ _ _ _ _ h.at4, T.keep _ _ _ h.inv (below_row (by omega)), keeps_new_row h.low (by omega), by simpa [World.setRow] using h.grow⟩
theorem eachAt_new (T : Turns F c φ w.heap.size X Inv) (hi : Inv [] w) (V : Nat → Nat → Int) : EachAt w X Inv zero48 [] V ((w.alloc (.cells (vsC V) 29)).alloc (.cells zero48 29)) :=
  ⟨(Sits.new _ _ _).alloc _, Sits.made (by simp) _ _, T.keep _ _ _ hi (below_more (below_more (Below.refl _ w) (Nat.le_refl _) _) (by simp) _), ((Keeps.refl _ _).alloc _).alloc _, by simp⟩
structure EachBx (w : World) (X : Nat → Prop) (Inv : List (Nat → Int) → World → Prop) (r : Array Value) (gb : Nat) (f : Nat → Int) (l : List (Nat → Int)) (V : Nat → Nat → Int) (W : World) : Prop where
  at' : EachAt w X Inv r l V W
  box : Sits W gb 26 (vwC f)
  ge : w.heap.size + 2 ≤ gb
theorem EachBx.grown {gb : Nat} {f : Nat → Int} (T : Turns F c φ w.heap.size X Inv) (h : EachBx w X Inv r gb f l V W) (hb : Below W.heap.size W W') : EachBx w X Inv r gb f l V W' := ⟨h.at'.grown T hb, h.box.below hb h.box.lt, h.ge⟩
theorem EachBx.setK {gb : Nat} {u : Nat → Int} (T : Turns F c φ w.heap.size X Inv) (h : EachBx w X Inv r gb u l V W) (k o : Nat) (f : Nat → Int) (ho : o = 8 * k) : EachBx w X Inv r gb u l (setV V k f) (W.setCells w.heap.size o (vwC f).toList) :=
  ⟨h.at'.setK T k o f ho, (setCells_other _ _ _ _ _ (by have := h.ge; omega)).trans h.box, h.ge⟩
theorem EachBx.call {gb : Nat} {u : Nat → Int} (T : Turns F c φ w.heap.size X Inv) (h : EachBx w X Inv r gb u l V W) (hi : Inv l' W') (hk : Keeps X W W') : EachBx w X Inv r gb u l' V W' :=
  ⟨h.at'.call T hi hk, h.box.keep hk (fun hx => by have := T.old _ hx; have := h.ge; omega), h.ge⟩
theorem EachAt.boxed (T : Turns F c φ w.heap.size X Inv) (h : EachAt w X Inv r l V W) (f : Nat → Int) : EachBx w X Inv r W.heap.size f l V ((W.alloc (.cells zero8 26)).setRow W.heap.size (vwC f)) := by
  have g := h.grow
  exact ⟨⟨(setRow_other _ _ _ _ (Nat.ne_of_lt h.at2.lt)).trans (h.at2.alloc _), (setRow_other _ _ _ _ (Nat.ne_of_lt h.at4.lt)).trans (h.at4.alloc _), T.keep _ _ _ h.inv (((Below.refl _ W).alloc (by omega) _).trans (below_row (by omega))), keeps_new_row (h.low.alloc _) h.low.size, by simp [World.setRow]; omega⟩,
    setRow_heap _ _ _ _ _ _ (Sits.new _ _ _), g⟩
end
theorem relC_each (φ : (Nat → Int) → Nat → Int) (V : Nat → Nat → Int) : relC (setV (setV V 0 (φ (V 0))) 1 (φ (V 1))) = relC V := by
  unfold relC setV
  congr 1
def eachK (φ : (Nat → Int) → Nat → Int) (V : Nat → Nat → Int) : Nat → Nat → Nat → Int
  | 0 => setV (setV V 0 (φ (V 0))) 1 (φ (V 1))
  | k + 1 => setV (eachK φ V k) (k + 2) (φ (V (k + 2)))
theorem eachK_4 (φ : (Nat → Int) → Nat → Int) (V : Nat → Nat → Int) : vsC (eachK φ V 4) = vsC fun k => φ (V k) := vsC_congr fun j m hj _ => by
  simp only [eachK, setV]
  rcases (by omega : j = 0 ∨ j = 1 ∨ j = 2 ∨ j = 3 ∨ j = 4 ∨ j = 5) with rfl | rfl | rfl | rfl | rfl | rfl <;> simp
theorem result_s {fn : Func} {p : Tmp} (h : fn.results = #[.cell p 29]) {T : Array Value} {W : World} {g : Nat} {V : Nat → Nat → Int} (hp : T.getD p undef = .pointer (some ⟨g, 0, none⟩)) (hs : Sits W g 29 (vsC V)) :
    (results fn T).run Try.prog W = .ok (.agg (vsC V)) W := results_cell_row h T W g _ _ _ _ hp hs Try.underlying29 rfl (by rw [vsC_size]; exact vsSize)
set_option maxRecDepth 100000 in
set_option maxHeartbeats 4000000 in
theorem each_any {F : FuncId} {c : Array Value} {φ : (Nat → Int) → Nat → Int} {X : Nat → Prop} {Inv : List (Nat → Int) → World → Prop} (w : World) (T : Turns F c φ w.heap.size X Inv) (V : Nat → Nat → Int) (hi : Inv [] w) :
    Calls Try.prog 24 #[.agg (vsC V), .func (.func F) #[] c] w fun e w' => e = .returned (.agg (vsC fun k => φ (V k))) ∧ Inv [V 0, V 1, V 2, V 3, V 4, V 5] w' ∧ Keeps X w w' := by
  have HB := Lib.hid (eachAt_new T hi V)
  have HT := Lib.hid T
  have en := T.enters
  unfold EntersV at en
  clear hi T
  have x0 : ∀ W, (Instr.index 27 (.agg (relC V)) (.int .i64 0)).run Try.prog W = .ok (.agg (vwC (V 2))) W := run_index_rel V 0 (by decide)
  have x1 : ∀ W, (Instr.index 27 (.agg (relC V)) (.int .i64 1)).run Try.prog W = .ok (.agg (vwC (V 3))) W := run_index_rel V 1 (by decide)
  have x2 : ∀ W, (Instr.index 27 (.agg (relC V)) (.int .i64 2)).run Try.prog W = .ok (.agg (vwC (V 4))) W := run_index_rel V 2 (by decide)
  have x3 : ∀ W, (Instr.index 27 (.agg (relC V)) (.int .i64 3)).run Try.prog W = .ok (.agg (vwC (V 5))) W := run_index_rel V 3 (by decide)
  go_enter Try.func24, Try.ntmps24
  go_upto_region 1 with (fail)
  generalize (w.alloc (.cells (vsC V) 29)).alloc (.cells zero48 29) = w0 at HB ⊢
  refine wp_flowM [some 7, some 8, some 9, some 10, some 11, some 12, some 13, some 14, some 15, none, some 16, none] [3, 7, 9, 11] [0, 2, 0, 0, 1, 2, 1, 0, 2, 0, 3, 0] [eqV (.func (.func F) #[] c), eqV (.pointer (some ⟨w.heap.size, 0, none⟩)), eqV (.agg (vwC (V 0))), eqV (.agg (vwC (φ (V 0)))), eqV (.func (.func F) #[] c), eqV (.pointer (some ⟨w.heap.size, 8, none⟩)), eqV (.agg (vwC (V 1))), eqV (.agg (vwC (φ (V 1)))), eqV (.pointer (some ⟨w.heap.size, 0, none⟩)), fun _ _ => True, eqV (.pointer (some ⟨w.heap.size, 8, none⟩)), fun _ _ => True] (fun j W => match j with | 0 => EachAt w X Inv zero48 [] (V) W | 1 => EachAt w X Inv zero48 [V 0] (V) W | 2 => EachAt w X Inv zero48 [V 0, V 1] (V) W | 3 => EachAt w X Inv zero48 [V 0, V 1] (setV V 0 (φ (V 0))) W | _ => EachAt w X Inv zero48 [V 0, V 1] (eachK φ V 0) W) (by kernel_rfl) (by kernel_rfl) (by kernel_rfl) (by rfl)
    (by simp only [List.mem_cons, List.not_mem_nil, or_false, forall_eq_or_imp, forall_eq]; refine ⟨?_, ?_, ?_, ?_, ?_, ?_, ?_, ?_, ?_, ?_, ?_, ?_⟩ <;> (first | exact eqV_monoB _ _ | exact rowB_mono _ _ _ _ | exact true_monoB _))
    (fun j W W' h hb => by rcases j with _ | _ | _ | _ | j <;> first | exact (EachAt.grown HT.out h hb)) (HB.out) ?_ ?_ ?_
  · intro i o hi ho hc j A W hj hz hMj hk he
    simp only [List.length_cons, List.length_nil, Nat.zero_add, Nat.reduceAdd] at hi
    obtain rfl | rfl | rfl | rfl | rfl | rfl | rfl | rfl | rfl | rfl | rfl | rfl : i = 0 ∨ i = 1 ∨ i = 2 ∨ i = 3 ∨ i = 4 ∨ i = 5 ∨ i = 6 ∨ i = 7 ∨ i = 8 ∨ i = 9 ∨ i = 10 ∨ i = 11 := by omega
    · injection ho with ho; subst ho
      refine .inl ⟨wanted_free rfl, ?_⟩
      have h1 : A.tmps[1]?.getD undef = .func (.func F) #[] c := hk 1 (by rfl)
      go_simp
      exact ⟨rfl, Below.refl _ _⟩
    · injection ho with ho; subst ho
      refine .inl ⟨wanted_free rfl, ?_⟩
      have h2 : A.tmps[2]?.getD undef = .pointer (some ⟨w.heap.size, 0, none⟩) := hk 2 (by rfl)
      go_simp
      exact ⟨rfl, Below.refl _ _⟩
    · obtain rfl : j = 0 := Nat.le_zero.1 hj
      have hMs : EachAt w X Inv zero48 [] (V) W := hMj
      injection ho with ho; subst ho
      refine .inl ⟨wanted_free rfl, ?_⟩
      have h8 : A.tmps[8]?.getD undef = .pointer (some ⟨w.heap.size, 0, none⟩) := he 1 (by kernel_rfl) (by rfl)
      exact y_load (cs := vwC (V 0)) rfl h8 (vs_range (V := V) (hMs.at2) (0) _ (by omega) rfl) Try.underlying26 rfl vewSize
    · exact absurd hc (by decide)
    · injection ho with ho; subst ho
      refine .inl ⟨wanted_free rfl, ?_⟩
      have h1 : A.tmps[1]?.getD undef = .func (.func F) #[] c := hk 1 (by rfl)
      go_simp
      exact ⟨rfl, Below.refl _ _⟩
    · injection ho with ho; subst ho
      refine .inl ⟨wanted_free rfl, ?_⟩
      have h2 : A.tmps[2]?.getD undef = .pointer (some ⟨w.heap.size, 0, none⟩) := hk 2 (by rfl)
      go_simp
      exact ⟨rfl, Below.refl _ _⟩
    · have hj2 : j ≤ 1 := hj
      rcases j with _ | _ | j
      · have hMs : EachAt w X Inv zero48 [] (V) W := hMj
        injection ho with ho; subst ho
        refine .inl ⟨wanted_free rfl, ?_⟩
        have h12 : A.tmps[12]?.getD undef = .pointer (some ⟨w.heap.size, 8, none⟩) := he 5 (by kernel_rfl) (by rfl)
        exact y_load (cs := vwC (V 1)) rfl h12 (vs_range (V := V) (hMs.at2) (1) _ (by omega) rfl) Try.underlying26 rfl vewSize
      · have hMs : EachAt w X Inv zero48 [V 0] (V) W := hMj
        injection ho with ho; subst ho
        refine .inl ⟨wanted_free rfl, ?_⟩
        have h12 : A.tmps[12]?.getD undef = .pointer (some ⟨w.heap.size, 8, none⟩) := he 5 (by kernel_rfl) (by rfl)
        exact y_load (cs := vwC (V 1)) rfl h12 (vs_range (V := V) (hMs.at2) (1) _ (by omega) rfl) Try.underlying26 rfl vewSize
      · omega
    · exact absurd hc (by decide)
    · injection ho with ho; subst ho
      refine .inl ⟨wanted_free rfl, ?_⟩
      have h2 : A.tmps[2]?.getD undef = .pointer (some ⟨w.heap.size, 0, none⟩) := hk 2 (by rfl)
      go_simp
      exact ⟨rfl, Below.refl _ _⟩
    · exact absurd hc (by decide)
    · injection ho with ho; subst ho
      refine .inl ⟨wanted_free rfl, ?_⟩
      have h2 : A.tmps[2]?.getD undef = .pointer (some ⟨w.heap.size, 0, none⟩) := hk 2 (by rfl)
      go_simp
      exact ⟨rfl, Below.refl _ _⟩
    · exact absurd hc (by decide)
  · intro j i o hji ho A W hz hMj hk he
    rcases j with _ | _ | _ | _ | j
    · obtain rfl : 3 = i := Option.some.inj hji
      injection ho with ho; subst ho
      refine .inl ⟨wanted_free rfl, ?_⟩
      have hMs : EachAt w X Inv zero48 [] (V) W := hMj
      have h7 : A.tmps[7]?.getD undef = .func (.func F) #[] c := he 0 (by kernel_rfl) (by rfl)
      have h9 : A.tmps[9]?.getD undef = .agg (vwC (V 0)) := he 2 (by kernel_rfl) (by rfl)
      go_simp
      refine Calls.mono (HT.out.call _ (V 0) _ hMs.inv (by have := hMs.grow; omega)) ?_
      rintro e' w' ⟨rfl, hi, hk⟩
      exact ⟨_, rfl, rfl, hk.wider (fun b _ hx => by have := HT.out.old _ hx; have := HB.out.grow; omega), EachAt.call HT.out hMs hi hk⟩
    · obtain rfl : 7 = i := Option.some.inj hji
      injection ho with ho; subst ho
      refine .inl ⟨wanted_free rfl, ?_⟩
      have hMs : EachAt w X Inv zero48 [V 0] (V) W := hMj
      have h11 : A.tmps[11]?.getD undef = .func (.func F) #[] c := he 4 (by kernel_rfl) (by rfl)
      have h13 : A.tmps[13]?.getD undef = .agg (vwC (V 1)) := he 6 (by kernel_rfl) (by rfl)
      go_simp
      refine Calls.mono (HT.out.call _ (V 1) _ hMs.inv (by have := hMs.grow; omega)) ?_
      rintro e' w' ⟨rfl, hi, hk⟩
      exact ⟨_, rfl, rfl, hk.wider (fun b _ hx => by have := HT.out.old _ hx; have := HB.out.grow; omega), EachAt.call HT.out hMs hi hk⟩
    · obtain rfl : 9 = i := Option.some.inj hji
      injection ho with ho; subst ho
      refine .inl ⟨wanted_free rfl, ?_⟩
      have hMs : EachAt w X Inv zero48 [V 0, V 1] (V) W := hMj
      have h15 : A.tmps[15]?.getD undef = .pointer (some ⟨w.heap.size, 0, none⟩) := he 8 (by kernel_rfl) (by rfl)
      have h10 : A.tmps[10]?.getD undef = .agg (vwC (φ (V 0))) := he 3 (by kernel_rfl) (by rfl)
      exact y_storeK rfl h15 h10 hMs.at2 (k := 0) (by omega) rfl vewSize (by have := HB.out.grow; omega) (fun _ _ => trivial) (hMs.setK HT.out 0 _ _ rfl)
    · obtain rfl : 11 = i := Option.some.inj hji
      injection ho with ho; subst ho
      refine .inl ⟨wanted_free rfl, ?_⟩
      have hMs : EachAt w X Inv zero48 [V 0, V 1] (setV V 0 (φ (V 0))) W := hMj
      have h16 : A.tmps[16]?.getD undef = .pointer (some ⟨w.heap.size, 8, none⟩) := he 10 (by kernel_rfl) (by rfl)
      have h14 : A.tmps[14]?.getD undef = .agg (vwC (φ (V 1))) := he 7 (by kernel_rfl) (by rfl)
      exact y_storeK rfl h16 h14 hMs.at2 (k := 1) (by omega) rfl vewSize (by have := HB.out.grow; omega) (fun _ _ => trivial) (hMs.setK HT.out 1 _ _ rfl)
    · simp at hji
  · intro xs W hz hMe hV
    have hMe : EachAt w X Inv zero48 [V 0, V 1] (eachK φ V 0) W := hMe
    simp only [putM, Act.put, List.setIfInBounds_toArray, List.set_cons_zero, List.set_cons_succ, Nat.zero_add, Nat.reduceAdd]
    clear hV
    have HB0 := Lib.hid hMe
    clear hMe HB hz
    go_upto_region 2 with (fail)
    refine wp_flowS1 [some 17, some 18, some 19] [] [0, 0, 0] [eqV (.pointer (some ⟨w.heap.size, 16, none⟩)), eqV (.agg (relC V)), eqV (.int .i64 0)] (fun _ W => EachAt w X Inv zero48 [V 0, V 1] (eachK φ V 0) W) (by kernel_rfl) (by kernel_rfl) (by kernel_rfl) (by rfl)
      (by simp only [List.mem_cons, List.not_mem_nil, or_false, forall_eq_or_imp, forall_eq]; refine ⟨?_, ?_, ?_⟩ <;> (first | exact eqV_monoB _ _ | exact rowB_mono _ _ _ _ | exact true_monoB _))
      (fun j W W' h hb => by exact (EachAt.grown HT.out h hb)) (HB0.out) ?_ ?_ ?_
    · intro i o hi ho hc j A W hj hz hMj hk he
      simp only [List.length_cons, List.length_nil, Nat.zero_add, Nat.reduceAdd] at hi
      obtain rfl | rfl | rfl : i = 0 ∨ i = 1 ∨ i = 2 := by omega
      · injection ho with ho; subst ho
        refine .inl ⟨wanted_free rfl, ?_⟩
        have h2 : A.tmps[2]?.getD undef = .pointer (some ⟨w.heap.size, 0, none⟩) := hk 2 (by rfl)
        go_simp
        exact ⟨rfl, Below.refl _ _⟩
      · obtain rfl : j = 0 := hj
        have hMs : EachAt w X Inv zero48 [V 0, V 1] (eachK φ V 0) W := hMj
        injection ho with ho; subst ho
        refine .inl ⟨wanted_free rfl, ?_⟩
        have h17 : A.tmps[17]?.getD undef = .pointer (some ⟨w.heap.size, 16, none⟩) := he 0 (by kernel_rfl) (by rfl)
        exact y_load (cs := relC V) rfl h17 (by rw [← relC_each φ V]; exact rel_range hMs.at2) Try.underlying27 rfl arrvSize
      · injection ho with ho; subst ho
        refine .inl ⟨wanted_free rfl, ?_⟩
        go_simp
        exact ⟨rfl, Below.refl _ _⟩
    · intro j i o hji ho A W hz hMj hk he
      simp at hji
    · intro xs W hz hMe hV
      have hMe : EachAt w X Inv zero48 [V 0, V 1] (eachK φ V 0) W := hMe
      have e18 : xs 1 = .agg (relC V) := hV 1 (by simp) rfl
      have e19 : xs 2 = .int .i64 0 := hV 2 (by simp) rfl
      simp only [putM, Act.put, List.setIfInBounds_toArray, List.set_cons_zero, List.set_cons_succ, Nat.zero_add, Nat.reduceAdd, e18, e19]
      clear hV e18 e19
      have HB0 := Lib.hid hMe
      clear hMe hz
      go_wp2_with fail
      refine wp_loop_rounds 5 ?_
      simp only [Code.rounds]
      go_upto_region 4 with (fail)
      go_upto_region 5 with (refine wpList_store_row rfl 26 _ _ rfl (W.heap.size) (vwC (V 2)) rfl rfl 26 zero8 (Sits.new _ _ _) vewSize rfl (vwC_one _) ?_)
      have HR0 := Lib.hid (HB0.out.boxed HT.out (V 2))
      generalize (W.alloc (.cells zero8 26)).setRow W.heap.size (vwC (V 2)) = X0 at HR0 ⊢
      generalize W.heap.size = gb0 at HR0 ⊢
      clear HB0
      refine wp_flowS1 [some 23, some 24, some 25, some 26, some 27, some 28, none] [3, 6] [0, 0, 0, 0, 1, 1, 0] [eqV (.int .i64 (0)), eqV (.func (.func F) #[] c), eqV (.agg (vwC (V 2))), eqV (.agg (vwC (φ (V 2)))), eqV (.pointer (some ⟨w.heap.size, 16, none⟩)), eqV (.pointer (some ⟨w.heap.size, 16, none⟩)), fun _ _ => True] (fun j W => match j with | 0 => EachBx w X Inv zero48 gb0 (V 2) [V 0, V 1] (eachK φ V 0) W | 1 => EachBx w X Inv zero48 gb0 (V 2) [V 0, V 1, V 2] (eachK φ V 0) W | _ => EachBx w X Inv zero48 gb0 (V 2) [V 0, V 1, V 2] (eachK φ V 1) W) (by kernel_rfl) (by kernel_rfl) (by kernel_rfl) (by rfl)
        (by simp only [List.mem_cons, List.not_mem_nil, or_false, forall_eq_or_imp, forall_eq]; refine ⟨?_, ?_, ?_, ?_, ?_, ?_, ?_⟩ <;> (first | exact eqV_monoB _ _ | exact rowB_mono _ _ _ _ | exact true_monoB _))
        (fun j W W' h hb => by rcases j with _ | _ | j <;> first | exact (EachBx.grown HT.out h hb)) (HR0.out) ?_ ?_ ?_
      · intro i o hi ho hc j A W hj hz hMj hk he
        simp only [List.length_cons, List.length_nil, Nat.zero_add, Nat.reduceAdd] at hi
        obtain rfl | rfl | rfl | rfl | rfl | rfl | rfl : i = 0 ∨ i = 1 ∨ i = 2 ∨ i = 3 ∨ i = 4 ∨ i = 5 ∨ i = 6 := by omega
        · injection ho with ho; subst ho
          refine .inl ⟨wanted_free rfl, ?_⟩
          have h5 : A.tmps[5]?.getD undef = .int .i64 (0) := hk 5 (by rfl)
          go_simp
          exact ⟨rfl, Below.refl _ _⟩
        · injection ho with ho; subst ho
          refine .inl ⟨wanted_free rfl, ?_⟩
          have h1 : A.tmps[1]?.getD undef = .func (.func F) #[] c := hk 1 (by rfl)
          go_simp
          exact ⟨rfl, Below.refl _ _⟩
        · obtain rfl : j = 0 := hj
          have hMs : EachBx w X Inv zero48 gb0 (V 2) [V 0, V 1] (eachK φ V 0) W := hMj
          injection ho with ho; subst ho
          refine .inl ⟨wanted_free rfl, ?_⟩
          have h6 : A.tmps[6]?.getD undef = .pointer (some ⟨gb0, 0, none⟩) := hk 6 (by rfl)
          exact y_load (cs := vwC (V 2)) rfl h6 (sits_range (hMs.box)) Try.underlying26 rfl vewSize
        · exact absurd hc (by decide)
        · injection ho with ho; subst ho
          refine .inl ⟨wanted_free rfl, ?_⟩
          have h2 : A.tmps[2]?.getD undef = .pointer (some ⟨w.heap.size, 0, none⟩) := hk 2 (by rfl)
          go_simp
          exact ⟨rfl, Below.refl _ _⟩
        · injection ho with ho; subst ho
          refine .inl ⟨wanted_free rfl, ?_⟩
          have h27 : A.tmps[27]?.getD undef = .pointer (some ⟨w.heap.size, 16, none⟩) := he 4 (by kernel_rfl) (by rfl)
          have h23 : A.tmps[23]?.getD undef = .int .i64 (0) := he 0 (by kernel_rfl) (by rfl)
          go_simp
          exact ⟨rfl, Below.refl _ _⟩
        · exact absurd hc (by decide)
      · intro j i o hji ho A W hz hMj hk he
        rcases j with _ | _ | j
        · obtain rfl : 3 = i := Option.some.inj hji
          injection ho with ho; subst ho
          refine .inl ⟨wanted_free rfl, ?_⟩
          have hMs : EachBx w X Inv zero48 gb0 (V 2) [V 0, V 1] (eachK φ V 0) W := hMj
          have h24 : A.tmps[24]?.getD undef = .func (.func F) #[] c := he 1 (by kernel_rfl) (by rfl)
          have h25 : A.tmps[25]?.getD undef = .agg (vwC (V 2)) := he 2 (by kernel_rfl) (by rfl)
          go_simp
          refine Calls.mono (HT.out.call _ (V 2) _ hMs.at'.inv (by have := hMs.at'.grow; omega)) ?_
          rintro e' w' ⟨rfl, hi, hk⟩
          exact ⟨_, rfl, rfl, hk.wider (fun b _ hx => by have := HT.out.old _ hx; have := HR0.out.at'.grow; omega), EachBx.call HT.out hMs hi hk⟩
        · obtain rfl : 6 = i := Option.some.inj hji
          injection ho with ho; subst ho
          refine .inl ⟨wanted_free rfl, ?_⟩
          have hMs : EachBx w X Inv zero48 gb0 (V 2) [V 0, V 1, V 2] (eachK φ V 0) W := hMj
          have h28 : A.tmps[28]?.getD undef = .pointer (some ⟨w.heap.size, 16, none⟩) := he 5 (by kernel_rfl) (by rfl)
          have h26 : A.tmps[26]?.getD undef = .agg (vwC (φ (V 2))) := he 3 (by kernel_rfl) (by rfl)
          exact y_storeK rfl h28 h26 hMs.at'.at2 (k := 2) (by omega) rfl vewSize (by have := HR0.out.at'.grow; omega) (fun _ _ => trivial) (hMs.setK HT.out 2 _ _ rfl)
        · simp at hji
      · intro xs W hz hMe hV
        have hMe : EachBx w X Inv zero48 gb0 (V 2) [V 0, V 1, V 2] (eachK φ V 1) W := hMe
        simp only [putM, Act.put, List.setIfInBounds_toArray, List.set_cons_zero, List.set_cons_succ, Nat.zero_add, Nat.reduceAdd]
        clear hV
        generalize W = W0 at hMe ⊢
        have HB1 := Lib.hid hMe.at'
        clear hMe hz HR0
        go_upto_region 4 with (fail)
        go_upto_region 5 with (refine wpList_store_row rfl 26 _ _ rfl (W0.heap.size) (vwC (V 3)) rfl rfl 26 zero8 (Sits.new _ _ _) vewSize rfl (vwC_one _) ?_)
        have HR1 := Lib.hid (HB1.out.boxed HT.out (V 3))
        generalize (W0.alloc (.cells zero8 26)).setRow W0.heap.size (vwC (V 3)) = X1 at HR1 ⊢
        generalize W0.heap.size = gb1 at HR1 ⊢
        clear HB1
        refine wp_flowS1 [some 23, some 24, some 25, some 26, some 27, some 28, none] [3, 6] [0, 0, 0, 0, 1, 1, 0] [eqV (.int .i64 (1)), eqV (.func (.func F) #[] c), eqV (.agg (vwC (V 3))), eqV (.agg (vwC (φ (V 3)))), eqV (.pointer (some ⟨w.heap.size, 16, none⟩)), eqV (.pointer (some ⟨w.heap.size, 24, none⟩)), fun _ _ => True] (fun j W => match j with | 0 => EachBx w X Inv zero48 gb1 (V 3) [V 0, V 1, V 2] (eachK φ V 1) W | 1 => EachBx w X Inv zero48 gb1 (V 3) [V 0, V 1, V 2, V 3] (eachK φ V 1) W | _ => EachBx w X Inv zero48 gb1 (V 3) [V 0, V 1, V 2, V 3] (eachK φ V 2) W) (by kernel_rfl) (by kernel_rfl) (by kernel_rfl) (by rfl)
          (by simp only [List.mem_cons, List.not_mem_nil, or_false, forall_eq_or_imp, forall_eq]; refine ⟨?_, ?_, ?_, ?_, ?_, ?_, ?_⟩ <;> (first | exact eqV_monoB _ _ | exact rowB_mono _ _ _ _ | exact true_monoB _))
          (fun j W W' h hb => by rcases j with _ | _ | j <;> first | exact (EachBx.grown HT.out h hb)) (HR1.out) ?_ ?_ ?_
        · intro i o hi ho hc j A W hj hz hMj hk he
          simp only [List.length_cons, List.length_nil, Nat.zero_add, Nat.reduceAdd] at hi
          obtain rfl | rfl | rfl | rfl | rfl | rfl | rfl : i = 0 ∨ i = 1 ∨ i = 2 ∨ i = 3 ∨ i = 4 ∨ i = 5 ∨ i = 6 := by omega
          · injection ho with ho; subst ho
            refine .inl ⟨wanted_free rfl, ?_⟩
            have h5 : A.tmps[5]?.getD undef = .int .i64 (1) := hk 5 (by rfl)
            go_simp
            exact ⟨rfl, Below.refl _ _⟩
          · injection ho with ho; subst ho
            refine .inl ⟨wanted_free rfl, ?_⟩
            have h1 : A.tmps[1]?.getD undef = .func (.func F) #[] c := hk 1 (by rfl)
            go_simp
            exact ⟨rfl, Below.refl _ _⟩
          · obtain rfl : j = 0 := hj
            have hMs : EachBx w X Inv zero48 gb1 (V 3) [V 0, V 1, V 2] (eachK φ V 1) W := hMj
            injection ho with ho; subst ho
            refine .inl ⟨wanted_free rfl, ?_⟩
            have h6 : A.tmps[6]?.getD undef = .pointer (some ⟨gb1, 0, none⟩) := hk 6 (by rfl)
            exact y_load (cs := vwC (V 3)) rfl h6 (sits_range (hMs.box)) Try.underlying26 rfl vewSize
          · exact absurd hc (by decide)
          · injection ho with ho; subst ho
            refine .inl ⟨wanted_free rfl, ?_⟩
            have h2 : A.tmps[2]?.getD undef = .pointer (some ⟨w.heap.size, 0, none⟩) := hk 2 (by rfl)
            go_simp
            exact ⟨rfl, Below.refl _ _⟩
          · injection ho with ho; subst ho
            refine .inl ⟨wanted_free rfl, ?_⟩
            have h27 : A.tmps[27]?.getD undef = .pointer (some ⟨w.heap.size, 16, none⟩) := he 4 (by kernel_rfl) (by rfl)
            have h23 : A.tmps[23]?.getD undef = .int .i64 (1) := he 0 (by kernel_rfl) (by rfl)
            go_simp
            exact ⟨rfl, Below.refl _ _⟩
          · exact absurd hc (by decide)
        · intro j i o hji ho A W hz hMj hk he
          rcases j with _ | _ | j
          · obtain rfl : 3 = i := Option.some.inj hji
            injection ho with ho; subst ho
            refine .inl ⟨wanted_free rfl, ?_⟩
            have hMs : EachBx w X Inv zero48 gb1 (V 3) [V 0, V 1, V 2] (eachK φ V 1) W := hMj
            have h24 : A.tmps[24]?.getD undef = .func (.func F) #[] c := he 1 (by kernel_rfl) (by rfl)
            have h25 : A.tmps[25]?.getD undef = .agg (vwC (V 3)) := he 2 (by kernel_rfl) (by rfl)
            go_simp
            refine Calls.mono (HT.out.call _ (V 3) _ hMs.at'.inv (by have := hMs.at'.grow; omega)) ?_
            rintro e' w' ⟨rfl, hi, hk⟩
            exact ⟨_, rfl, rfl, hk.wider (fun b _ hx => by have := HT.out.old _ hx; have := HR1.out.at'.grow; omega), EachBx.call HT.out hMs hi hk⟩
          · obtain rfl : 6 = i := Option.some.inj hji
            injection ho with ho; subst ho
            refine .inl ⟨wanted_free rfl, ?_⟩
            have hMs : EachBx w X Inv zero48 gb1 (V 3) [V 0, V 1, V 2, V 3] (eachK φ V 1) W := hMj
            have h28 : A.tmps[28]?.getD undef = .pointer (some ⟨w.heap.size, 24, none⟩) := he 5 (by kernel_rfl) (by rfl)
            have h26 : A.tmps[26]?.getD undef = .agg (vwC (φ (V 3))) := he 3 (by kernel_rfl) (by rfl)
            exact y_storeK rfl h28 h26 hMs.at'.at2 (k := 3) (by omega) rfl vewSize (by have := HR1.out.at'.grow; omega) (fun _ _ => trivial) (hMs.setK HT.out 3 _ _ rfl)
          · simp at hji
        · intro xs W hz hMe hV
          have hMe : EachBx w X Inv zero48 gb1 (V 3) [V 0, V 1, V 2, V 3] (eachK φ V 2) W := hMe
          simp only [putM, Act.put, List.setIfInBounds_toArray, List.set_cons_zero, List.set_cons_succ, Nat.zero_add, Nat.reduceAdd]
          clear hV
          generalize W = W1 at hMe ⊢
          have HB2 := Lib.hid hMe.at'
          clear hMe hz HR1
          go_upto_region 4 with (fail)
          go_upto_region 5 with (refine wpList_store_row rfl 26 _ _ rfl (W1.heap.size) (vwC (V 4)) rfl rfl 26 zero8 (Sits.new _ _ _) vewSize rfl (vwC_one _) ?_)
          have HR2 := Lib.hid (HB2.out.boxed HT.out (V 4))
          generalize (W1.alloc (.cells zero8 26)).setRow W1.heap.size (vwC (V 4)) = X2 at HR2 ⊢
          generalize W1.heap.size = gb2 at HR2 ⊢
          clear HB2
          refine wp_flowS1 [some 23, some 24, some 25, some 26, some 27, some 28, none] [3, 6] [0, 0, 0, 0, 1, 1, 0] [eqV (.int .i64 (2)), eqV (.func (.func F) #[] c), eqV (.agg (vwC (V 4))), eqV (.agg (vwC (φ (V 4)))), eqV (.pointer (some ⟨w.heap.size, 16, none⟩)), eqV (.pointer (some ⟨w.heap.size, 32, none⟩)), fun _ _ => True] (fun j W => match j with | 0 => EachBx w X Inv zero48 gb2 (V 4) [V 0, V 1, V 2, V 3] (eachK φ V 2) W | 1 => EachBx w X Inv zero48 gb2 (V 4) [V 0, V 1, V 2, V 3, V 4] (eachK φ V 2) W | _ => EachBx w X Inv zero48 gb2 (V 4) [V 0, V 1, V 2, V 3, V 4] (eachK φ V 3) W) (by kernel_rfl) (by kernel_rfl) (by kernel_rfl) (by rfl)
            (by simp only [List.mem_cons, List.not_mem_nil, or_false, forall_eq_or_imp, forall_eq]; refine ⟨?_, ?_, ?_, ?_, ?_, ?_, ?_⟩ <;> (first | exact eqV_monoB _ _ | exact rowB_mono _ _ _ _ | exact true_monoB _))
            (fun j W W' h hb => by rcases j with _ | _ | j <;> first | exact (EachBx.grown HT.out h hb)) (HR2.out) ?_ ?_ ?_
          · intro i o hi ho hc j A W hj hz hMj hk he
            simp only [List.length_cons, List.length_nil, Nat.zero_add, Nat.reduceAdd] at hi
            obtain rfl | rfl | rfl | rfl | rfl | rfl | rfl : i = 0 ∨ i = 1 ∨ i = 2 ∨ i = 3 ∨ i = 4 ∨ i = 5 ∨ i = 6 := by omega
            · injection ho with ho; subst ho
              refine .inl ⟨wanted_free rfl, ?_⟩
              have h5 : A.tmps[5]?.getD undef = .int .i64 (2) := hk 5 (by rfl)
              go_simp
              exact ⟨rfl, Below.refl _ _⟩
            · injection ho with ho; subst ho
              refine .inl ⟨wanted_free rfl, ?_⟩
              have h1 : A.tmps[1]?.getD undef = .func (.func F) #[] c := hk 1 (by rfl)
              go_simp
              exact ⟨rfl, Below.refl _ _⟩
            · obtain rfl : j = 0 := hj
              have hMs : EachBx w X Inv zero48 gb2 (V 4) [V 0, V 1, V 2, V 3] (eachK φ V 2) W := hMj
              injection ho with ho; subst ho
              refine .inl ⟨wanted_free rfl, ?_⟩
              have h6 : A.tmps[6]?.getD undef = .pointer (some ⟨gb2, 0, none⟩) := hk 6 (by rfl)
              exact y_load (cs := vwC (V 4)) rfl h6 (sits_range (hMs.box)) Try.underlying26 rfl vewSize
            · exact absurd hc (by decide)
            · injection ho with ho; subst ho
              refine .inl ⟨wanted_free rfl, ?_⟩
              have h2 : A.tmps[2]?.getD undef = .pointer (some ⟨w.heap.size, 0, none⟩) := hk 2 (by rfl)
              go_simp
              exact ⟨rfl, Below.refl _ _⟩
            · injection ho with ho; subst ho
              refine .inl ⟨wanted_free rfl, ?_⟩
              have h27 : A.tmps[27]?.getD undef = .pointer (some ⟨w.heap.size, 16, none⟩) := he 4 (by kernel_rfl) (by rfl)
              have h23 : A.tmps[23]?.getD undef = .int .i64 (2) := he 0 (by kernel_rfl) (by rfl)
              go_simp
              exact ⟨rfl, Below.refl _ _⟩
            · exact absurd hc (by decide)
          · intro j i o hji ho A W hz hMj hk he
            rcases j with _ | _ | j
            · obtain rfl : 3 = i := Option.some.inj hji
              injection ho with ho; subst ho
              refine .inl ⟨wanted_free rfl, ?_⟩
              have hMs : EachBx w X Inv zero48 gb2 (V 4) [V 0, V 1, V 2, V 3] (eachK φ V 2) W := hMj
              have h24 : A.tmps[24]?.getD undef = .func (.func F) #[] c := he 1 (by kernel_rfl) (by rfl)
              have h25 : A.tmps[25]?.getD undef = .agg (vwC (V 4)) := he 2 (by kernel_rfl) (by rfl)
              go_simp
              refine Calls.mono (HT.out.call _ (V 4) _ hMs.at'.inv (by have := hMs.at'.grow; omega)) ?_
              rintro e' w' ⟨rfl, hi, hk⟩
              exact ⟨_, rfl, rfl, hk.wider (fun b _ hx => by have := HT.out.old _ hx; have := HR2.out.at'.grow; omega), EachBx.call HT.out hMs hi hk⟩
            · obtain rfl : 6 = i := Option.some.inj hji
              injection ho with ho; subst ho
              refine .inl ⟨wanted_free rfl, ?_⟩
              have hMs : EachBx w X Inv zero48 gb2 (V 4) [V 0, V 1, V 2, V 3, V 4] (eachK φ V 2) W := hMj
              have h28 : A.tmps[28]?.getD undef = .pointer (some ⟨w.heap.size, 32, none⟩) := he 5 (by kernel_rfl) (by rfl)
              have h26 : A.tmps[26]?.getD undef = .agg (vwC (φ (V 4))) := he 3 (by kernel_rfl) (by rfl)
              exact y_storeK rfl h28 h26 hMs.at'.at2 (k := 4) (by omega) rfl vewSize (by have := HR2.out.at'.grow; omega) (fun _ _ => trivial) (hMs.setK HT.out 4 _ _ rfl)
            · simp at hji
          · intro xs W hz hMe hV
            have hMe : EachBx w X Inv zero48 gb2 (V 4) [V 0, V 1, V 2, V 3, V 4] (eachK φ V 3) W := hMe
            simp only [putM, Act.put, List.setIfInBounds_toArray, List.set_cons_zero, List.set_cons_succ, Nat.zero_add, Nat.reduceAdd]
            clear hV
            generalize W = W2 at hMe ⊢
            have HB3 := Lib.hid hMe.at'
            clear hMe hz HR2
            go_upto_region 4 with (fail)
            go_upto_region 5 with (refine wpList_store_row rfl 26 _ _ rfl (W2.heap.size) (vwC (V 5)) rfl rfl 26 zero8 (Sits.new _ _ _) vewSize rfl (vwC_one _) ?_)
            have HR3 := Lib.hid (HB3.out.boxed HT.out (V 5))
            generalize (W2.alloc (.cells zero8 26)).setRow W2.heap.size (vwC (V 5)) = X3 at HR3 ⊢
            generalize W2.heap.size = gb3 at HR3 ⊢
            clear HB3
            refine wp_flowS1 [some 23, some 24, some 25, some 26, some 27, some 28, none] [3, 6] [0, 0, 0, 0, 1, 1, 0] [eqV (.int .i64 (3)), eqV (.func (.func F) #[] c), eqV (.agg (vwC (V 5))), eqV (.agg (vwC (φ (V 5)))), eqV (.pointer (some ⟨w.heap.size, 16, none⟩)), eqV (.pointer (some ⟨w.heap.size, 40, none⟩)), fun _ _ => True] (fun j W => match j with | 0 => EachBx w X Inv zero48 gb3 (V 5) [V 0, V 1, V 2, V 3, V 4] (eachK φ V 3) W | 1 => EachBx w X Inv zero48 gb3 (V 5) [V 0, V 1, V 2, V 3, V 4, V 5] (eachK φ V 3) W | _ => EachBx w X Inv zero48 gb3 (V 5) [V 0, V 1, V 2, V 3, V 4, V 5] (eachK φ V 4) W) (by kernel_rfl) (by kernel_rfl) (by kernel_rfl) (by rfl)
              (by simp only [List.mem_cons, List.not_mem_nil, or_false, forall_eq_or_imp, forall_eq]; refine ⟨?_, ?_, ?_, ?_, ?_, ?_, ?_⟩ <;> (first | exact eqV_monoB _ _ | exact rowB_mono _ _ _ _ | exact true_monoB _))
              (fun j W W' h hb => by rcases j with _ | _ | j <;> first | exact (EachBx.grown HT.out h hb)) (HR3.out) ?_ ?_ ?_
            · intro i o hi ho hc j A W hj hz hMj hk he
              simp only [List.length_cons, List.length_nil, Nat.zero_add, Nat.reduceAdd] at hi
              obtain rfl | rfl | rfl | rfl | rfl | rfl | rfl : i = 0 ∨ i = 1 ∨ i = 2 ∨ i = 3 ∨ i = 4 ∨ i = 5 ∨ i = 6 := by omega
              · injection ho with ho; subst ho
                refine .inl ⟨wanted_free rfl, ?_⟩
                have h5 : A.tmps[5]?.getD undef = .int .i64 (3) := hk 5 (by rfl)
                go_simp
                exact ⟨rfl, Below.refl _ _⟩
              · injection ho with ho; subst ho
                refine .inl ⟨wanted_free rfl, ?_⟩
                have h1 : A.tmps[1]?.getD undef = .func (.func F) #[] c := hk 1 (by rfl)
                go_simp
                exact ⟨rfl, Below.refl _ _⟩
              · obtain rfl : j = 0 := hj
                have hMs : EachBx w X Inv zero48 gb3 (V 5) [V 0, V 1, V 2, V 3, V 4] (eachK φ V 3) W := hMj
                injection ho with ho; subst ho
                refine .inl ⟨wanted_free rfl, ?_⟩
                have h6 : A.tmps[6]?.getD undef = .pointer (some ⟨gb3, 0, none⟩) := hk 6 (by rfl)
                exact y_load (cs := vwC (V 5)) rfl h6 (sits_range (hMs.box)) Try.underlying26 rfl vewSize
              · exact absurd hc (by decide)
              · injection ho with ho; subst ho
                refine .inl ⟨wanted_free rfl, ?_⟩
                have h2 : A.tmps[2]?.getD undef = .pointer (some ⟨w.heap.size, 0, none⟩) := hk 2 (by rfl)
                go_simp
                exact ⟨rfl, Below.refl _ _⟩
              · injection ho with ho; subst ho
                refine .inl ⟨wanted_free rfl, ?_⟩
                have h27 : A.tmps[27]?.getD undef = .pointer (some ⟨w.heap.size, 16, none⟩) := he 4 (by kernel_rfl) (by rfl)
                have h23 : A.tmps[23]?.getD undef = .int .i64 (3) := he 0 (by kernel_rfl) (by rfl)
                go_simp
                exact ⟨rfl, Below.refl _ _⟩
              · exact absurd hc (by decide)
            · intro j i o hji ho A W hz hMj hk he
              rcases j with _ | _ | j
              · obtain rfl : 3 = i := Option.some.inj hji
                injection ho with ho; subst ho
                refine .inl ⟨wanted_free rfl, ?_⟩
                have hMs : EachBx w X Inv zero48 gb3 (V 5) [V 0, V 1, V 2, V 3, V 4] (eachK φ V 3) W := hMj
                have h24 : A.tmps[24]?.getD undef = .func (.func F) #[] c := he 1 (by kernel_rfl) (by rfl)
                have h25 : A.tmps[25]?.getD undef = .agg (vwC (V 5)) := he 2 (by kernel_rfl) (by rfl)
                go_simp
                refine Calls.mono (HT.out.call _ (V 5) _ hMs.at'.inv (by have := hMs.at'.grow; omega)) ?_
                rintro e' w' ⟨rfl, hi, hk⟩
                exact ⟨_, rfl, rfl, hk.wider (fun b _ hx => by have := HT.out.old _ hx; have := HR3.out.at'.grow; omega), EachBx.call HT.out hMs hi hk⟩
              · obtain rfl : 6 = i := Option.some.inj hji
                injection ho with ho; subst ho
                refine .inl ⟨wanted_free rfl, ?_⟩
                have hMs : EachBx w X Inv zero48 gb3 (V 5) [V 0, V 1, V 2, V 3, V 4, V 5] (eachK φ V 3) W := hMj
                have h28 : A.tmps[28]?.getD undef = .pointer (some ⟨w.heap.size, 40, none⟩) := he 5 (by kernel_rfl) (by rfl)
                have h26 : A.tmps[26]?.getD undef = .agg (vwC (φ (V 5))) := he 3 (by kernel_rfl) (by rfl)
                exact y_storeK rfl h28 h26 hMs.at'.at2 (k := 5) (by omega) rfl vewSize (by have := HR3.out.at'.grow; omega) (fun _ _ => trivial) (hMs.setK HT.out 5 _ _ rfl)
              · simp at hji
            · intro xs W hz hMe hV
              have hMe : EachBx w X Inv zero48 gb3 (V 5) [V 0, V 1, V 2, V 3, V 4, V 5] (eachK φ V 4) W := hMe
              simp only [putM, Act.put, List.setIfInBounds_toArray, List.set_cons_zero, List.set_cons_succ, Nat.zero_add, Nat.reduceAdd]
              clear hV
              generalize W = W3 at hMe ⊢
              have HB4 := Lib.hid hMe.at'
              clear hMe hz HR3
              go_upto_region 7 with (fail)
              have s2 := HB4.out.at2
              rw [eachK_4] at s2
              go_wp2_with (first | refine wpList_load_row rfl 29 _ rfl _ rfl _ (vsC fun k => φ (V k)) (0, 0) _ s2 Try.underlying29 rfl (by rw [vsC_size]; exact vsSize) ?_ | refine wpList_store_row rfl 29 _ _ rfl (w.heap.size + 1) (vsC fun k => φ (V k)) rfl rfl 29 zero48 HB4.out.at4 (by rw [vsC_size]; exact vsSize) (zero48_size.trans (vsC_size _).symm) (vsC_one _) ?_)
              have HE := Lib.hid (HB4.out.out HT.out (vsC fun k => φ (V k)))
              generalize W3.setRow (w.heap.size + 1) (vsC fun k => φ (V k)) = W4 at HE ⊢
              go_wp2_with fail
              exact bodyPost_ret (v := .agg (vsC fun k => φ (V k))) (result_s Try.results24 rfl HE.out.at4) rfl ⟨rfl, HE.out.inv, HE.out.low⟩
end Go.Proofs.Ytanbkclomjbokaa.Tvw
