/- Layer 13 (tview): the walk of TviewGrows. -/
import Derived.Test.YtanbkclomjbokaaTvwW
import Derived.Test.YtanbkclomjbokaaTvwP
import Derived.Deep.CutBlock
namespace Go.Proofs.Ytanbkclomjbokaa.Tvw
open Go.RowKit Go.Proofs.Ytanbkclomjbokaa.Mem Go.Proofs.Ytanbkclomjbokaa.Flow Go.Proofs.Ytanbkclomjbokaa.Vew

structure Fr (n : Nat) (l : List (Nat × Value)) (A : Act) : Prop where
  size : A.tmps.size = n
  defers : A.defers = []
  at_ : ∀ p ∈ l, slot A.tmps p.1 = p.2
theorem wanted_dead {ops : Array Oper} {o : Oper} {A : Act} {j d : Nat} {b : Bool} (hg : o.guard = some (j, b)) (hd : (ops[j]?).bind (·.dst) = some d) (hv : A.tmps[d]?.getD undef = undef) : Region.wanted o (yielded ops A.tmps) = false := by
  have e : yielded ops A.tmps j = none := by
    unfold yielded
    rw [hd]
    cases h : A.tmps[d]? with
    | none => simp [h]
    | some v => rw [h] at hv; simp only [Option.getD_some] at hv; subst hv; simp [h, undef]
  unfold Region.wanted
  rw [hg]
  simp [e]
/-- What one act leaves. -/
structure Facts (V V1 : Nat → Nat → Int) (S S1 sent : Nat → Int) (ok : Bool) (d mo lc tt : Int) : Prop where
  grows : Grows V V1 S S1 ok
  sm : mayF sent = true
  kn : ok = true → (d = 1 ∨ (1 < d ∧ mo ≠ 1)) → ∃ q : Nat, lc = (q : Int) ∧ q < 4 ∧ tt ≤ V1 0 q
theorem within_v (f g : Nat → Int) (h : ∀ i, i < 8 → f i ≤ g i) (w : World) : Calls Try.prog 18 #[.agg (vwC f), .agg (vwC g)] w (Made (.returned (.bool true)) w) := by
  have h' := within_any f g w
  rw [with_iff.2 h] at h'
  exact h'
theorem Bs.cell {w W : World} {l1 l2 : List (Nat × TypeId × Array Value)} {g : Nat} {t : TypeId} {K : Nat → Int} (h : Bs w (l1 ++ (g, t, arrC K) :: l2) W) (hg : w.heap.size ≤ g) (hn : ∀ p ∈ l1 ++ l2, p.1 ≠ g) (l : Nat) (hl : l < 4) (x : Int) : Bs w (l1 ++ (g, t, arrC (put1 K l x)) :: l2) (W.setCell ⟨g, l, none⟩ (.int .i64 x)) :=
  ⟨fun p hp => by
    have hs : Sits W g t (arrC K) := h.sits (g, t, arrC K) (by simp)
    rcases List.mem_append.1 hp with hp | hp
    · exact (h.sits p (List.mem_append_left _ hp)).far (hn p (List.mem_append_left _ hp)) _
    · rcases List.mem_cons.1 hp with rfl | hp
      · show Sits _ g t (arrC (put1 K l x))
        rw [← arrC_put K l x hl]
        exact hs.put l _
      · exact (h.sits p (List.mem_append_right _ (List.mem_cons.2 (.inr hp)))).far (hn p (List.mem_append_right _ hp)) _, h.low.trans ⟨rfl, rfl, rfl, by simp [World.setCell], fun b hb => Below.heap_setCell _ _ _ _ (by simp; omega)⟩⟩
theorem y_storeI {o : Oper} {A : Act} {W : World} {B : Nat} {p : Value → World → Prop} {M' : World → Prop} {a b g off : Nat} {x : Int} {old : Value} (ho : o.op = .store 3 (.tmp a) (.tmp b)) (hx : A.tmps[a]?.getD undef = .pointer (some ⟨g, off, none⟩)) (hy : A.tmps[b]?.getD undef = .int .i64 x)
    (hc : W.cell? ⟨g, off, none⟩ = some old) (hf : W.frozen? ⟨g, off, none⟩ = false) (hB : g < B) (hp : ∀ u w, p u w) (hM : M' (W.setCell ⟨g, off, none⟩ (.int .i64 x))) :
    YieldsW Try.prog (fun u w' => p u w' ∧ Keeps (fun b => b < B) W w' ∧ M' w') ((execOp A.eval o).run Try.prog W) := by
  unfold execOp
  rw [ho]
  have hk : Keeps (fun b => b < B) W (W.setCell ⟨g, off, none⟩ (.int .i64 x)) := (Keeps.refl _ W).put (p := ⟨g, off, none⟩) (.inl hB) _
  go_simp
  exact ⟨hp _ _, hk, hM⟩
set_option maxRecDepth 100000 in
set_option maxHeartbeats 16000000 in
theorem tgrows_law (l : List TA) (pl : Option Addr) (cl : Nat) (w : World) (hA : Acts w pl l) (hll : l.length ≤ 9223372036854775807) :
    Calls Try.prog 4 #[.slice pl l.length cl] w (Made (.returned (.bool true)) w) := by
  have i1 : (l.length : Int) ≤ 9223372036854775807 := by omega
  by_cases h1 : 100 < l.length
  · have k0 : (100 : Int) < (l.length : Int) := by omega
    clear h1 hA hll
    go_enter Try.func4, Try.ntmps4
    go_wp2_with fail
    refine (wakes_any _).mono ?_
    rintro e w1 ⟨rfl, hb⟩
    go_wp2_with fail
    go_ret
    exact ⟨rfl, hb⟩
  have k0 : ¬ (100 : Int) < (l.length : Int) := by omega
  have HA := Lib.hid hA
  clear h1 hA hll
  have H0 := Lib.hid ((((bs_new w).new 29 zero48).new 24 zero4).new 24 zero4)
  simp only [World.size_alloc] at H0
  go_enter Try.func4, Try.ntmps4
  go_upto_region 6 with (fail)
  generalize ((w.alloc (.cells zero48 29)).alloc (.cells zero4 24)).alloc (.cells zero4 24) = w0 at H0 ⊢
  go_wp2_with fail
  go_loopg [6] l.length (fun gg v6 wx => ∃ i V S K, i ≤ l.length ∧ gg = l.length - i ∧ v6 = .int .i64 (i : Nat) ∧ Hid (Bs w [(w.heap.size + 1 + 1, 24, arrC (K)), (w.heap.size + 1, 24, arrC (S)), (w.heap.size, 29, vsC (V))] wx ∧ MayV V ∧ ∀ j, j < 4 → K j ≤ V 0 j))
  case atStart => exact ⟨0, zV, zeroF, zeroF, by omega, by omega, rfl, Lib.hid ⟨H0.out, mayV_zero, fun _ _ => Int.le_refl 0⟩⟩
  case round =>
    obtain ⟨i, V, S, K, hi, rfl, rfl, HJ⟩ := hrel
    have HN := Lib.hid HJ.out.2
    rotate_left 0
    by_cases hlt : i < l.length
    rotate_left
    · have j1 : ¬ (i : Int) < (l.length : Int) := by omega
      have HB := Lib.hid HJ.out.1.low
      clear HJ hlt hi
      go_wp2_with fail
      refine (wakes_any _).mono ?_
      rintro e w1 ⟨rfl, hb⟩
      go_wp2_with fail
      go_ret
      exact ⟨rfl, HB.out.trans (hb.mono HB.out.size)⟩
    have j1 : (i : Int) < (l.length : Int) := by omega
    have j0 : (0 : Int) ≤ (i : Int) := by omega
    have HL := Lib.hid hlt
    have hik : l[i]? = some l[i] := List.getElem?_eq_getElem hlt
    generalize l[i] = a0 at hik
    obtain ⟨d, mo, lc, tt, m⟩ := a0
    obtain ⟨g, o, rfl, hgl, hc⟩ := HA.out.there hik
    have hcc := hc wr HJ.out.1.low
    have c0 : wr.cell? ⟨g, o + i * 12, none⟩ = some (.int .u8 d) := hcc 0 (by omega)
    have c1 : wr.cell? ⟨g, o + i * 12 + 1, none⟩ = some (.int .u8 mo) := hcc 1 (by omega)
    have c2 : wr.cell? ⟨g, o + i * 12 + 2, none⟩ = some (.int .i64 lc) := hcc 2 (by omega)
    have c3 : wr.cell? ⟨g, o + i * 12 + 3, none⟩ = some (.int .i64 tt) := hcc 3 (by omega)
    have c4 : wr.cell? ⟨g, o + i * 12 + 4, none⟩ = some (.int .i64 (m 0)) := hcc 4 (by omega)
    have c5 : wr.cell? ⟨g, o + i * 12 + 5, none⟩ = some (.int .i64 (m 1)) := hcc 5 (by omega)
    have c6 : wr.cell? ⟨g, o + i * 12 + 6, none⟩ = some (.int .i64 (m 2)) := hcc 6 (by omega)
    have c7 : wr.cell? ⟨g, o + i * 12 + 7, none⟩ = some (.int .i64 (m 3)) := hcc 7 (by omega)
    have c8 : wr.cell? ⟨g, o + i * 12 + 8, none⟩ = some (.int .i64 (m 4)) := hcc 8 (by omega)
    have c9 : wr.cell? ⟨g, o + i * 12 + 9, none⟩ = some (.int .i64 (m 5)) := hcc 9 (by omega)
    have c10 : wr.cell? ⟨g, o + i * 12 + 10, none⟩ = some (.int .i64 (m 6)) := hcc 10 (by omega)
    have c11 : wr.cell? ⟨g, o + i * 12 + 11, none⟩ = some (.int .i64 (m 7)) := hcc 11 (by omega)
    clear hi hik hc hcc hgl hlt
    go_upto_region 10 with (refine wpList_store_row rfl 35 _ _ rfl (wr.heap.size) (taCells ⟨d, mo, lc, tt, m⟩) rfl rfl 35 zeroA (Sits.new _ _ _) actSize rfl (act_one _) ?_)
    have hg7 : w.heap.size + 3 ≤ wr.heap.size := by
      have h1 := (HJ.out.1.get (g := w.heap.size + 1 + 1) (t := 24) (cs := arrC (K)) (by simp)).lt
      omega
    have HK := Lib.hid (HJ.out.1.add 35 zeroA (taCells ⟨d, mo, lc, tt, m⟩))
    generalize (wr.alloc (.cells zeroA 35)).setRow wr.heap.size (taCells ⟨d, mo, lc, tt, m⟩) = w1 at HK ⊢
    generalize wr.heap.size = g7 at HK hg7 ⊢
    clear c0 c1 c2 c3 c4 c5 c6 c7 c8 c9 c10 c11 HJ
    refine wp_flowQ [28, 29, 30, 8] [eqV (.pointer (some ⟨g7, 4, none⟩)), eqV (.agg (vwC (m))), eqV (.agg (vwC (m))), boxV w1.heap.size 26 zero8] (by kernel_rfl) (by kernel_rfl) (by kernel_rfl) (by kernel_rfl) (by rfl)
      (by simp only [List.mem_cons, List.not_mem_nil, or_false, forall_eq_or_imp, forall_eq]; refine ⟨?_, ?_, ?_, ?_⟩ <;> (first | exact eqV_mono _ | exact rowV_mono _ _ _ | exact boxV_mono _ _ _)) ?_ ?_
    · intro i o hi ho A W hW hk he
      simp only [List.length_cons, List.length_nil, Nat.zero_add, Nat.reduceAdd] at hi
      obtain rfl | rfl | rfl | rfl : i = 0 ∨ i = 1 ∨ i = 2 ∨ i = 3 := by omega
      · injection ho with ho; subst ho
        refine .inl ⟨wanted_free rfl, ?_⟩
        have h7 : A.tmps[7]?.getD undef = .pointer (some ⟨g7, 0, none⟩) := hk 7 (by rfl)
        go_simp
        exact ⟨rfl, Below.refl _ _⟩
      · injection ho with ho; subst ho
        refine .inl ⟨wanted_free rfl, ?_⟩
        have h28 : A.tmps[28]?.getD undef = .pointer (some ⟨g7, 4, none⟩) := he 0 (by kernel_rfl)
        exact y_load (cs := vwC (m)) rfl h28 (act_range (((HK.out.grown hW).get (g := g7) (t := 35) (cs := taCells ⟨d, mo, lc, tt, m⟩) (by simp)))) Try.underlying30 rfl rvSize
      · injection ho with ho; subst ho
        refine .inl ⟨wanted_free rfl, ?_⟩
        have h29 : A.tmps[29]?.getD undef = .agg (vwC (m)) := he 1 (by kernel_rfl)
        go_simp
        refine Calls.mono (view_any m W) ?_
        rintro e' w' ⟨rfl, hb⟩
        exact ⟨_, rfl, rfl, hb⟩
      · injection ho with ho; subst ho
        refine .inl ⟨wanted_free rfl, ?_⟩
        go_simp
        exact ⟨⟨_, hW.size, Sits.new _ _ _, rfl⟩, (Below.refl _ _).alloc (Nat.le_refl _) _⟩
    · intro xs W hW hV
      obtain ⟨gx8, hB8, hs8, e8⟩ : boxV w1.heap.size 26 zero8 (xs 3) W := hV 3 (by simp)
      have e30 : xs 2 = .agg (vwC (m)) := hV 2 (by simp)
      simp only [List.length_cons, List.length_nil, Nat.zero_add, Nat.reduceAdd, List.drop_succ_cons, List.drop_zero, putL, Act.put, List.setIfInBounds_toArray, List.set_cons_zero, List.set_cons_succ, e8, e30]
      clear hV e8 e30
      refine wpList_store_row rfl 26 _ _ rfl gx8 (vwC (m)) rfl rfl 26 zero8 hs8 vewSize rfl (vwC_one _) ?_
      have hg8 : g7 < gx8 := Nat.lt_of_lt_of_le ((HK.out.get (g := g7) (t := 35) (cs := taCells ⟨d, mo, lc, tt, m⟩) (by simp))).lt hB8
      have H8 := Lib.hid ((HK.out.grown hW).put (Nat.le_trans HK.out.low.size hB8) (fun p hp => Nat.ne_of_lt (Nat.lt_of_lt_of_le (HK.out.sits p hp).lt hB8)) hs8 (vwC (m)))
      generalize W.setRow gx8 (vwC (m)) = w2 at H8 ⊢
      clear hW hB8 hs8 HK
      go_upto_region 11 with (fail)
      have HMm : Hid (∀ W, Calls Try.prog 16 #[.agg (vwC m)] W (Made (.returned (.bool (mayF m))) W)) := Lib.hid (fun W => may_v m W)
      cases hm : mayF m
      ·
        rw [hm] at HMm
        clear hm
        refine wp_flowQ [31, 32, 33] [eqV (.agg (vwC (m))), eqV (.bool false), eqV (.bool true)] (by kernel_rfl) (by kernel_rfl) (by kernel_rfl) (by kernel_rfl) (by rfl)
          (by simp only [List.mem_cons, List.not_mem_nil, or_false, forall_eq_or_imp, forall_eq]; refine ⟨?_, ?_, ?_⟩ <;> (first | exact eqV_mono _ | exact rowV_mono _ _ _)) ?_ ?_
        · intro i o hi ho A W hW hk he
          simp only [List.length_cons, List.length_nil, Nat.zero_add, Nat.reduceAdd] at hi
          obtain rfl | rfl | rfl : i = 0 ∨ i = 1 ∨ i = 2 := by omega
          · injection ho with ho; subst ho
            refine .inl ⟨wanted_free rfl, ?_⟩
            have h8 : A.tmps[8]?.getD undef = .pointer (some ⟨gx8, 0, none⟩) := hk 8 (by rfl)
            exact y_load (cs := vwC (m)) rfl h8 (sits_range (((H8.out.grown hW).get (g := gx8) (t := 26) (cs := vwC (m)) (by simp)))) Try.underlying26 rfl vewSize
          · injection ho with ho; subst ho
            refine .inl ⟨wanted_free rfl, ?_⟩
            have h31 : A.tmps[31]?.getD undef = .agg (vwC (m)) := he 0 (by kernel_rfl)
            go_simp
            refine Calls.mono (HMm.out W) ?_
            rintro e' w' ⟨rfl, hb⟩
            exact ⟨_, rfl, rfl, hb⟩
          · injection ho with ho; subst ho
            refine .inl ⟨wanted_free rfl, ?_⟩
            have h32 : A.tmps[32]?.getD undef = .bool false := he 1 (by kernel_rfl)
            go_simp
            exact ⟨rfl, Below.refl _ _⟩
        · intro xs W hW hV
          have e33 : xs 2 = .bool true := hV 2 (by simp)
          simp only [List.length_cons, List.length_nil, Nat.zero_add, Nat.reduceAdd, List.drop_succ_cons, List.drop_zero, putL, Act.put, List.setIfInBounds_toArray, List.set_cons_zero, List.set_cons_succ, e33]
          clear hV e33
          have HE := Lib.hid ((H8.out.grown hW).mono (l' := [(w.heap.size + 1 + 1, 24, arrC (K)), (w.heap.size + 1, 24, arrC (S)), (w.heap.size, 29, vsC (V))]) (fun p hp => List.mem_append_right [(gx8, 26, vwC (m)), (g7, 35, taCells ⟨d, mo, lc, tt, m⟩)] hp))
          clear hW H8 HMm
          go_wp2_with fail
          go_roundg (l.length - (i + 1))
          case measure => have := HL.out; omega
          case rel => exact ⟨i + 1, V, S, K, by have := HL.out; omega, rfl, by go_num, Lib.hid ⟨HE.out, HN.out⟩⟩
      have HMM := Lib.hid hm
      rw [hm] at HMm
      clear hm
      refine wp_flowQ [31, 32, 33] [eqV (.agg (vwC (m))), eqV (.bool true), eqV (.bool false)] (by kernel_rfl) (by kernel_rfl) (by kernel_rfl) (by kernel_rfl) (by rfl)
        (by simp only [List.mem_cons, List.not_mem_nil, or_false, forall_eq_or_imp, forall_eq]; refine ⟨?_, ?_, ?_⟩ <;> (first | exact eqV_mono _ | exact rowV_mono _ _ _)) ?_ ?_
      · intro i o hi ho A W hW hk he
        simp only [List.length_cons, List.length_nil, Nat.zero_add, Nat.reduceAdd] at hi
        obtain rfl | rfl | rfl : i = 0 ∨ i = 1 ∨ i = 2 := by omega
        · injection ho with ho; subst ho
          refine .inl ⟨wanted_free rfl, ?_⟩
          have h8 : A.tmps[8]?.getD undef = .pointer (some ⟨gx8, 0, none⟩) := hk 8 (by rfl)
          exact y_load (cs := vwC (m)) rfl h8 (sits_range (((H8.out.grown hW).get (g := gx8) (t := 26) (cs := vwC (m)) (by simp)))) Try.underlying26 rfl vewSize
        · injection ho with ho; subst ho
          refine .inl ⟨wanted_free rfl, ?_⟩
          have h31 : A.tmps[31]?.getD undef = .agg (vwC (m)) := he 0 (by kernel_rfl)
          go_simp
          refine Calls.mono (HMm.out W) ?_
          rintro e' w' ⟨rfl, hb⟩
          exact ⟨_, rfl, rfl, hb⟩
        · injection ho with ho; subst ho
          refine .inl ⟨wanted_free rfl, ?_⟩
          have h32 : A.tmps[32]?.getD undef = .bool true := he 1 (by kernel_rfl)
          go_simp
          exact ⟨rfl, Below.refl _ _⟩
      · intro xs W hW hV
        have e33 : xs 2 = .bool false := hV 2 (by simp)
        simp only [List.length_cons, List.length_nil, Nat.zero_add, Nat.reduceAdd, List.drop_succ_cons, List.drop_zero, putL, Act.put, List.setIfInBounds_toArray, List.set_cons_zero, List.set_cons_succ, e33]
        clear hV e33
        have H9 := Lib.hid (H8.out.grown hW)
        clear hW H8 HMm
        go_upto_region 12 with (fail)
        refine wp_flowD [some 34, some 35, some 9, some 10, none, none] (PairInv w [(gx8, 26, vwC (m)), (g7, 35, taCells ⟨d, mo, lc, tt, m⟩), (w.heap.size + 1 + 1, 24, arrC (K)), (w.heap.size + 1, 24, arrC (S)), (w.heap.size, 29, vsC (V))] V S) (by kernel_rfl) (by kernel_rfl) (by rfl) (fun xs => pair_start H9.out V S xs) ?_ ?_
        · intro i o hi ho d A W hd hk hI hs
          simp only [List.length_cons, List.length_nil, Nat.zero_add, Nat.reduceAdd] at hi
          obtain rfl | rfl | rfl | rfl | rfl | rfl : i = 0 ∨ i = 1 ∨ i = 2 ∨ i = 3 ∨ i = 4 ∨ i = 5 := by omega
          · injection ho with ho; subst ho
            refine ⟨wanted_free rfl, ?_⟩
            have h3 : A.tmps[3]?.getD undef = .pointer (some ⟨w.heap.size, 0, none⟩) := hs 3 (by rfl)
            refine yieldsW_of (y_load (cs := vsC (V)) rfl h3 (sits_range (hI.bs.get (g := w.heap.size) (t := 29) (cs := vsC (V)) (by simp))) Try.underlying29 rfl (by rw [vsC_size]; exact vsSize)) ?_
            rintro u W' ⟨rfl, hb⟩
            exact (pair_0 hI).grown hb
          · injection ho with ho; subst ho
            refine ⟨wanted_free rfl, ?_⟩
            have h4 : A.tmps[4]?.getD undef = .pointer (some ⟨w.heap.size + 1, 0, none⟩) := hs 4 (by rfl)
            refine yieldsW_of (y_load (cs := arrC (S)) rfl h4 (sits_range (hI.bs.get (g := w.heap.size + 1) (t := 24) (cs := arrC (S)) (by simp))) Try.underlying24 rfl arrSize) ?_
            rintro u W' ⟨rfl, hb⟩
            exact (pair_1 hI).grown hb
          · injection ho with ho; subst ho
            refine ⟨wanted_free rfl, ?_⟩
            have h4 : d 4 = false := no_4 hI hd
            go_simp
            exact pair_2 hI h4
          · injection ho with ho; subst ho
            refine ⟨wanted_free rfl, ?_⟩
            have h5 : d 5 = false := no_5 hI hd
            go_simp
            exact pair_3 hI h5
          · injection ho with ho; subst ho
            refine ⟨wanted_free rfl, ?_⟩
            have d2 := hk 2 (by kernel_rfl)
            have d0 := hk 0 (by kernel_rfl)
            obtain ⟨g9, e9, hg, hn, hs9⟩ := hI.x2 d2
            have h9 : A.tmps[9]?.getD undef = .pointer (some ⟨g9, 0, none⟩) := by rw [← eval_form]; exact e9
            have h34 : A.tmps[34]?.getD undef = .agg (vsC V) := by rw [← eval_form]; exact hI.x0 d0
            have hz9 : ∃ old, Sits W g9 29 old ∧ old.size = (vsC V).size := by
              cases e4 : d 4
              · rw [e4] at hs9; exact ⟨_, hs9, zero48_size.trans (vsC_size _).symm⟩
              · rw [e4] at hs9; exact ⟨_, hs9, rfl⟩
            obtain ⟨old, ho, hsz⟩ := hz9
            have hy := y_store (P := Try.prog) (B := g9 + 1) (p := fun _ _ => True) (M' := fun w' => w' = W.setRow g9 (vsC V)) (A := A) (o := { dst := none, op := Op.store 29 (Operand.tmp 9) (Operand.tmp 34), type := 0, pos := "", after := #[], guard := none }) rfl h9 h34 ho (by rw [vsC_size]; exact vsSize) hsz (vsC_one _) (by omega) (fun _ _ => trivial) rfl
            refine yieldsW_mono hy ?_
            rintro u W' ⟨_, _, rfl⟩
            exact pair_4 hI e9 d2 _
          · injection ho with ho; subst ho
            refine ⟨wanted_free rfl, ?_⟩
            have d3 := hk 3 (by kernel_rfl)
            have d1 := hk 1 (by kernel_rfl)
            obtain ⟨g10, e10, hg, hn, hs10⟩ := hI.x3 d3
            have h10 : A.tmps[10]?.getD undef = .pointer (some ⟨g10, 0, none⟩) := by rw [← eval_form]; exact e10
            have h35 : A.tmps[35]?.getD undef = arr S := by rw [← eval_form]; exact hI.x1 d1
            have hz10 : ∃ old, Sits W g10 24 old ∧ old.size = (arrC S).size := by
              cases e5 : d 5
              · rw [e5] at hs10; exact ⟨_, hs10, rfl⟩
              · rw [e5] at hs10; exact ⟨_, hs10, rfl⟩
            obtain ⟨old, ho, hsz⟩ := hz10
            have hy := y_store (P := Try.prog) (B := g10 + 1) (p := fun _ _ => True) (M' := fun w' => w' = W.setRow g10 (arrC S)) (A := A) (cells := arrC S) (o := { dst := none, op := Op.store 24 (Operand.tmp 10) (Operand.tmp 35), type := 0, pos := "", after := #[], guard := none }) rfl h10 h35 ho arrSize hsz (four_one _ _ _ _) (by omega) (fun _ _ => trivial) rfl
            refine yieldsW_mono hy ?_
            rintro u W' ⟨_, _, rfl⟩
            exact pair_5 hI e10 d3 _
        · intro dd xs W hd hI
          have d4 : dd 4 = true := hd 4 (by simp)
          have d5 : dd 5 = true := hd 5 (by simp)
          obtain ⟨g9, e9, hg9, hn9, hs9⟩ := hI.x2 (hd 2 (by simp))
          obtain ⟨g10, e10, hg10, hn10, hs10⟩ := hI.x3 (hd 3 (by simp))
          rw [d4, if_pos rfl] at hs9
          rw [d5, if_pos rfl] at hs10
          have hne : g9 ≠ g10 := by rintro rfl; exact types_off (hs9.same hs10).1
          have h9 : gx8 < g9 := hn9 _ (List.mem_cons.2 (.inl rfl))
          have h10 : gx8 < g10 := hn10 _ (List.mem_cons.2 (.inl rfl))
          have HP : Hid (Bs w ((g9, 29, vsC (V)) :: (g10, 24, arrC (S)) :: [(gx8, 26, vwC (m)), (g7, 35, taCells ⟨d, mo, lc, tt, m⟩), (w.heap.size + 1 + 1, 24, arrC (K)), (w.heap.size + 1, 24, arrC (S)), (w.heap.size, 29, vsC (V))]) W) := Lib.hid ⟨fun p hp => by
            rcases List.mem_cons.1 hp with rfl | hp
            · exact hs9
            · rcases List.mem_cons.1 hp with rfl | hp
              · exact hs10
              · exact hI.bs.sits p hp, hI.bs.low⟩
          simp only [putM, Act.put, List.setIfInBounds_toArray, List.set_cons_zero, List.set_cons_succ, Nat.zero_add, Nat.reduceAdd, e9, e10]
          clear e9 e10 hs9 hs10 hn9 hn10 hg9 hg10 d4 d5 hd hI
          generalize W = w3 at HP ⊢
          go_upto_region 15 with (fail)
          have h129 : g9 < w3.heap.size ∧ g10 < w3.heap.size := ⟨((HP.out.get (g := g9) (t := 29) (cs := vsC (V)) (by simp))).lt, ((HP.out.get (g := g10) (t := 24) (cs := arrC (S)) (by simp))).lt⟩
          have HW : Hid (Bs w [(w3.heap.size, 26, vwC (zeroF)), (g9, 29, vsC (V)), (g10, 24, arrC (S)), (gx8, 26, vwC (m)), (g7, 35, taCells ⟨d, mo, lc, tt, m⟩), (w.heap.size + 1 + 1, 24, arrC (K)), (w.heap.size + 1, 24, arrC (S)), (w.heap.size, 29, vsC (V))] (w3.alloc (.cells zero8 26))) := Lib.hid (HP.out.new 26 zero8)
          generalize w3.alloc (.cells zero8 26) = w4 at HW ⊢
          generalize w3.heap.size = g12 at HW h129 ⊢
          clear HP
          have c0 : w4.cell? ⟨g7, 0, none⟩ = some (.int .u8 d) := (HW.out.get (g := g7) (t := 35) (cs := taCells ⟨d, mo, lc, tt, m⟩) (by simp)).cell 0
          go_upto_block 2 with (fail)
          refine wp_cut (fun A W => ∃ V1 S1 sent ok, Fr 185 [(0, .slice (some ⟨g, o, none⟩) l.length cl), (1, undef), (3, .pointer (some ⟨w.heap.size, 0, none⟩)), (4, .pointer (some ⟨w.heap.size + 1, 0, none⟩)), (5, .pointer (some ⟨w.heap.size + 1 + 1, 0, none⟩)), (6, .int .i64 (i : Nat)), (7, .pointer (some ⟨g7, 0, none⟩)), (8, .pointer (some ⟨gx8, 0, none⟩)), (9, .pointer (some ⟨g9, 0, none⟩)), (10, .pointer (some ⟨g10, 0, none⟩)), (11, .bool ok), (12, .pointer (some ⟨g12, 0, none⟩)), (14, .slice (some ⟨g, o, none⟩) l.length cl), (15, .int .i64 (l.length : Nat)), (16, .bool false), (17, undef), (184, undef)] A ∧ Bs w [(g12, 26, vwC (sent)), (g9, 29, vsC (V)), (g10, 24, arrC (S)), (gx8, 26, vwC (m)), (g7, 35, taCells ⟨d, mo, lc, tt, m⟩), (w.heap.size + 1 + 1, 24, arrC (K)), (w.heap.size + 1, 24, arrC (S1)), (w.heap.size, 29, vsC (V1))] W ∧ Facts V V1 S S1 sent ok d mo lc tt) ?rest ?first
          case first =>
            intro J KK hJ hK
            by_cases h0 : d = 0
            ·
              subst h0
              have HG0 := Lib.hid (grows_fence HN.out.1 S mo)
              go_upto_region 20 with (fail)
              clear c0
              have hgz : w.heap.size + 3 ≤ w4.heap.size ∧ g12 < w4.heap.size := by
                have h1 := ((HW.out.get (g := g12) (t := 26) (cs := vwC (zeroF)) (by simp))).lt
                omega
              refine wp_flowS1 [some 63, some 64, some 65, some 66, some 67, some 62, some 68, some 69, some 70, none, none, some 11] [9, 10] [0, 0, 0, 0, 0, 0, 0, 0, 0, 0, 0, 2] [eqV (.agg (vsC (V))), eqV (.pointer (some ⟨g7, 1, none⟩)), eqV (.int .u8 mo), eqV (arr (S)), eqV (.tuple #[.agg (vsC (fenceV V S mo)), arr (fenceS V S mo), .bool (fenceOk mo)]), eqV (.tuple #[.agg (vsC (fenceV V S mo)), arr (fenceS V S mo), .bool (fenceOk mo)]), eqV (.agg (vsC (fenceV V S mo))), eqV (arr (fenceS V S mo)), eqV (.bool (fenceOk mo)), fun _ _ => True, fun _ _ => True, eqV (.bool (fenceOk mo))] (fun j W => match j with | 0 => Bs w [(g12, 26, vwC (zeroF)), (g9, 29, vsC (V)), (g10, 24, arrC (S)), (gx8, 26, vwC (m)), (g7, 35, taCells ⟨0, mo, lc, tt, m⟩), (w.heap.size + 1 + 1, 24, arrC (K)), (w.heap.size + 1, 24, arrC (S)), (w.heap.size, 29, vsC (V))] W | 1 => Bs w [(g12, 26, vwC (zeroF)), (g9, 29, vsC (V)), (g10, 24, arrC (S)), (gx8, 26, vwC (m)), (g7, 35, taCells ⟨0, mo, lc, tt, m⟩), (w.heap.size + 1 + 1, 24, arrC (K)), (w.heap.size + 1, 24, arrC (S)), (w.heap.size, 29, vsC (fenceV V S mo))] W | _ => Bs w [(g12, 26, vwC (zeroF)), (g9, 29, vsC (V)), (g10, 24, arrC (S)), (gx8, 26, vwC (m)), (g7, 35, taCells ⟨0, mo, lc, tt, m⟩), (w.heap.size + 1 + 1, 24, arrC (K)), (w.heap.size + 1, 24, arrC (fenceS V S mo)), (w.heap.size, 29, vsC (fenceV V S mo))] W) (by kernel_rfl) (by kernel_rfl) (by kernel_rfl) (by rfl)
                (by simp only [List.mem_cons, List.not_mem_nil, or_false, forall_eq_or_imp, forall_eq]; refine ⟨?_, ?_, ?_, ?_, ?_, ?_, ?_, ?_, ?_, ?_, ?_, ?_⟩ <;> (first | exact eqV_monoB _ _ | exact rowB_mono _ _ _ _ | exact true_monoB _))
                (fun j W W' h hb => by rcases j with _ | _ | j <;> first | exact (Bs.grown h hb)) (HW.out) ?_ ?_ ?_
              · intro i o hi ho hc j A W hj hz hMj hk he
                simp only [List.length_cons, List.length_nil, Nat.zero_add, Nat.reduceAdd] at hi
                obtain rfl | rfl | rfl | rfl | rfl | rfl | rfl | rfl | rfl | rfl | rfl | rfl : i = 0 ∨ i = 1 ∨ i = 2 ∨ i = 3 ∨ i = 4 ∨ i = 5 ∨ i = 6 ∨ i = 7 ∨ i = 8 ∨ i = 9 ∨ i = 10 ∨ i = 11 := by omega
                · obtain rfl : j = 0 := hj
                  have hMs : Bs w [(g12, 26, vwC (zeroF)), (g9, 29, vsC (V)), (g10, 24, arrC (S)), (gx8, 26, vwC (m)), (g7, 35, taCells ⟨0, mo, lc, tt, m⟩), (w.heap.size + 1 + 1, 24, arrC (K)), (w.heap.size + 1, 24, arrC (S)), (w.heap.size, 29, vsC (V))] W := hMj
                  injection ho with ho; subst ho
                  refine .inl ⟨wanted_free rfl, ?_⟩
                  have h3 : A.tmps[3]?.getD undef = .pointer (some ⟨w.heap.size, 0, none⟩) := hk 3 (by rfl)
                  exact y_load (cs := vsC (V)) rfl h3 (sits_range ((hMs.get (g := w.heap.size) (t := 29) (cs := vsC (V)) (by simp)))) Try.underlying29 rfl vsSize
                · injection ho with ho; subst ho
                  refine .inl ⟨wanted_free rfl, ?_⟩
                  have h7 : A.tmps[7]?.getD undef = .pointer (some ⟨g7, 0, none⟩) := hk 7 (by rfl)
                  go_simp
                  exact ⟨rfl, Below.refl _ _⟩
                · obtain rfl : j = 0 := hj
                  have hMs : Bs w [(g12, 26, vwC (zeroF)), (g9, 29, vsC (V)), (g10, 24, arrC (S)), (gx8, 26, vwC (m)), (g7, 35, taCells ⟨0, mo, lc, tt, m⟩), (w.heap.size + 1 + 1, 24, arrC (K)), (w.heap.size + 1, 24, arrC (S)), (w.heap.size, 29, vsC (V))] W := hMj
                  injection ho with ho; subst ho
                  refine .inl ⟨wanted_free rfl, ?_⟩
                  have h64 : A.tmps[64]?.getD undef = .pointer (some ⟨g7, 1, none⟩) := he 1 (by kernel_rfl) (by rfl)
                  have c0 := (hMs.get (g := g7) (t := 35) (cs := taCells ⟨0, mo, lc, tt, m⟩) (by simp)).cell 1
                  go_simp
                  exact ⟨rfl, Below.refl _ _⟩
                · obtain rfl : j = 0 := hj
                  have hMs : Bs w [(g12, 26, vwC (zeroF)), (g9, 29, vsC (V)), (g10, 24, arrC (S)), (gx8, 26, vwC (m)), (g7, 35, taCells ⟨0, mo, lc, tt, m⟩), (w.heap.size + 1 + 1, 24, arrC (K)), (w.heap.size + 1, 24, arrC (S)), (w.heap.size, 29, vsC (V))] W := hMj
                  injection ho with ho; subst ho
                  refine .inl ⟨wanted_free rfl, ?_⟩
                  have h4 : A.tmps[4]?.getD undef = .pointer (some ⟨w.heap.size + 1, 0, none⟩) := hk 4 (by rfl)
                  have c0 := ((hMs.get (g := w.heap.size + 1) (t := 24) (cs := arrC (S)) (by simp))).cell 0
                  have c1 := ((hMs.get (g := w.heap.size + 1) (t := 24) (cs := arrC (S)) (by simp))).cell 1
                  have c2 := ((hMs.get (g := w.heap.size + 1) (t := 24) (cs := arrC (S)) (by simp))).cell 2
                  have c3 := ((hMs.get (g := w.heap.size + 1) (t := 24) (cs := arrC (S)) (by simp))).cell 3
                  go_simp
                  exact ⟨rfl, Below.refl _ _⟩
                · obtain rfl : j = 0 := hj
                  have hMs : Bs w [(g12, 26, vwC (zeroF)), (g9, 29, vsC (V)), (g10, 24, arrC (S)), (gx8, 26, vwC (m)), (g7, 35, taCells ⟨0, mo, lc, tt, m⟩), (w.heap.size + 1 + 1, 24, arrC (K)), (w.heap.size + 1, 24, arrC (S)), (w.heap.size, 29, vsC (V))] W := hMj
                  injection ho with ho; subst ho
                  refine .inl ⟨wanted_free rfl, ?_⟩
                  have h63 : A.tmps[63]?.getD undef = .agg (vsC (V)) := he 0 (by kernel_rfl) (by rfl)
                  have h65 : A.tmps[65]?.getD undef = .int .u8 mo := he 2 (by kernel_rfl) (by rfl)
                  have h66 : A.tmps[66]?.getD undef = arr (S) := he 3 (by kernel_rfl) (by rfl)
                  go_simp
                  refine Calls.mono (fence_any V S mo W) ?_
                  rintro e' w' ⟨rfl, hb⟩
                  exact ⟨_, rfl, rfl, hb⟩
                · injection ho with ho; subst ho
                  refine .inl ⟨wanted_free rfl, ?_⟩
                  have h67 : A.tmps[67]?.getD undef = .tuple #[.agg (vsC (fenceV V S mo)), arr (fenceS V S mo), .bool (fenceOk mo)] := he 4 (by kernel_rfl) (by rfl)
                  go_simp
                  exact ⟨rfl, Below.refl _ _⟩
                · injection ho with ho; subst ho
                  refine .inl ⟨wanted_free rfl, ?_⟩
                  have h62 : A.tmps[62]?.getD undef = .tuple #[.agg (vsC (fenceV V S mo)), arr (fenceS V S mo), .bool (fenceOk mo)] := he 5 (by kernel_rfl) (by rfl)
                  go_simp
                  exact ⟨rfl, Below.refl _ _⟩
                · injection ho with ho; subst ho
                  refine .inl ⟨wanted_free rfl, ?_⟩
                  have h62 : A.tmps[62]?.getD undef = .tuple #[.agg (vsC (fenceV V S mo)), arr (fenceS V S mo), .bool (fenceOk mo)] := he 5 (by kernel_rfl) (by rfl)
                  go_simp
                  exact ⟨rfl, Below.refl _ _⟩
                · injection ho with ho; subst ho
                  refine .inl ⟨wanted_free rfl, ?_⟩
                  have h62 : A.tmps[62]?.getD undef = .tuple #[.agg (vsC (fenceV V S mo)), arr (fenceS V S mo), .bool (fenceOk mo)] := he 5 (by kernel_rfl) (by rfl)
                  go_simp
                  exact ⟨rfl, Below.refl _ _⟩
                · exact absurd hc (by decide)
                · exact absurd hc (by decide)
                · injection ho with ho; subst ho
                  refine .inl ⟨wanted_free rfl, ?_⟩
                  have h70 : A.tmps[70]?.getD undef = .bool (fenceOk mo) := he 8 (by kernel_rfl) (by rfl)
                  go_simp
                  exact ⟨rfl, Below.refl _ _⟩
              · intro j i o hji ho A W hz hMj hk he
                rcases j with _ | _ | j
                · obtain rfl : 9 = i := Option.some.inj hji
                  injection ho with ho; subst ho
                  refine .inl ⟨wanted_free rfl, ?_⟩
                  have hMs : Bs w [(g12, 26, vwC (zeroF)), (g9, 29, vsC (V)), (g10, 24, arrC (S)), (gx8, 26, vwC (m)), (g7, 35, taCells ⟨0, mo, lc, tt, m⟩), (w.heap.size + 1 + 1, 24, arrC (K)), (w.heap.size + 1, 24, arrC (S)), (w.heap.size, 29, vsC (V))] W := hMj
                  have h3 : A.tmps[3]?.getD undef = .pointer (some ⟨w.heap.size, 0, none⟩) := hk 3 (by rfl)
                  have h68 : A.tmps[68]?.getD undef = .agg (vsC (fenceV V S mo)) := he 6 (by kernel_rfl) (by rfl)
                  exact y_store (cells := vsC (fenceV V S mo)) rfl h3 h68 (hMs.get (g := w.heap.size) (t := 29) (cs := vsC (V)) (by simp)) (by rw [vsC_size]; exact vsSize) ((vsC_size _).trans (vsC_size _).symm) (vsC_one _) (by have := hgz; omega) (fun _ _ => trivial) (Bs.upd (l1 := [(g12, 26, vwC (zeroF)), (g9, 29, vsC (V)), (g10, 24, arrC (S)), (gx8, 26, vwC (m)), (g7, 35, taCells ⟨0, mo, lc, tt, m⟩), (w.heap.size + 1 + 1, 24, arrC (K)), (w.heap.size + 1, 24, arrC (S))]) (l2 := []) hMs (by omega) (by first | (simp; done) | (simp; omega)) (vsC (fenceV V S mo)))
                · obtain rfl : 10 = i := Option.some.inj hji
                  injection ho with ho; subst ho
                  refine .inl ⟨wanted_free rfl, ?_⟩
                  have hMs : Bs w [(g12, 26, vwC (zeroF)), (g9, 29, vsC (V)), (g10, 24, arrC (S)), (gx8, 26, vwC (m)), (g7, 35, taCells ⟨0, mo, lc, tt, m⟩), (w.heap.size + 1 + 1, 24, arrC (K)), (w.heap.size + 1, 24, arrC (S)), (w.heap.size, 29, vsC (fenceV V S mo))] W := hMj
                  have h4 : A.tmps[4]?.getD undef = .pointer (some ⟨w.heap.size + 1, 0, none⟩) := hk 4 (by rfl)
                  have h69 : A.tmps[69]?.getD undef = arr (fenceS V S mo) := he 7 (by kernel_rfl) (by rfl)
                  exact y_store (cells := arrC (fenceS V S mo)) rfl h4 h69 (hMs.get (g := w.heap.size + 1) (t := 24) (cs := arrC (S)) (by simp)) arrSize rfl (four_one _ _ _ _) (by have := hgz; omega) (fun _ _ => trivial) (Bs.upd (l1 := [(g12, 26, vwC (zeroF)), (g9, 29, vsC (V)), (g10, 24, arrC (S)), (gx8, 26, vwC (m)), (g7, 35, taCells ⟨0, mo, lc, tt, m⟩), (w.heap.size + 1 + 1, 24, arrC (K))]) (l2 := [(w.heap.size, 29, vsC (fenceV V S mo))]) hMs (by omega) (by first | (simp; done) | (simp; omega)) (arrC (fenceS V S mo)))
                · simp at hji
              · intro xs W hz hMe hV
                have hMe : Bs w [(g12, 26, vwC (zeroF)), (g9, 29, vsC (V)), (g10, 24, arrC (S)), (gx8, 26, vwC (m)), (g7, 35, taCells ⟨0, mo, lc, tt, m⟩), (w.heap.size + 1 + 1, 24, arrC (K)), (w.heap.size + 1, 24, arrC (fenceS V S mo)), (w.heap.size, 29, vsC (fenceV V S mo))] W := hMe
                have e11 : xs 11 = .bool (fenceOk mo) := hV 11 (by simp) rfl
                simp only [putM, Act.put, List.setIfInBounds_toArray, List.set_cons_zero, List.set_cons_succ, Nat.zero_add, Nat.reduceAdd, e11]
                clear hV e11
                generalize W = w5 at hMe ⊢
                have HB := Lib.hid hMe
                clear hMe hz HW hgz
                go_wp2_with fail
                refine Met.intro ?_
                refine hJ _ _ ?_
                exact ⟨fenceV V S mo, fenceS V S mo, zeroF, fenceOk mo, ⟨rfl, rfl, by simp only [List.mem_cons, List.not_mem_nil, or_false, forall_eq_or_imp, forall_eq]; exact ⟨rfl, rfl, rfl, rfl, rfl, rfl, rfl, rfl, rfl, rfl, rfl, rfl, rfl, rfl, rfl, rfl, rfl⟩⟩, HB.out, ⟨HG0.out, may_zero, fun _ h => by rcases h with h | ⟨h, _⟩ <;> omega⟩⟩
            by_cases h2 : d = 1
            ·
              subst h2
              have HG0 := Lib.hid (grows_write HN.out.1 S lc tt mo)
              clear h0
              go_upto_region 22 with (fail)
              clear c0
              have hgz : w.heap.size + 3 ≤ w4.heap.size ∧ g12 < w4.heap.size := by
                have h1 := ((HW.out.get (g := g12) (t := 26) (cs := vwC (zeroF)) (by simp))).lt
                omega
              refine wp_flowS1 [some 74, some 75, some 76, some 77, some 78, some 79, some 80, some 81, some 82, some 73, some 83, some 84, some 85, none, none, some 11] [13, 14] [0, 0, 0, 0, 0, 0, 0, 0, 0, 0, 0, 0, 0, 0, 0, 2] [eqV (.agg (vsC (V))), eqV (.pointer (some ⟨g7, 2, none⟩)), eqV (.int .i64 lc), eqV (.pointer (some ⟨g7, 3, none⟩)), eqV (.int .i64 tt), eqV (.pointer (some ⟨g7, 1, none⟩)), eqV (.int .u8 mo), eqV (.agg (vwC (m))), eqV (.tuple #[.agg (vsC (writeV V lc tt mo)), .agg (vwC (writeM V lc tt mo m)), .bool (writeOk V lc tt mo)]), eqV (.tuple #[.agg (vsC (writeV V lc tt mo)), .agg (vwC (writeM V lc tt mo m)), .bool (writeOk V lc tt mo)]), eqV (.agg (vsC (writeV V lc tt mo))), eqV (.agg (vwC (writeM V lc tt mo m))), eqV (.bool (writeOk V lc tt mo)), fun _ _ => True, fun _ _ => True, eqV (.bool (writeOk V lc tt mo))] (fun j W => match j with | 0 => Bs w [(g12, 26, vwC (zeroF)), (g9, 29, vsC (V)), (g10, 24, arrC (S)), (gx8, 26, vwC (m)), (g7, 35, taCells ⟨1, mo, lc, tt, m⟩), (w.heap.size + 1 + 1, 24, arrC (K)), (w.heap.size + 1, 24, arrC (S)), (w.heap.size, 29, vsC (V))] W | 1 => Bs w [(g12, 26, vwC (zeroF)), (g9, 29, vsC (V)), (g10, 24, arrC (S)), (gx8, 26, vwC (m)), (g7, 35, taCells ⟨1, mo, lc, tt, m⟩), (w.heap.size + 1 + 1, 24, arrC (K)), (w.heap.size + 1, 24, arrC (S)), (w.heap.size, 29, vsC (writeV V lc tt mo))] W | _ => Bs w [(g12, 26, vwC (writeM V lc tt mo m)), (g9, 29, vsC (V)), (g10, 24, arrC (S)), (gx8, 26, vwC (m)), (g7, 35, taCells ⟨1, mo, lc, tt, m⟩), (w.heap.size + 1 + 1, 24, arrC (K)), (w.heap.size + 1, 24, arrC (S)), (w.heap.size, 29, vsC (writeV V lc tt mo))] W) (by kernel_rfl) (by kernel_rfl) (by kernel_rfl) (by rfl)
                (by simp only [List.mem_cons, List.not_mem_nil, or_false, forall_eq_or_imp, forall_eq]; refine ⟨?_, ?_, ?_, ?_, ?_, ?_, ?_, ?_, ?_, ?_, ?_, ?_, ?_, ?_, ?_, ?_⟩ <;> (first | exact eqV_monoB _ _ | exact rowB_mono _ _ _ _ | exact true_monoB _))
                (fun j W W' h hb => by rcases j with _ | _ | j <;> first | exact (Bs.grown h hb)) (HW.out) ?_ ?_ ?_
              · intro i o hi ho hc j A W hj hz hMj hk he
                simp only [List.length_cons, List.length_nil, Nat.zero_add, Nat.reduceAdd] at hi
                obtain rfl | rfl | rfl | rfl | rfl | rfl | rfl | rfl | rfl | rfl | rfl | rfl | rfl | rfl | rfl | rfl : i = 0 ∨ i = 1 ∨ i = 2 ∨ i = 3 ∨ i = 4 ∨ i = 5 ∨ i = 6 ∨ i = 7 ∨ i = 8 ∨ i = 9 ∨ i = 10 ∨ i = 11 ∨ i = 12 ∨ i = 13 ∨ i = 14 ∨ i = 15 := by omega
                · obtain rfl : j = 0 := hj
                  have hMs : Bs w [(g12, 26, vwC (zeroF)), (g9, 29, vsC (V)), (g10, 24, arrC (S)), (gx8, 26, vwC (m)), (g7, 35, taCells ⟨1, mo, lc, tt, m⟩), (w.heap.size + 1 + 1, 24, arrC (K)), (w.heap.size + 1, 24, arrC (S)), (w.heap.size, 29, vsC (V))] W := hMj
                  injection ho with ho; subst ho
                  refine .inl ⟨wanted_free rfl, ?_⟩
                  have h3 : A.tmps[3]?.getD undef = .pointer (some ⟨w.heap.size, 0, none⟩) := hk 3 (by rfl)
                  exact y_load (cs := vsC (V)) rfl h3 (sits_range ((hMs.get (g := w.heap.size) (t := 29) (cs := vsC (V)) (by simp)))) Try.underlying29 rfl vsSize
                · injection ho with ho; subst ho
                  refine .inl ⟨wanted_free rfl, ?_⟩
                  have h7 : A.tmps[7]?.getD undef = .pointer (some ⟨g7, 0, none⟩) := hk 7 (by rfl)
                  go_simp
                  exact ⟨rfl, Below.refl _ _⟩
                · obtain rfl : j = 0 := hj
                  have hMs : Bs w [(g12, 26, vwC (zeroF)), (g9, 29, vsC (V)), (g10, 24, arrC (S)), (gx8, 26, vwC (m)), (g7, 35, taCells ⟨1, mo, lc, tt, m⟩), (w.heap.size + 1 + 1, 24, arrC (K)), (w.heap.size + 1, 24, arrC (S)), (w.heap.size, 29, vsC (V))] W := hMj
                  injection ho with ho; subst ho
                  refine .inl ⟨wanted_free rfl, ?_⟩
                  have h75 : A.tmps[75]?.getD undef = .pointer (some ⟨g7, 2, none⟩) := he 1 (by kernel_rfl) (by rfl)
                  have c0 := (hMs.get (g := g7) (t := 35) (cs := taCells ⟨1, mo, lc, tt, m⟩) (by simp)).cell 2
                  go_simp
                  exact ⟨rfl, Below.refl _ _⟩
                · injection ho with ho; subst ho
                  refine .inl ⟨wanted_free rfl, ?_⟩
                  have h7 : A.tmps[7]?.getD undef = .pointer (some ⟨g7, 0, none⟩) := hk 7 (by rfl)
                  go_simp
                  exact ⟨rfl, Below.refl _ _⟩
                · obtain rfl : j = 0 := hj
                  have hMs : Bs w [(g12, 26, vwC (zeroF)), (g9, 29, vsC (V)), (g10, 24, arrC (S)), (gx8, 26, vwC (m)), (g7, 35, taCells ⟨1, mo, lc, tt, m⟩), (w.heap.size + 1 + 1, 24, arrC (K)), (w.heap.size + 1, 24, arrC (S)), (w.heap.size, 29, vsC (V))] W := hMj
                  injection ho with ho; subst ho
                  refine .inl ⟨wanted_free rfl, ?_⟩
                  have h77 : A.tmps[77]?.getD undef = .pointer (some ⟨g7, 3, none⟩) := he 3 (by kernel_rfl) (by rfl)
                  have c0 := (hMs.get (g := g7) (t := 35) (cs := taCells ⟨1, mo, lc, tt, m⟩) (by simp)).cell 3
                  go_simp
                  exact ⟨rfl, Below.refl _ _⟩
                · injection ho with ho; subst ho
                  refine .inl ⟨wanted_free rfl, ?_⟩
                  have h7 : A.tmps[7]?.getD undef = .pointer (some ⟨g7, 0, none⟩) := hk 7 (by rfl)
                  go_simp
                  exact ⟨rfl, Below.refl _ _⟩
                · obtain rfl : j = 0 := hj
                  have hMs : Bs w [(g12, 26, vwC (zeroF)), (g9, 29, vsC (V)), (g10, 24, arrC (S)), (gx8, 26, vwC (m)), (g7, 35, taCells ⟨1, mo, lc, tt, m⟩), (w.heap.size + 1 + 1, 24, arrC (K)), (w.heap.size + 1, 24, arrC (S)), (w.heap.size, 29, vsC (V))] W := hMj
                  injection ho with ho; subst ho
                  refine .inl ⟨wanted_free rfl, ?_⟩
                  have h79 : A.tmps[79]?.getD undef = .pointer (some ⟨g7, 1, none⟩) := he 5 (by kernel_rfl) (by rfl)
                  have c0 := (hMs.get (g := g7) (t := 35) (cs := taCells ⟨1, mo, lc, tt, m⟩) (by simp)).cell 1
                  go_simp
                  exact ⟨rfl, Below.refl _ _⟩
                · obtain rfl : j = 0 := hj
                  have hMs : Bs w [(g12, 26, vwC (zeroF)), (g9, 29, vsC (V)), (g10, 24, arrC (S)), (gx8, 26, vwC (m)), (g7, 35, taCells ⟨1, mo, lc, tt, m⟩), (w.heap.size + 1 + 1, 24, arrC (K)), (w.heap.size + 1, 24, arrC (S)), (w.heap.size, 29, vsC (V))] W := hMj
                  injection ho with ho; subst ho
                  refine .inl ⟨wanted_free rfl, ?_⟩
                  have h8 : A.tmps[8]?.getD undef = .pointer (some ⟨gx8, 0, none⟩) := hk 8 (by rfl)
                  exact y_load (cs := vwC (m)) rfl h8 (sits_range ((hMs.get (g := gx8) (t := 26) (cs := vwC (m)) (by simp)))) Try.underlying26 rfl vewSize
                · obtain rfl : j = 0 := hj
                  have hMs : Bs w [(g12, 26, vwC (zeroF)), (g9, 29, vsC (V)), (g10, 24, arrC (S)), (gx8, 26, vwC (m)), (g7, 35, taCells ⟨1, mo, lc, tt, m⟩), (w.heap.size + 1 + 1, 24, arrC (K)), (w.heap.size + 1, 24, arrC (S)), (w.heap.size, 29, vsC (V))] W := hMj
                  injection ho with ho; subst ho
                  refine .inl ⟨wanted_free rfl, ?_⟩
                  have h74 : A.tmps[74]?.getD undef = .agg (vsC (V)) := he 0 (by kernel_rfl) (by rfl)
                  have h76 : A.tmps[76]?.getD undef = .int .i64 lc := he 2 (by kernel_rfl) (by rfl)
                  have h78 : A.tmps[78]?.getD undef = .int .i64 tt := he 4 (by kernel_rfl) (by rfl)
                  have h80 : A.tmps[80]?.getD undef = .int .u8 mo := he 6 (by kernel_rfl) (by rfl)
                  have h81 : A.tmps[81]?.getD undef = .agg (vwC (m)) := he 7 (by kernel_rfl) (by rfl)
                  go_simp
                  refine Calls.mono (write_any V lc tt mo m W) ?_
                  rintro e' w' ⟨rfl, hb⟩
                  exact ⟨_, rfl, rfl, hb⟩
                · injection ho with ho; subst ho
                  refine .inl ⟨wanted_free rfl, ?_⟩
                  have h82 : A.tmps[82]?.getD undef = .tuple #[.agg (vsC (writeV V lc tt mo)), .agg (vwC (writeM V lc tt mo m)), .bool (writeOk V lc tt mo)] := he 8 (by kernel_rfl) (by rfl)
                  go_simp
                  exact ⟨rfl, Below.refl _ _⟩
                · injection ho with ho; subst ho
                  refine .inl ⟨wanted_free rfl, ?_⟩
                  have h73 : A.tmps[73]?.getD undef = .tuple #[.agg (vsC (writeV V lc tt mo)), .agg (vwC (writeM V lc tt mo m)), .bool (writeOk V lc tt mo)] := he 9 (by kernel_rfl) (by rfl)
                  go_simp
                  exact ⟨rfl, Below.refl _ _⟩
                · injection ho with ho; subst ho
                  refine .inl ⟨wanted_free rfl, ?_⟩
                  have h73 : A.tmps[73]?.getD undef = .tuple #[.agg (vsC (writeV V lc tt mo)), .agg (vwC (writeM V lc tt mo m)), .bool (writeOk V lc tt mo)] := he 9 (by kernel_rfl) (by rfl)
                  go_simp
                  exact ⟨rfl, Below.refl _ _⟩
                · injection ho with ho; subst ho
                  refine .inl ⟨wanted_free rfl, ?_⟩
                  have h73 : A.tmps[73]?.getD undef = .tuple #[.agg (vsC (writeV V lc tt mo)), .agg (vwC (writeM V lc tt mo m)), .bool (writeOk V lc tt mo)] := he 9 (by kernel_rfl) (by rfl)
                  go_simp
                  exact ⟨rfl, Below.refl _ _⟩
                · exact absurd hc (by decide)
                · exact absurd hc (by decide)
                · injection ho with ho; subst ho
                  refine .inl ⟨wanted_free rfl, ?_⟩
                  have h85 : A.tmps[85]?.getD undef = .bool (writeOk V lc tt mo) := he 12 (by kernel_rfl) (by rfl)
                  go_simp
                  exact ⟨rfl, Below.refl _ _⟩
              · intro j i o hji ho A W hz hMj hk he
                rcases j with _ | _ | j
                · obtain rfl : 13 = i := Option.some.inj hji
                  injection ho with ho; subst ho
                  refine .inl ⟨wanted_free rfl, ?_⟩
                  have hMs : Bs w [(g12, 26, vwC (zeroF)), (g9, 29, vsC (V)), (g10, 24, arrC (S)), (gx8, 26, vwC (m)), (g7, 35, taCells ⟨1, mo, lc, tt, m⟩), (w.heap.size + 1 + 1, 24, arrC (K)), (w.heap.size + 1, 24, arrC (S)), (w.heap.size, 29, vsC (V))] W := hMj
                  have h3 : A.tmps[3]?.getD undef = .pointer (some ⟨w.heap.size, 0, none⟩) := hk 3 (by rfl)
                  have h83 : A.tmps[83]?.getD undef = .agg (vsC (writeV V lc tt mo)) := he 10 (by kernel_rfl) (by rfl)
                  exact y_store (cells := vsC (writeV V lc tt mo)) rfl h3 h83 (hMs.get (g := w.heap.size) (t := 29) (cs := vsC (V)) (by simp)) (by rw [vsC_size]; exact vsSize) ((vsC_size _).trans (vsC_size _).symm) (vsC_one _) (by have := hgz; omega) (fun _ _ => trivial) (Bs.upd (l1 := [(g12, 26, vwC (zeroF)), (g9, 29, vsC (V)), (g10, 24, arrC (S)), (gx8, 26, vwC (m)), (g7, 35, taCells ⟨1, mo, lc, tt, m⟩), (w.heap.size + 1 + 1, 24, arrC (K)), (w.heap.size + 1, 24, arrC (S))]) (l2 := []) hMs (by omega) (by first | (simp; done) | (simp; omega)) (vsC (writeV V lc tt mo)))
                · obtain rfl : 14 = i := Option.some.inj hji
                  injection ho with ho; subst ho
                  refine .inl ⟨wanted_free rfl, ?_⟩
                  have hMs : Bs w [(g12, 26, vwC (zeroF)), (g9, 29, vsC (V)), (g10, 24, arrC (S)), (gx8, 26, vwC (m)), (g7, 35, taCells ⟨1, mo, lc, tt, m⟩), (w.heap.size + 1 + 1, 24, arrC (K)), (w.heap.size + 1, 24, arrC (S)), (w.heap.size, 29, vsC (writeV V lc tt mo))] W := hMj
                  have h12 : A.tmps[12]?.getD undef = .pointer (some ⟨g12, 0, none⟩) := hk 12 (by rfl)
                  have h84 : A.tmps[84]?.getD undef = .agg (vwC (writeM V lc tt mo m)) := he 11 (by kernel_rfl) (by rfl)
                  exact y_store (cells := vwC (writeM V lc tt mo m)) rfl h12 h84 (hMs.get (g := g12) (t := 26) (cs := vwC (zeroF)) (by simp)) vewSize rfl (vwC_one _) (by have := hgz; omega) (fun _ _ => trivial) (Bs.upd (l1 := []) (l2 := [(g9, 29, vsC (V)), (g10, 24, arrC (S)), (gx8, 26, vwC (m)), (g7, 35, taCells ⟨1, mo, lc, tt, m⟩), (w.heap.size + 1 + 1, 24, arrC (K)), (w.heap.size + 1, 24, arrC (S)), (w.heap.size, 29, vsC (writeV V lc tt mo))]) hMs (by omega) (by first | (simp; done) | (simp; omega)) (vwC (writeM V lc tt mo m)))
                · simp at hji
              · intro xs W hz hMe hV
                have hMe : Bs w [(g12, 26, vwC (writeM V lc tt mo m)), (g9, 29, vsC (V)), (g10, 24, arrC (S)), (gx8, 26, vwC (m)), (g7, 35, taCells ⟨1, mo, lc, tt, m⟩), (w.heap.size + 1 + 1, 24, arrC (K)), (w.heap.size + 1, 24, arrC (S)), (w.heap.size, 29, vsC (writeV V lc tt mo))] W := hMe
                have e11 : xs 15 = .bool (writeOk V lc tt mo) := hV 15 (by simp) rfl
                simp only [putM, Act.put, List.setIfInBounds_toArray, List.set_cons_zero, List.set_cons_succ, Nat.zero_add, Nat.reduceAdd, e11]
                clear hV e11
                generalize W = w5 at hMe ⊢
                have HB := Lib.hid hMe
                clear hMe hz HW hgz
                go_wp2_with fail
                refine Met.intro ?_
                refine hJ _ _ ?_
                exact ⟨writeV V lc tt mo, S, writeM V lc tt mo m, writeOk V lc tt mo, ⟨rfl, rfl, by simp only [List.mem_cons, List.not_mem_nil, or_false, forall_eq_or_imp, forall_eq]; exact ⟨rfl, rfl, rfl, rfl, rfl, rfl, rfl, rfl, rfl, rfl, rfl, rfl, rfl, rfl, rfl, rfl, rfl⟩⟩, HB.out, ⟨HG0.out, sent_may HN.out.1 lc tt mo HMM.out, fun e _ => by
                  obtain ⟨hl, _, _⟩ := writeOk_low e
                  obtain ⟨q, hq, h4, ht⟩ := low_out hl
                  subst hq
                  exact ⟨q, rfl, h4, write_knows h4 ht e⟩⟩⟩
            have HG0 := Lib.hid (grows_read HN.out.1 S lc tt mo HMM.out)
            have HD1 := Lib.hid h2
            have e0 : ((d : Int) == 0) = false := by simpa using h0
            have e1 : ((d : Int) == 1) = false := by simpa using h2
            clear h0 h2
            go_upto_region 16 with (fail)
            clear c0 e0 e1
            cases hok : readOk V lc tt mo
            ·
              have HC : Hid (∀ W, Calls Try.prog 11 #[.agg (vsC (V)), .int .i64 lc, .int .i64 tt, .int .u8 mo, .agg (vwC (m))] W (Made (.returned (.tuple #[.agg (vsC (readV V lc tt mo m)), .bool false])) W)) := Lib.hid (fun W => by
                have h := read_any V lc tt mo m W
                rwa [hok] at h)
              rw [hok] at HG0
              clear hok
              have hgz : w.heap.size + 3 ≤ w4.heap.size ∧ g12 < w4.heap.size := by
                have h1 := ((HW.out.get (g := g12) (t := 26) (cs := vwC (zeroF)) (by simp))).lt
                omega
              refine wp_flowS1 [some 39, some 40, some 41, some 42, some 43, some 44, some 45, some 46, some 47, some 38, some 48, some 49, none, some 11] [12] [0, 0, 0, 0, 0, 0, 0, 0, 0, 0, 0, 0, 0, 1] [eqV (.agg (vsC (V))), eqV (.pointer (some ⟨g7, 2, none⟩)), eqV (.int .i64 lc), eqV (.pointer (some ⟨g7, 3, none⟩)), eqV (.int .i64 tt), eqV (.pointer (some ⟨g7, 1, none⟩)), eqV (.int .u8 mo), eqV (.agg (vwC (m))), eqV (.tuple #[.agg (vsC (readV V lc tt mo m)), .bool false]), eqV (.tuple #[.agg (vsC (readV V lc tt mo m)), .bool false]), eqV (.agg (vsC (readV V lc tt mo m))), eqV (.bool false), fun _ _ => True, eqV (.bool false)] (fun j W => match j with | 0 => Bs w [(g12, 26, vwC (zeroF)), (g9, 29, vsC (V)), (g10, 24, arrC (S)), (gx8, 26, vwC (m)), (g7, 35, taCells ⟨d, mo, lc, tt, m⟩), (w.heap.size + 1 + 1, 24, arrC (K)), (w.heap.size + 1, 24, arrC (S)), (w.heap.size, 29, vsC (V))] W | _ => Bs w [(g12, 26, vwC (zeroF)), (g9, 29, vsC (V)), (g10, 24, arrC (S)), (gx8, 26, vwC (m)), (g7, 35, taCells ⟨d, mo, lc, tt, m⟩), (w.heap.size + 1 + 1, 24, arrC (K)), (w.heap.size + 1, 24, arrC (S)), (w.heap.size, 29, vsC (readV V lc tt mo m))] W) (by kernel_rfl) (by kernel_rfl) (by kernel_rfl) (by rfl)
                (by simp only [List.mem_cons, List.not_mem_nil, or_false, forall_eq_or_imp, forall_eq]; refine ⟨?_, ?_, ?_, ?_, ?_, ?_, ?_, ?_, ?_, ?_, ?_, ?_, ?_, ?_⟩ <;> (first | exact eqV_monoB _ _ | exact rowB_mono _ _ _ _ | exact true_monoB _))
                (fun j W W' h hb => by rcases j with _ | j <;> first | exact (Bs.grown h hb)) (HW.out) ?_ ?_ ?_
              · intro i o hi ho hc j A W hj hz hMj hk he
                simp only [List.length_cons, List.length_nil, Nat.zero_add, Nat.reduceAdd] at hi
                obtain rfl | rfl | rfl | rfl | rfl | rfl | rfl | rfl | rfl | rfl | rfl | rfl | rfl | rfl : i = 0 ∨ i = 1 ∨ i = 2 ∨ i = 3 ∨ i = 4 ∨ i = 5 ∨ i = 6 ∨ i = 7 ∨ i = 8 ∨ i = 9 ∨ i = 10 ∨ i = 11 ∨ i = 12 ∨ i = 13 := by omega
                · obtain rfl : j = 0 := hj
                  have hMs : Bs w [(g12, 26, vwC (zeroF)), (g9, 29, vsC (V)), (g10, 24, arrC (S)), (gx8, 26, vwC (m)), (g7, 35, taCells ⟨d, mo, lc, tt, m⟩), (w.heap.size + 1 + 1, 24, arrC (K)), (w.heap.size + 1, 24, arrC (S)), (w.heap.size, 29, vsC (V))] W := hMj
                  injection ho with ho; subst ho
                  refine .inl ⟨wanted_free rfl, ?_⟩
                  have h3 : A.tmps[3]?.getD undef = .pointer (some ⟨w.heap.size, 0, none⟩) := hk 3 (by rfl)
                  exact y_load (cs := vsC (V)) rfl h3 (sits_range ((hMs.get (g := w.heap.size) (t := 29) (cs := vsC (V)) (by simp)))) Try.underlying29 rfl vsSize
                · injection ho with ho; subst ho
                  refine .inl ⟨wanted_free rfl, ?_⟩
                  have h7 : A.tmps[7]?.getD undef = .pointer (some ⟨g7, 0, none⟩) := hk 7 (by rfl)
                  go_simp
                  exact ⟨rfl, Below.refl _ _⟩
                · obtain rfl : j = 0 := hj
                  have hMs : Bs w [(g12, 26, vwC (zeroF)), (g9, 29, vsC (V)), (g10, 24, arrC (S)), (gx8, 26, vwC (m)), (g7, 35, taCells ⟨d, mo, lc, tt, m⟩), (w.heap.size + 1 + 1, 24, arrC (K)), (w.heap.size + 1, 24, arrC (S)), (w.heap.size, 29, vsC (V))] W := hMj
                  injection ho with ho; subst ho
                  refine .inl ⟨wanted_free rfl, ?_⟩
                  have h40 : A.tmps[40]?.getD undef = .pointer (some ⟨g7, 2, none⟩) := he 1 (by kernel_rfl) (by rfl)
                  have c0 := (hMs.get (g := g7) (t := 35) (cs := taCells ⟨d, mo, lc, tt, m⟩) (by simp)).cell 2
                  go_simp
                  exact ⟨rfl, Below.refl _ _⟩
                · injection ho with ho; subst ho
                  refine .inl ⟨wanted_free rfl, ?_⟩
                  have h7 : A.tmps[7]?.getD undef = .pointer (some ⟨g7, 0, none⟩) := hk 7 (by rfl)
                  go_simp
                  exact ⟨rfl, Below.refl _ _⟩
                · obtain rfl : j = 0 := hj
                  have hMs : Bs w [(g12, 26, vwC (zeroF)), (g9, 29, vsC (V)), (g10, 24, arrC (S)), (gx8, 26, vwC (m)), (g7, 35, taCells ⟨d, mo, lc, tt, m⟩), (w.heap.size + 1 + 1, 24, arrC (K)), (w.heap.size + 1, 24, arrC (S)), (w.heap.size, 29, vsC (V))] W := hMj
                  injection ho with ho; subst ho
                  refine .inl ⟨wanted_free rfl, ?_⟩
                  have h42 : A.tmps[42]?.getD undef = .pointer (some ⟨g7, 3, none⟩) := he 3 (by kernel_rfl) (by rfl)
                  have c0 := (hMs.get (g := g7) (t := 35) (cs := taCells ⟨d, mo, lc, tt, m⟩) (by simp)).cell 3
                  go_simp
                  exact ⟨rfl, Below.refl _ _⟩
                · injection ho with ho; subst ho
                  refine .inl ⟨wanted_free rfl, ?_⟩
                  have h7 : A.tmps[7]?.getD undef = .pointer (some ⟨g7, 0, none⟩) := hk 7 (by rfl)
                  go_simp
                  exact ⟨rfl, Below.refl _ _⟩
                · obtain rfl : j = 0 := hj
                  have hMs : Bs w [(g12, 26, vwC (zeroF)), (g9, 29, vsC (V)), (g10, 24, arrC (S)), (gx8, 26, vwC (m)), (g7, 35, taCells ⟨d, mo, lc, tt, m⟩), (w.heap.size + 1 + 1, 24, arrC (K)), (w.heap.size + 1, 24, arrC (S)), (w.heap.size, 29, vsC (V))] W := hMj
                  injection ho with ho; subst ho
                  refine .inl ⟨wanted_free rfl, ?_⟩
                  have h44 : A.tmps[44]?.getD undef = .pointer (some ⟨g7, 1, none⟩) := he 5 (by kernel_rfl) (by rfl)
                  have c0 := (hMs.get (g := g7) (t := 35) (cs := taCells ⟨d, mo, lc, tt, m⟩) (by simp)).cell 1
                  go_simp
                  exact ⟨rfl, Below.refl _ _⟩
                · obtain rfl : j = 0 := hj
                  have hMs : Bs w [(g12, 26, vwC (zeroF)), (g9, 29, vsC (V)), (g10, 24, arrC (S)), (gx8, 26, vwC (m)), (g7, 35, taCells ⟨d, mo, lc, tt, m⟩), (w.heap.size + 1 + 1, 24, arrC (K)), (w.heap.size + 1, 24, arrC (S)), (w.heap.size, 29, vsC (V))] W := hMj
                  injection ho with ho; subst ho
                  refine .inl ⟨wanted_free rfl, ?_⟩
                  have h8 : A.tmps[8]?.getD undef = .pointer (some ⟨gx8, 0, none⟩) := hk 8 (by rfl)
                  exact y_load (cs := vwC (m)) rfl h8 (sits_range ((hMs.get (g := gx8) (t := 26) (cs := vwC (m)) (by simp)))) Try.underlying26 rfl vewSize
                · obtain rfl : j = 0 := hj
                  have hMs : Bs w [(g12, 26, vwC (zeroF)), (g9, 29, vsC (V)), (g10, 24, arrC (S)), (gx8, 26, vwC (m)), (g7, 35, taCells ⟨d, mo, lc, tt, m⟩), (w.heap.size + 1 + 1, 24, arrC (K)), (w.heap.size + 1, 24, arrC (S)), (w.heap.size, 29, vsC (V))] W := hMj
                  injection ho with ho; subst ho
                  refine .inl ⟨wanted_free rfl, ?_⟩
                  have h39 : A.tmps[39]?.getD undef = .agg (vsC (V)) := he 0 (by kernel_rfl) (by rfl)
                  have h41 : A.tmps[41]?.getD undef = .int .i64 lc := he 2 (by kernel_rfl) (by rfl)
                  have h43 : A.tmps[43]?.getD undef = .int .i64 tt := he 4 (by kernel_rfl) (by rfl)
                  have h45 : A.tmps[45]?.getD undef = .int .u8 mo := he 6 (by kernel_rfl) (by rfl)
                  have h46 : A.tmps[46]?.getD undef = .agg (vwC (m)) := he 7 (by kernel_rfl) (by rfl)
                  go_simp
                  refine Calls.mono (HC.out W) ?_
                  rintro e' w' ⟨rfl, hb⟩
                  exact ⟨_, rfl, rfl, hb⟩
                · injection ho with ho; subst ho
                  refine .inl ⟨wanted_free rfl, ?_⟩
                  have h47 : A.tmps[47]?.getD undef = .tuple #[.agg (vsC (readV V lc tt mo m)), .bool false] := he 8 (by kernel_rfl) (by rfl)
                  go_simp
                  exact ⟨rfl, Below.refl _ _⟩
                · injection ho with ho; subst ho
                  refine .inl ⟨wanted_free rfl, ?_⟩
                  have h38 : A.tmps[38]?.getD undef = .tuple #[.agg (vsC (readV V lc tt mo m)), .bool false] := he 9 (by kernel_rfl) (by rfl)
                  go_simp
                  exact ⟨rfl, Below.refl _ _⟩
                · injection ho with ho; subst ho
                  refine .inl ⟨wanted_free rfl, ?_⟩
                  have h38 : A.tmps[38]?.getD undef = .tuple #[.agg (vsC (readV V lc tt mo m)), .bool false] := he 9 (by kernel_rfl) (by rfl)
                  go_simp
                  exact ⟨rfl, Below.refl _ _⟩
                · exact absurd hc (by decide)
                · injection ho with ho; subst ho
                  refine .inl ⟨wanted_free rfl, ?_⟩
                  have h49 : A.tmps[49]?.getD undef = .bool false := he 11 (by kernel_rfl) (by rfl)
                  go_simp
                  exact ⟨rfl, Below.refl _ _⟩
              · intro j i o hji ho A W hz hMj hk he
                rcases j with _ | j
                · obtain rfl : 12 = i := Option.some.inj hji
                  injection ho with ho; subst ho
                  refine .inl ⟨wanted_free rfl, ?_⟩
                  have hMs : Bs w [(g12, 26, vwC (zeroF)), (g9, 29, vsC (V)), (g10, 24, arrC (S)), (gx8, 26, vwC (m)), (g7, 35, taCells ⟨d, mo, lc, tt, m⟩), (w.heap.size + 1 + 1, 24, arrC (K)), (w.heap.size + 1, 24, arrC (S)), (w.heap.size, 29, vsC (V))] W := hMj
                  have h3 : A.tmps[3]?.getD undef = .pointer (some ⟨w.heap.size, 0, none⟩) := hk 3 (by rfl)
                  have h48 : A.tmps[48]?.getD undef = .agg (vsC (readV V lc tt mo m)) := he 10 (by kernel_rfl) (by rfl)
                  exact y_store (cells := vsC (readV V lc tt mo m)) rfl h3 h48 (hMs.get (g := w.heap.size) (t := 29) (cs := vsC (V)) (by simp)) (by rw [vsC_size]; exact vsSize) ((vsC_size _).trans (vsC_size _).symm) (vsC_one _) (by have := hgz; omega) (fun _ _ => trivial) (Bs.upd (l1 := [(g12, 26, vwC (zeroF)), (g9, 29, vsC (V)), (g10, 24, arrC (S)), (gx8, 26, vwC (m)), (g7, 35, taCells ⟨d, mo, lc, tt, m⟩), (w.heap.size + 1 + 1, 24, arrC (K)), (w.heap.size + 1, 24, arrC (S))]) (l2 := []) hMs (by omega) (by first | (simp; done) | (simp; omega)) (vsC (readV V lc tt mo m)))
                · simp at hji
              · intro xs W hz hMe hV
                have hMe : Bs w [(g12, 26, vwC (zeroF)), (g9, 29, vsC (V)), (g10, 24, arrC (S)), (gx8, 26, vwC (m)), (g7, 35, taCells ⟨d, mo, lc, tt, m⟩), (w.heap.size + 1 + 1, 24, arrC (K)), (w.heap.size + 1, 24, arrC (S)), (w.heap.size, 29, vsC (readV V lc tt mo m))] W := hMe
                have e11 : xs 13 = .bool false := hV 13 (by simp) rfl
                simp only [putM, Act.put, List.setIfInBounds_toArray, List.set_cons_zero, List.set_cons_succ, Nat.zero_add, Nat.reduceAdd, e11]
                clear hV e11
                generalize W = w5 at hMe ⊢
                have HB := Lib.hid hMe
                clear hMe hz HW hgz HC
                go_upto_region 17 with (fail)
                refine wp_flowM [some 50, some 51, some 52, some 53, some 54, some 55, some 56, some 57, some 58, some 59] [] [0, 0, 0, 0, 0, 0, 0, 0, 0, 0] [eqV (.bool false), eqV (.bool false), eqV undef, eqV undef, eqV undef, eqV undef, eqV undef, eqV undef, eqV undef, eqV (.bool false)] (fun _ W => Bs w [(g12, 26, vwC (zeroF)), (g9, 29, vsC (V)), (g10, 24, arrC (S)), (gx8, 26, vwC (m)), (g7, 35, taCells ⟨d, mo, lc, tt, m⟩), (w.heap.size + 1 + 1, 24, arrC (K)), (w.heap.size + 1, 24, arrC (S)), (w.heap.size, 29, vsC (readV V lc tt mo m))] W) (by kernel_rfl) (by kernel_rfl) (by kernel_rfl) (by rfl)
                  (by simp only [List.mem_cons, List.not_mem_nil, or_false, forall_eq_or_imp, forall_eq]; refine ⟨?_, ?_, ?_, ?_, ?_, ?_, ?_, ?_, ?_, ?_⟩ <;> (first | exact eqV_monoB _ _ | exact rowB_mono _ _ _ _ | exact true_monoB _))
                  (fun j W W' h hb => by exact (Bs.grown h hb)) (HB.out) ?_ ?_ ?_
                · intro i o hi ho hc j A W hj hz hMj hk he
                  simp only [List.length_cons, List.length_nil, Nat.zero_add, Nat.reduceAdd] at hi
                  obtain rfl | rfl | rfl | rfl | rfl | rfl | rfl | rfl | rfl | rfl : i = 0 ∨ i = 1 ∨ i = 2 ∨ i = 3 ∨ i = 4 ∨ i = 5 ∨ i = 6 ∨ i = 7 ∨ i = 8 ∨ i = 9 := by omega
                  · injection ho with ho; subst ho
                    refine .inl ⟨wanted_free rfl, ?_⟩
                    have h11 : A.tmps[11]?.getD undef = .bool false := hk 11 (by rfl)
                    go_simp
                    exact ⟨rfl, Below.refl _ _⟩
                  · injection ho with ho; subst ho
                    refine .inl ⟨wanted_free rfl, ?_⟩
                    have h50 : A.tmps[50]?.getD undef = .bool false := he 0 (by kernel_rfl) (by rfl)
                    go_simp
                    exact ⟨rfl, Below.refl _ _⟩
                  · injection ho with ho; subst ho
                    have hg : A.tmps[51]?.getD undef = .bool false := he 1 (by kernel_rfl) (by rfl)
                    exact .inr ⟨wanted_no (d := 51) rfl (by kernel_rfl) hg, rfl⟩
                  · obtain rfl : j = 0 := Nat.le_zero.1 hj
                    have hMs : Bs w [(g12, 26, vwC (zeroF)), (g9, 29, vsC (V)), (g10, 24, arrC (S)), (gx8, 26, vwC (m)), (g7, 35, taCells ⟨d, mo, lc, tt, m⟩), (w.heap.size + 1 + 1, 24, arrC (K)), (w.heap.size + 1, 24, arrC (S)), (w.heap.size, 29, vsC (readV V lc tt mo m))] W := hMj
                    injection ho with ho; subst ho
                    have hg : A.tmps[51]?.getD undef = .bool false := he 1 (by kernel_rfl) (by rfl)
                    exact .inr ⟨wanted_no (d := 51) rfl (by kernel_rfl) hg, rfl⟩
                  · injection ho with ho; subst ho
                    have hg : A.tmps[51]?.getD undef = .bool false := he 1 (by kernel_rfl) (by rfl)
                    exact .inr ⟨wanted_no (d := 51) rfl (by kernel_rfl) hg, rfl⟩
                  · obtain rfl : j = 0 := Nat.le_zero.1 hj
                    have hMs : Bs w [(g12, 26, vwC (zeroF)), (g9, 29, vsC (V)), (g10, 24, arrC (S)), (gx8, 26, vwC (m)), (g7, 35, taCells ⟨d, mo, lc, tt, m⟩), (w.heap.size + 1 + 1, 24, arrC (K)), (w.heap.size + 1, 24, arrC (S)), (w.heap.size, 29, vsC (readV V lc tt mo m))] W := hMj
                    injection ho with ho; subst ho
                    have hg : A.tmps[51]?.getD undef = .bool false := he 1 (by kernel_rfl) (by rfl)
                    exact .inr ⟨wanted_no (d := 51) rfl (by kernel_rfl) hg, rfl⟩
                  · injection ho with ho; subst ho
                    have hg : A.tmps[51]?.getD undef = .bool false := he 1 (by kernel_rfl) (by rfl)
                    exact .inr ⟨wanted_no (d := 51) rfl (by kernel_rfl) hg, rfl⟩
                  · obtain rfl : j = 0 := Nat.le_zero.1 hj
                    have hMs : Bs w [(g12, 26, vwC (zeroF)), (g9, 29, vsC (V)), (g10, 24, arrC (S)), (gx8, 26, vwC (m)), (g7, 35, taCells ⟨d, mo, lc, tt, m⟩), (w.heap.size + 1 + 1, 24, arrC (K)), (w.heap.size + 1, 24, arrC (S)), (w.heap.size, 29, vsC (readV V lc tt mo m))] W := hMj
                    injection ho with ho; subst ho
                    have hg : A.tmps[51]?.getD undef = .bool false := he 1 (by kernel_rfl) (by rfl)
                    exact .inr ⟨wanted_no (d := 51) rfl (by kernel_rfl) hg, rfl⟩
                  · injection ho with ho; subst ho
                    have hg : A.tmps[51]?.getD undef = .bool false := he 1 (by kernel_rfl) (by rfl)
                    exact .inr ⟨wanted_no (d := 51) rfl (by kernel_rfl) hg, rfl⟩
                  · injection ho with ho; subst ho
                    refine .inl ⟨wanted_free rfl, ?_⟩
                    have h51 : A.tmps[51]?.getD undef = .bool false := he 1 (by kernel_rfl) (by rfl)
                    have h58 : A.tmps[58]?.getD undef = undef := he 8 (by kernel_rfl) (by rfl)
                    go_simp
                    exact ⟨rfl, Below.refl _ _⟩
                · intro j i o hji ho A W hz hMj hk he
                  simp at hji
                · intro xs W hz hMe hV
                  have hMe : Bs w [(g12, 26, vwC (zeroF)), (g9, 29, vsC (V)), (g10, 24, arrC (S)), (gx8, 26, vwC (m)), (g7, 35, taCells ⟨d, mo, lc, tt, m⟩), (w.heap.size + 1 + 1, 24, arrC (K)), (w.heap.size + 1, 24, arrC (S)), (w.heap.size, 29, vsC (readV V lc tt mo m))] W := hMe
                  have e59 : xs 9 = .bool false := hV 9 (by simp) rfl
                  simp only [putM, Act.put, List.setIfInBounds_toArray, List.set_cons_zero, List.set_cons_succ, Nat.zero_add, Nat.reduceAdd, e59]
                  clear hV e59
                  generalize W = w6 at hMe ⊢
                  have HB2 := Lib.hid hMe
                  clear hMe hz HB
                  go_wp2_with fail
                  refine Met.intro ?_
                  refine hJ _ _ ?_
                  exact ⟨readV V lc tt mo m, S, zeroF, false, ⟨rfl, rfl, by simp only [List.mem_cons, List.not_mem_nil, or_false, forall_eq_or_imp, forall_eq]; exact ⟨rfl, rfl, rfl, rfl, rfl, rfl, rfl, rfl, rfl, rfl, rfl, rfl, rfl, rfl, rfl, rfl, rfl⟩⟩, HB2.out, ⟨HG0.out, may_zero, fun e => by cases e⟩⟩
            ·
              obtain ⟨q, hq, h4, ht⟩ := low_out (readOk_low hok).1
              subst hq
              have HQ := Lib.hid h4
              have hlate : ¬ tt < K q := by have := read_late HN.out.1 h4 hok (HN.out.2 q h4); omega
              have i0 : (0 : Int) ≤ (q : Int) := by omega
              have i4 : (q : Int) < 4 := by omega
              have HKQ : Hid ((d = 1 ∨ (1 < d ∧ mo ≠ 1)) → ∃ q' : Nat, (q : Int) = (q' : Int) ∧ q' < 4 ∧ tt ≤ readV V q tt mo m 0 q') := Lib.hid (fun h => ⟨q, rfl, h4, read_knows h4 ht hok (by have := HD1.out; omega)⟩)
              clear h4 ht
              have HC : Hid (∀ W, Calls Try.prog 11 #[.agg (vsC (V)), .int .i64 (q : Int), .int .i64 tt, .int .u8 mo, .agg (vwC (m))] W (Made (.returned (.tuple #[.agg (vsC (readV V (q : Int) tt mo m)), .bool true])) W)) := Lib.hid (fun W => by
                have h := read_any V (q : Int) tt mo m W
                rwa [hok] at h)
              rw [hok] at HG0
              clear hok
              have hgz : w.heap.size + 3 ≤ w4.heap.size ∧ g12 < w4.heap.size := by
                have h1 := ((HW.out.get (g := g12) (t := 26) (cs := vwC (zeroF)) (by simp))).lt
                omega
              refine wp_flowS1 [some 39, some 40, some 41, some 42, some 43, some 44, some 45, some 46, some 47, some 38, some 48, some 49, none, some 11] [12] [0, 0, 0, 0, 0, 0, 0, 0, 0, 0, 0, 0, 0, 1] [eqV (.agg (vsC (V))), eqV (.pointer (some ⟨g7, 2, none⟩)), eqV (.int .i64 (q : Int)), eqV (.pointer (some ⟨g7, 3, none⟩)), eqV (.int .i64 tt), eqV (.pointer (some ⟨g7, 1, none⟩)), eqV (.int .u8 mo), eqV (.agg (vwC (m))), eqV (.tuple #[.agg (vsC (readV V (q : Int) tt mo m)), .bool true]), eqV (.tuple #[.agg (vsC (readV V (q : Int) tt mo m)), .bool true]), eqV (.agg (vsC (readV V (q : Int) tt mo m))), eqV (.bool true), fun _ _ => True, eqV (.bool true)] (fun j W => match j with | 0 => Bs w [(g12, 26, vwC (zeroF)), (g9, 29, vsC (V)), (g10, 24, arrC (S)), (gx8, 26, vwC (m)), (g7, 35, taCells ⟨d, mo, (q : Int), tt, m⟩), (w.heap.size + 1 + 1, 24, arrC (K)), (w.heap.size + 1, 24, arrC (S)), (w.heap.size, 29, vsC (V))] W | _ => Bs w [(g12, 26, vwC (zeroF)), (g9, 29, vsC (V)), (g10, 24, arrC (S)), (gx8, 26, vwC (m)), (g7, 35, taCells ⟨d, mo, (q : Int), tt, m⟩), (w.heap.size + 1 + 1, 24, arrC (K)), (w.heap.size + 1, 24, arrC (S)), (w.heap.size, 29, vsC (readV V (q : Int) tt mo m))] W) (by kernel_rfl) (by kernel_rfl) (by kernel_rfl) (by rfl)
                (by simp only [List.mem_cons, List.not_mem_nil, or_false, forall_eq_or_imp, forall_eq]; refine ⟨?_, ?_, ?_, ?_, ?_, ?_, ?_, ?_, ?_, ?_, ?_, ?_, ?_, ?_⟩ <;> (first | exact eqV_monoB _ _ | exact rowB_mono _ _ _ _ | exact true_monoB _))
                (fun j W W' h hb => by rcases j with _ | j <;> first | exact (Bs.grown h hb)) (HW.out) ?_ ?_ ?_
              · intro i o hi ho hc j A W hj hz hMj hk he
                simp only [List.length_cons, List.length_nil, Nat.zero_add, Nat.reduceAdd] at hi
                obtain rfl | rfl | rfl | rfl | rfl | rfl | rfl | rfl | rfl | rfl | rfl | rfl | rfl | rfl : i = 0 ∨ i = 1 ∨ i = 2 ∨ i = 3 ∨ i = 4 ∨ i = 5 ∨ i = 6 ∨ i = 7 ∨ i = 8 ∨ i = 9 ∨ i = 10 ∨ i = 11 ∨ i = 12 ∨ i = 13 := by omega
                · obtain rfl : j = 0 := hj
                  have hMs : Bs w [(g12, 26, vwC (zeroF)), (g9, 29, vsC (V)), (g10, 24, arrC (S)), (gx8, 26, vwC (m)), (g7, 35, taCells ⟨d, mo, (q : Int), tt, m⟩), (w.heap.size + 1 + 1, 24, arrC (K)), (w.heap.size + 1, 24, arrC (S)), (w.heap.size, 29, vsC (V))] W := hMj
                  injection ho with ho; subst ho
                  refine .inl ⟨wanted_free rfl, ?_⟩
                  have h3 : A.tmps[3]?.getD undef = .pointer (some ⟨w.heap.size, 0, none⟩) := hk 3 (by rfl)
                  exact y_load (cs := vsC (V)) rfl h3 (sits_range ((hMs.get (g := w.heap.size) (t := 29) (cs := vsC (V)) (by simp)))) Try.underlying29 rfl vsSize
                · injection ho with ho; subst ho
                  refine .inl ⟨wanted_free rfl, ?_⟩
                  have h7 : A.tmps[7]?.getD undef = .pointer (some ⟨g7, 0, none⟩) := hk 7 (by rfl)
                  go_simp
                  exact ⟨rfl, Below.refl _ _⟩
                · obtain rfl : j = 0 := hj
                  have hMs : Bs w [(g12, 26, vwC (zeroF)), (g9, 29, vsC (V)), (g10, 24, arrC (S)), (gx8, 26, vwC (m)), (g7, 35, taCells ⟨d, mo, (q : Int), tt, m⟩), (w.heap.size + 1 + 1, 24, arrC (K)), (w.heap.size + 1, 24, arrC (S)), (w.heap.size, 29, vsC (V))] W := hMj
                  injection ho with ho; subst ho
                  refine .inl ⟨wanted_free rfl, ?_⟩
                  have h40 : A.tmps[40]?.getD undef = .pointer (some ⟨g7, 2, none⟩) := he 1 (by kernel_rfl) (by rfl)
                  have c0 := (hMs.get (g := g7) (t := 35) (cs := taCells ⟨d, mo, (q : Int), tt, m⟩) (by simp)).cell 2
                  go_simp
                  exact ⟨rfl, Below.refl _ _⟩
                · injection ho with ho; subst ho
                  refine .inl ⟨wanted_free rfl, ?_⟩
                  have h7 : A.tmps[7]?.getD undef = .pointer (some ⟨g7, 0, none⟩) := hk 7 (by rfl)
                  go_simp
                  exact ⟨rfl, Below.refl _ _⟩
                · obtain rfl : j = 0 := hj
                  have hMs : Bs w [(g12, 26, vwC (zeroF)), (g9, 29, vsC (V)), (g10, 24, arrC (S)), (gx8, 26, vwC (m)), (g7, 35, taCells ⟨d, mo, (q : Int), tt, m⟩), (w.heap.size + 1 + 1, 24, arrC (K)), (w.heap.size + 1, 24, arrC (S)), (w.heap.size, 29, vsC (V))] W := hMj
                  injection ho with ho; subst ho
                  refine .inl ⟨wanted_free rfl, ?_⟩
                  have h42 : A.tmps[42]?.getD undef = .pointer (some ⟨g7, 3, none⟩) := he 3 (by kernel_rfl) (by rfl)
                  have c0 := (hMs.get (g := g7) (t := 35) (cs := taCells ⟨d, mo, (q : Int), tt, m⟩) (by simp)).cell 3
                  go_simp
                  exact ⟨rfl, Below.refl _ _⟩
                · injection ho with ho; subst ho
                  refine .inl ⟨wanted_free rfl, ?_⟩
                  have h7 : A.tmps[7]?.getD undef = .pointer (some ⟨g7, 0, none⟩) := hk 7 (by rfl)
                  go_simp
                  exact ⟨rfl, Below.refl _ _⟩
                · obtain rfl : j = 0 := hj
                  have hMs : Bs w [(g12, 26, vwC (zeroF)), (g9, 29, vsC (V)), (g10, 24, arrC (S)), (gx8, 26, vwC (m)), (g7, 35, taCells ⟨d, mo, (q : Int), tt, m⟩), (w.heap.size + 1 + 1, 24, arrC (K)), (w.heap.size + 1, 24, arrC (S)), (w.heap.size, 29, vsC (V))] W := hMj
                  injection ho with ho; subst ho
                  refine .inl ⟨wanted_free rfl, ?_⟩
                  have h44 : A.tmps[44]?.getD undef = .pointer (some ⟨g7, 1, none⟩) := he 5 (by kernel_rfl) (by rfl)
                  have c0 := (hMs.get (g := g7) (t := 35) (cs := taCells ⟨d, mo, (q : Int), tt, m⟩) (by simp)).cell 1
                  go_simp
                  exact ⟨rfl, Below.refl _ _⟩
                · obtain rfl : j = 0 := hj
                  have hMs : Bs w [(g12, 26, vwC (zeroF)), (g9, 29, vsC (V)), (g10, 24, arrC (S)), (gx8, 26, vwC (m)), (g7, 35, taCells ⟨d, mo, (q : Int), tt, m⟩), (w.heap.size + 1 + 1, 24, arrC (K)), (w.heap.size + 1, 24, arrC (S)), (w.heap.size, 29, vsC (V))] W := hMj
                  injection ho with ho; subst ho
                  refine .inl ⟨wanted_free rfl, ?_⟩
                  have h8 : A.tmps[8]?.getD undef = .pointer (some ⟨gx8, 0, none⟩) := hk 8 (by rfl)
                  exact y_load (cs := vwC (m)) rfl h8 (sits_range ((hMs.get (g := gx8) (t := 26) (cs := vwC (m)) (by simp)))) Try.underlying26 rfl vewSize
                · obtain rfl : j = 0 := hj
                  have hMs : Bs w [(g12, 26, vwC (zeroF)), (g9, 29, vsC (V)), (g10, 24, arrC (S)), (gx8, 26, vwC (m)), (g7, 35, taCells ⟨d, mo, (q : Int), tt, m⟩), (w.heap.size + 1 + 1, 24, arrC (K)), (w.heap.size + 1, 24, arrC (S)), (w.heap.size, 29, vsC (V))] W := hMj
                  injection ho with ho; subst ho
                  refine .inl ⟨wanted_free rfl, ?_⟩
                  have h39 : A.tmps[39]?.getD undef = .agg (vsC (V)) := he 0 (by kernel_rfl) (by rfl)
                  have h41 : A.tmps[41]?.getD undef = .int .i64 (q : Int) := he 2 (by kernel_rfl) (by rfl)
                  have h43 : A.tmps[43]?.getD undef = .int .i64 tt := he 4 (by kernel_rfl) (by rfl)
                  have h45 : A.tmps[45]?.getD undef = .int .u8 mo := he 6 (by kernel_rfl) (by rfl)
                  have h46 : A.tmps[46]?.getD undef = .agg (vwC (m)) := he 7 (by kernel_rfl) (by rfl)
                  go_simp
                  refine Calls.mono (HC.out W) ?_
                  rintro e' w' ⟨rfl, hb⟩
                  exact ⟨_, rfl, rfl, hb⟩
                · injection ho with ho; subst ho
                  refine .inl ⟨wanted_free rfl, ?_⟩
                  have h47 : A.tmps[47]?.getD undef = .tuple #[.agg (vsC (readV V (q : Int) tt mo m)), .bool true] := he 8 (by kernel_rfl) (by rfl)
                  go_simp
                  exact ⟨rfl, Below.refl _ _⟩
                · injection ho with ho; subst ho
                  refine .inl ⟨wanted_free rfl, ?_⟩
                  have h38 : A.tmps[38]?.getD undef = .tuple #[.agg (vsC (readV V (q : Int) tt mo m)), .bool true] := he 9 (by kernel_rfl) (by rfl)
                  go_simp
                  exact ⟨rfl, Below.refl _ _⟩
                · injection ho with ho; subst ho
                  refine .inl ⟨wanted_free rfl, ?_⟩
                  have h38 : A.tmps[38]?.getD undef = .tuple #[.agg (vsC (readV V (q : Int) tt mo m)), .bool true] := he 9 (by kernel_rfl) (by rfl)
                  go_simp
                  exact ⟨rfl, Below.refl _ _⟩
                · exact absurd hc (by decide)
                · injection ho with ho; subst ho
                  refine .inl ⟨wanted_free rfl, ?_⟩
                  have h49 : A.tmps[49]?.getD undef = .bool true := he 11 (by kernel_rfl) (by rfl)
                  go_simp
                  exact ⟨rfl, Below.refl _ _⟩
              · intro j i o hji ho A W hz hMj hk he
                rcases j with _ | j
                · obtain rfl : 12 = i := Option.some.inj hji
                  injection ho with ho; subst ho
                  refine .inl ⟨wanted_free rfl, ?_⟩
                  have hMs : Bs w [(g12, 26, vwC (zeroF)), (g9, 29, vsC (V)), (g10, 24, arrC (S)), (gx8, 26, vwC (m)), (g7, 35, taCells ⟨d, mo, (q : Int), tt, m⟩), (w.heap.size + 1 + 1, 24, arrC (K)), (w.heap.size + 1, 24, arrC (S)), (w.heap.size, 29, vsC (V))] W := hMj
                  have h3 : A.tmps[3]?.getD undef = .pointer (some ⟨w.heap.size, 0, none⟩) := hk 3 (by rfl)
                  have h48 : A.tmps[48]?.getD undef = .agg (vsC (readV V (q : Int) tt mo m)) := he 10 (by kernel_rfl) (by rfl)
                  exact y_store (cells := vsC (readV V (q : Int) tt mo m)) rfl h3 h48 (hMs.get (g := w.heap.size) (t := 29) (cs := vsC (V)) (by simp)) (by rw [vsC_size]; exact vsSize) ((vsC_size _).trans (vsC_size _).symm) (vsC_one _) (by have := hgz; omega) (fun _ _ => trivial) (Bs.upd (l1 := [(g12, 26, vwC (zeroF)), (g9, 29, vsC (V)), (g10, 24, arrC (S)), (gx8, 26, vwC (m)), (g7, 35, taCells ⟨d, mo, (q : Int), tt, m⟩), (w.heap.size + 1 + 1, 24, arrC (K)), (w.heap.size + 1, 24, arrC (S))]) (l2 := []) hMs (by omega) (by first | (simp; done) | (simp; omega)) (vsC (readV V (q : Int) tt mo m)))
                · simp at hji
              · intro xs W hz hMe hV
                have hMe : Bs w [(g12, 26, vwC (zeroF)), (g9, 29, vsC (V)), (g10, 24, arrC (S)), (gx8, 26, vwC (m)), (g7, 35, taCells ⟨d, mo, (q : Int), tt, m⟩), (w.heap.size + 1 + 1, 24, arrC (K)), (w.heap.size + 1, 24, arrC (S)), (w.heap.size, 29, vsC (readV V (q : Int) tt mo m))] W := hMe
                have e11 : xs 13 = .bool true := hV 13 (by simp) rfl
                simp only [putM, Act.put, List.setIfInBounds_toArray, List.set_cons_zero, List.set_cons_succ, Nat.zero_add, Nat.reduceAdd, e11]
                clear hV e11
                generalize W = w5 at hMe ⊢
                have HB := Lib.hid hMe
                clear hMe hz HW hgz HC
                go_upto_region 17 with (fail)
                refine wp_flowM [some 50, some 51, some 52, some 53, some 54, some 55, some 56, some 57, some 58, some 59] [] [0, 0, 0, 0, 0, 0, 0, 0, 0, 0] [eqV (.bool true), eqV (.bool true), eqV (.pointer (some ⟨g7, 3, none⟩)), eqV (.int .i64 tt), eqV (.pointer (some ⟨g7, 2, none⟩)), eqV (.int .i64 (q : Int)), eqV (.pointer (some ⟨w.heap.size + 1 + 1, q, none⟩)), eqV (.int .i64 (K q)), eqV (.bool false), eqV (.bool false)] (fun _ W => Bs w [(g12, 26, vwC (zeroF)), (g9, 29, vsC (V)), (g10, 24, arrC (S)), (gx8, 26, vwC (m)), (g7, 35, taCells ⟨d, mo, (q : Int), tt, m⟩), (w.heap.size + 1 + 1, 24, arrC (K)), (w.heap.size + 1, 24, arrC (S)), (w.heap.size, 29, vsC (readV V (q : Int) tt mo m))] W) (by kernel_rfl) (by kernel_rfl) (by kernel_rfl) (by rfl)
                  (by simp only [List.mem_cons, List.not_mem_nil, or_false, forall_eq_or_imp, forall_eq]; refine ⟨?_, ?_, ?_, ?_, ?_, ?_, ?_, ?_, ?_, ?_⟩ <;> (first | exact eqV_monoB _ _ | exact rowB_mono _ _ _ _ | exact true_monoB _))
                  (fun j W W' h hb => by exact (Bs.grown h hb)) (HB.out) ?_ ?_ ?_
                · intro i o hi ho hc j A W hj hz hMj hk he
                  simp only [List.length_cons, List.length_nil, Nat.zero_add, Nat.reduceAdd] at hi
                  obtain rfl | rfl | rfl | rfl | rfl | rfl | rfl | rfl | rfl | rfl : i = 0 ∨ i = 1 ∨ i = 2 ∨ i = 3 ∨ i = 4 ∨ i = 5 ∨ i = 6 ∨ i = 7 ∨ i = 8 ∨ i = 9 := by omega
                  · injection ho with ho; subst ho
                    refine .inl ⟨wanted_free rfl, ?_⟩
                    have h11 : A.tmps[11]?.getD undef = .bool true := hk 11 (by rfl)
                    go_simp
                    exact ⟨rfl, Below.refl _ _⟩
                  · injection ho with ho; subst ho
                    refine .inl ⟨wanted_free rfl, ?_⟩
                    have h50 : A.tmps[50]?.getD undef = .bool true := he 0 (by kernel_rfl) (by rfl)
                    go_simp
                    exact ⟨rfl, Below.refl _ _⟩
                  · injection ho with ho; subst ho
                    have hg : A.tmps[51]?.getD undef = .bool true := he 1 (by kernel_rfl) (by rfl)
                    refine .inl ⟨wanted_yes (d := 51) rfl (by kernel_rfl) hg, ?_⟩
                    have h7 : A.tmps[7]?.getD undef = .pointer (some ⟨g7, 0, none⟩) := hk 7 (by rfl)
                    go_simp
                    exact ⟨rfl, Below.refl _ _⟩
                  · obtain rfl : j = 0 := Nat.le_zero.1 hj
                    have hMs : Bs w [(g12, 26, vwC (zeroF)), (g9, 29, vsC (V)), (g10, 24, arrC (S)), (gx8, 26, vwC (m)), (g7, 35, taCells ⟨d, mo, (q : Int), tt, m⟩), (w.heap.size + 1 + 1, 24, arrC (K)), (w.heap.size + 1, 24, arrC (S)), (w.heap.size, 29, vsC (readV V (q : Int) tt mo m))] W := hMj
                    injection ho with ho; subst ho
                    have hg : A.tmps[51]?.getD undef = .bool true := he 1 (by kernel_rfl) (by rfl)
                    refine .inl ⟨wanted_yes (d := 51) rfl (by kernel_rfl) hg, ?_⟩
                    have h52 : A.tmps[52]?.getD undef = .pointer (some ⟨g7, 3, none⟩) := he 2 (by kernel_rfl) (by rfl)
                    have c0 := (hMs.get (g := g7) (t := 35) (cs := taCells ⟨d, mo, (q : Int), tt, m⟩) (by simp)).cell 3
                    go_simp
                    exact ⟨rfl, Below.refl _ _⟩
                  · injection ho with ho; subst ho
                    have hg : A.tmps[51]?.getD undef = .bool true := he 1 (by kernel_rfl) (by rfl)
                    refine .inl ⟨wanted_yes (d := 51) rfl (by kernel_rfl) hg, ?_⟩
                    have h7 : A.tmps[7]?.getD undef = .pointer (some ⟨g7, 0, none⟩) := hk 7 (by rfl)
                    go_simp
                    exact ⟨rfl, Below.refl _ _⟩
                  · obtain rfl : j = 0 := Nat.le_zero.1 hj
                    have hMs : Bs w [(g12, 26, vwC (zeroF)), (g9, 29, vsC (V)), (g10, 24, arrC (S)), (gx8, 26, vwC (m)), (g7, 35, taCells ⟨d, mo, (q : Int), tt, m⟩), (w.heap.size + 1 + 1, 24, arrC (K)), (w.heap.size + 1, 24, arrC (S)), (w.heap.size, 29, vsC (readV V (q : Int) tt mo m))] W := hMj
                    injection ho with ho; subst ho
                    have hg : A.tmps[51]?.getD undef = .bool true := he 1 (by kernel_rfl) (by rfl)
                    refine .inl ⟨wanted_yes (d := 51) rfl (by kernel_rfl) hg, ?_⟩
                    have h54 : A.tmps[54]?.getD undef = .pointer (some ⟨g7, 2, none⟩) := he 4 (by kernel_rfl) (by rfl)
                    have c0 := (hMs.get (g := g7) (t := 35) (cs := taCells ⟨d, mo, (q : Int), tt, m⟩) (by simp)).cell 2
                    go_simp
                    exact ⟨rfl, Below.refl _ _⟩
                  · injection ho with ho; subst ho
                    have hg : A.tmps[51]?.getD undef = .bool true := he 1 (by kernel_rfl) (by rfl)
                    refine .inl ⟨wanted_yes (d := 51) rfl (by kernel_rfl) hg, ?_⟩
                    have h5 : A.tmps[5]?.getD undef = .pointer (some ⟨w.heap.size + 1 + 1, 0, none⟩) := hk 5 (by rfl)
                    have h55 : A.tmps[55]?.getD undef = .int .i64 (q : Int) := he 5 (by kernel_rfl) (by rfl)
                    go_simp
                    exact ⟨rfl, Below.refl _ _⟩
                  · obtain rfl : j = 0 := Nat.le_zero.1 hj
                    have hMs : Bs w [(g12, 26, vwC (zeroF)), (g9, 29, vsC (V)), (g10, 24, arrC (S)), (gx8, 26, vwC (m)), (g7, 35, taCells ⟨d, mo, (q : Int), tt, m⟩), (w.heap.size + 1 + 1, 24, arrC (K)), (w.heap.size + 1, 24, arrC (S)), (w.heap.size, 29, vsC (readV V (q : Int) tt mo m))] W := hMj
                    injection ho with ho; subst ho
                    have hg : A.tmps[51]?.getD undef = .bool true := he 1 (by kernel_rfl) (by rfl)
                    refine .inl ⟨wanted_yes (d := 51) rfl (by kernel_rfl) hg, ?_⟩
                    have h56 : A.tmps[56]?.getD undef = .pointer (some ⟨w.heap.size + 1 + 1, q, none⟩) := he 6 (by kernel_rfl) (by rfl)
                    have c0 := ((hMs.get (g := w.heap.size + 1 + 1) (t := 24) (cs := arrC (K)) (by simp)).cell q).trans (arrC_at K q HQ.out)
                    go_simp
                    exact ⟨rfl, Below.refl _ _⟩
                  · injection ho with ho; subst ho
                    have hg : A.tmps[51]?.getD undef = .bool true := he 1 (by kernel_rfl) (by rfl)
                    refine .inl ⟨wanted_yes (d := 51) rfl (by kernel_rfl) hg, ?_⟩
                    have h53 : A.tmps[53]?.getD undef = .int .i64 tt := he 3 (by kernel_rfl) (by rfl)
                    have h57 : A.tmps[57]?.getD undef = .int .i64 (K q) := he 7 (by kernel_rfl) (by rfl)
                    go_simp
                    exact ⟨rfl, Below.refl _ _⟩
                  · injection ho with ho; subst ho
                    refine .inl ⟨wanted_free rfl, ?_⟩
                    have h51 : A.tmps[51]?.getD undef = .bool true := he 1 (by kernel_rfl) (by rfl)
                    have h58 : A.tmps[58]?.getD undef = .bool false := he 8 (by kernel_rfl) (by rfl)
                    go_simp
                    exact ⟨rfl, Below.refl _ _⟩
                · intro j i o hji ho A W hz hMj hk he
                  simp at hji
                · intro xs W hz hMe hV
                  have hMe : Bs w [(g12, 26, vwC (zeroF)), (g9, 29, vsC (V)), (g10, 24, arrC (S)), (gx8, 26, vwC (m)), (g7, 35, taCells ⟨d, mo, (q : Int), tt, m⟩), (w.heap.size + 1 + 1, 24, arrC (K)), (w.heap.size + 1, 24, arrC (S)), (w.heap.size, 29, vsC (readV V (q : Int) tt mo m))] W := hMe
                  have e59 : xs 9 = .bool false := hV 9 (by simp) rfl
                  simp only [putM, Act.put, List.setIfInBounds_toArray, List.set_cons_zero, List.set_cons_succ, Nat.zero_add, Nat.reduceAdd, e59]
                  clear hV e59
                  generalize W = w6 at hMe ⊢
                  have HB2 := Lib.hid hMe
                  clear hMe hz HB hlate
                  go_wp2_with fail
                  refine Met.intro ?_
                  refine hJ _ _ ?_
                  exact ⟨readV V (q : Int) tt mo m, S, zeroF, true, ⟨rfl, rfl, by simp only [List.mem_cons, List.not_mem_nil, or_false, forall_eq_or_imp, forall_eq]; exact ⟨rfl, rfl, rfl, rfl, rfl, rfl, rfl, rfl, rfl, rfl, rfl, rfl, rfl, rfl, rfl, rfl, rfl⟩⟩, HB2.out, ⟨HG0.out, may_zero, fun _ => HKQ.out⟩⟩
          case rest =>
            rintro ⟨T, DD⟩ w5 ⟨V1, S1, sent, ok, hF, hB, hX⟩
            obtain ⟨hsz, hdf, hat⟩ := hF
            simp only [List.mem_cons, List.not_mem_nil, or_false, forall_eq_or_imp, forall_eq] at hsz hdf hat
            obtain ⟨q0, q1, q2, q3, q4, q5, q6, q7, q8, q9, q10, q11, q12, q13, q14, q15, q16⟩ := hat
            subst hdf
            have hsp := spread T 185 hsz
            simp only [List.range, List.range.loop, List.map_cons, List.map_nil, q0, q1, q2, q3, q4, q5, q6, q7, q8, q9, q10, q11, q12, q13, q14, q15, q16] at hsp
            rw [hsp]
            clear hsp hsz q0 q1 q2 q3 q4 q5 q6 q7 q8 q9 q10 q11 q12 q13 q14 q15 q16
            have HB := Lib.hid hB
            have HG := Lib.hid hX.grows
            have HSM := Lib.hid hX.sm
            have HKN0 := Lib.hid hX.kn
            clear hB hX HW c0
            cases ok
            ·
              have hs := HG.out.same rfl
              rw [hs.1, hs.2] at HB HG
              clear hs HKN0
              go_upto_region 23 with (fail)
              have HM : Hid (∀ W, Calls Try.prog 17 #[.agg (vsC (V))] W (Made (.returned (.bool true)) W)) := Lib.hid (fun W => by have h := may6_any (V) W; rwa [may6_of HG.out.may] at h)
              have HS2 : Hid (∀ W, Calls Try.prog 16 #[.agg (vwC (sent))] W (Made (.returned (.bool true)) W)) := Lib.hid (fun W => by have h := may_v (sent) W; rwa [HSM.out] at h)
              have HQ1 : Hid (∀ W, (binOp .neq 29 (.agg (vsC (V))) (.agg (vsC (V)))).run Try.prog W = .ok (.bool false) W) := Lib.hid (fun W => by have h := neq_vs V V W; rw [sameV_self] at h; exact h)
              have HQ2 : Hid (∀ W, (binOp .neq 24 (arr (S)) (arr (S))).run Try.prog W = .ok (.bool false) W) := Lib.hid (fun W => by have h := neq_arr S S W; rw [same_self] at h; exact h)
              refine wp_flowQ [86, 87, 88, 89, 90, 91, 92, 93, 94, 95, 96, 97, 98, 99, 100, 101, 102, 103, 104, 105, 106, 107, 108, 109, 110, 111, 112, 113, 114, 115, 116, 117, 118, 119, 120, 121, 122, 123] [eqV (.agg (vsC (V))), eqV (.bool true), eqV (.bool false), eqV (.bool false), eqV (.pointer (some ⟨g9, 0, none⟩)), eqV (.agg (vwC (V 0))), eqV (.pointer (some ⟨w.heap.size, 0, none⟩)), eqV (.agg (vwC (V 0))), eqV (.bool true), eqV (.bool false), eqV (.bool false), eqV (.bool false), eqV (.pointer (some ⟨g9, 8, none⟩)), eqV (.agg (vwC (V 1))), eqV (.pointer (some ⟨w.heap.size, 8, none⟩)), eqV (.agg (vwC (V 1))), eqV (.bool true), eqV (.bool false), eqV (.bool false), eqV (.bool false), eqV (.agg (vwC (sent))), eqV (.bool true), eqV (.bool false), eqV (.bool false), eqV (.bool false), eqV (.bool false), eqV (.bool true), eqV (.bool true), eqV (.agg (vsC (V))), eqV (.agg (vsC (V))), eqV (.bool false), eqV (.bool false), eqV (arr (S)), eqV (arr (S)), eqV (.bool false), eqV (.bool false), eqV (.bool false), eqV (.bool false)] (by kernel_rfl) (by kernel_rfl) (by kernel_rfl) (by kernel_rfl) (by rfl)
                (by simp only [List.mem_cons, List.not_mem_nil, or_false, forall_eq_or_imp, forall_eq]; refine ⟨?_, ?_, ?_, ?_, ?_, ?_, ?_, ?_, ?_, ?_, ?_, ?_, ?_, ?_, ?_, ?_, ?_, ?_, ?_, ?_, ?_, ?_, ?_, ?_, ?_, ?_, ?_, ?_, ?_, ?_, ?_, ?_, ?_, ?_, ?_, ?_, ?_, ?_⟩ <;> (first | exact eqV_mono _ | exact rowV_mono _ _ _)) ?_ ?_
              · intro i o hi ho A W hW hk he
                simp only [List.length_cons, List.length_nil, Nat.zero_add, Nat.reduceAdd] at hi
                obtain rfl | rfl | rfl | rfl | rfl | rfl | rfl | rfl | rfl | rfl | rfl | rfl | rfl | rfl | rfl | rfl | rfl | rfl | rfl | rfl | rfl | rfl | rfl | rfl | rfl | rfl | rfl | rfl | rfl | rfl | rfl | rfl | rfl | rfl | rfl | rfl | rfl | rfl : i = 0 ∨ i = 1 ∨ i = 2 ∨ i = 3 ∨ i = 4 ∨ i = 5 ∨ i = 6 ∨ i = 7 ∨ i = 8 ∨ i = 9 ∨ i = 10 ∨ i = 11 ∨ i = 12 ∨ i = 13 ∨ i = 14 ∨ i = 15 ∨ i = 16 ∨ i = 17 ∨ i = 18 ∨ i = 19 ∨ i = 20 ∨ i = 21 ∨ i = 22 ∨ i = 23 ∨ i = 24 ∨ i = 25 ∨ i = 26 ∨ i = 27 ∨ i = 28 ∨ i = 29 ∨ i = 30 ∨ i = 31 ∨ i = 32 ∨ i = 33 ∨ i = 34 ∨ i = 35 ∨ i = 36 ∨ i = 37 := by omega
                · injection ho with ho; subst ho
                  refine .inl ⟨wanted_free rfl, ?_⟩
                  have h3 : A.tmps[3]?.getD undef = .pointer (some ⟨w.heap.size, 0, none⟩) := hk 3 (by rfl)
                  exact y_load (cs := vsC (V)) rfl h3 (sits_range (((HB.out.grown hW).get (g := w.heap.size) (t := 29) (cs := vsC (V)) (by simp)))) Try.underlying29 rfl vsSize
                · injection ho with ho; subst ho
                  refine .inl ⟨wanted_free rfl, ?_⟩
                  have h86 : A.tmps[86]?.getD undef = .agg (vsC (V)) := he 0 (by kernel_rfl)
                  go_simp
                  refine Calls.mono (HM.out W) ?_
                  rintro e' w' ⟨rfl, hb⟩
                  exact ⟨_, rfl, rfl, hb⟩
                · injection ho with ho; subst ho
                  refine .inl ⟨wanted_free rfl, ?_⟩
                  have h87 : A.tmps[87]?.getD undef = .bool true := he 1 (by kernel_rfl)
                  go_simp
                  exact ⟨rfl, Below.refl _ _⟩
                · injection ho with ho; subst ho
                  refine .inl ⟨wanted_free rfl, ?_⟩
                  have h88 : A.tmps[88]?.getD undef = .bool false := he 2 (by kernel_rfl)
                  go_simp
                  exact ⟨rfl, Below.refl _ _⟩
                · injection ho with ho; subst ho
                  have hg : A.tmps[89]?.getD undef = .bool false := he 3 (by kernel_rfl)
                  refine .inl ⟨wanted_yes (d := 89) rfl (by kernel_rfl) hg, ?_⟩
                  have h9 : A.tmps[9]?.getD undef = .pointer (some ⟨g9, 0, none⟩) := hk 9 (by rfl)
                  go_simp
                  exact ⟨rfl, Below.refl _ _⟩
                · injection ho with ho; subst ho
                  have hg : A.tmps[89]?.getD undef = .bool false := he 3 (by kernel_rfl)
                  refine .inl ⟨wanted_yes (d := 89) rfl (by kernel_rfl) hg, ?_⟩
                  have h90 : A.tmps[90]?.getD undef = .pointer (some ⟨g9, 0, none⟩) := he 4 (by kernel_rfl)
                  exact y_load (cs := vwC (V 0)) rfl h90 (vs_range (V := V) (((HB.out.grown hW).get (g := g9) (t := 29) (cs := vsC (V)) (by simp))) (0) _ (by omega) rfl) Try.underlying26 rfl vewSize
                · injection ho with ho; subst ho
                  have hg : A.tmps[89]?.getD undef = .bool false := he 3 (by kernel_rfl)
                  refine .inl ⟨wanted_yes (d := 89) rfl (by kernel_rfl) hg, ?_⟩
                  have h3 : A.tmps[3]?.getD undef = .pointer (some ⟨w.heap.size, 0, none⟩) := hk 3 (by rfl)
                  go_simp
                  exact ⟨rfl, Below.refl _ _⟩
                · injection ho with ho; subst ho
                  have hg : A.tmps[89]?.getD undef = .bool false := he 3 (by kernel_rfl)
                  refine .inl ⟨wanted_yes (d := 89) rfl (by kernel_rfl) hg, ?_⟩
                  have h92 : A.tmps[92]?.getD undef = .pointer (some ⟨w.heap.size, 0, none⟩) := he 6 (by kernel_rfl)
                  exact y_load (cs := vwC (V 0)) rfl h92 (vs_range (V := V) (((HB.out.grown hW).get (g := w.heap.size) (t := 29) (cs := vsC (V)) (by simp))) (0) _ (by omega) rfl) Try.underlying26 rfl vewSize
                · injection ho with ho; subst ho
                  have hg : A.tmps[89]?.getD undef = .bool false := he 3 (by kernel_rfl)
                  refine .inl ⟨wanted_yes (d := 89) rfl (by kernel_rfl) hg, ?_⟩
                  have h91 : A.tmps[91]?.getD undef = .agg (vwC (V 0)) := he 5 (by kernel_rfl)
                  have h93 : A.tmps[93]?.getD undef = .agg (vwC (V 0)) := he 7 (by kernel_rfl)
                  go_simp
                  refine Calls.mono (within_v (V 0) (V 0) (HG.out.up 0 (by omega)) W) ?_
                  rintro e' w' ⟨rfl, hb⟩
                  exact ⟨_, rfl, rfl, hb⟩
                · injection ho with ho; subst ho
                  have hg : A.tmps[89]?.getD undef = .bool false := he 3 (by kernel_rfl)
                  refine .inl ⟨wanted_yes (d := 89) rfl (by kernel_rfl) hg, ?_⟩
                  have h94 : A.tmps[94]?.getD undef = .bool true := he 8 (by kernel_rfl)
                  go_simp
                  exact ⟨rfl, Below.refl _ _⟩
                · injection ho with ho; subst ho
                  refine .inl ⟨wanted_free rfl, ?_⟩
                  have h89 : A.tmps[89]?.getD undef = .bool false := he 3 (by kernel_rfl)
                  have h95 : A.tmps[95]?.getD undef = .bool false := he 9 (by kernel_rfl)
                  go_simp
                  exact ⟨rfl, Below.refl _ _⟩
                · injection ho with ho; subst ho
                  refine .inl ⟨wanted_free rfl, ?_⟩
                  have h96 : A.tmps[96]?.getD undef = .bool false := he 10 (by kernel_rfl)
                  go_simp
                  exact ⟨rfl, Below.refl _ _⟩
                · injection ho with ho; subst ho
                  have hg : A.tmps[97]?.getD undef = .bool false := he 11 (by kernel_rfl)
                  refine .inl ⟨wanted_yes (d := 97) rfl (by kernel_rfl) hg, ?_⟩
                  have h9 : A.tmps[9]?.getD undef = .pointer (some ⟨g9, 0, none⟩) := hk 9 (by rfl)
                  go_simp
                  exact ⟨rfl, Below.refl _ _⟩
                · injection ho with ho; subst ho
                  have hg : A.tmps[97]?.getD undef = .bool false := he 11 (by kernel_rfl)
                  refine .inl ⟨wanted_yes (d := 97) rfl (by kernel_rfl) hg, ?_⟩
                  have h98 : A.tmps[98]?.getD undef = .pointer (some ⟨g9, 8, none⟩) := he 12 (by kernel_rfl)
                  exact y_load (cs := vwC (V 1)) rfl h98 (vs_range (V := V) (((HB.out.grown hW).get (g := g9) (t := 29) (cs := vsC (V)) (by simp))) (1) _ (by omega) rfl) Try.underlying26 rfl vewSize
                · injection ho with ho; subst ho
                  have hg : A.tmps[97]?.getD undef = .bool false := he 11 (by kernel_rfl)
                  refine .inl ⟨wanted_yes (d := 97) rfl (by kernel_rfl) hg, ?_⟩
                  have h3 : A.tmps[3]?.getD undef = .pointer (some ⟨w.heap.size, 0, none⟩) := hk 3 (by rfl)
                  go_simp
                  exact ⟨rfl, Below.refl _ _⟩
                · injection ho with ho; subst ho
                  have hg : A.tmps[97]?.getD undef = .bool false := he 11 (by kernel_rfl)
                  refine .inl ⟨wanted_yes (d := 97) rfl (by kernel_rfl) hg, ?_⟩
                  have h100 : A.tmps[100]?.getD undef = .pointer (some ⟨w.heap.size, 8, none⟩) := he 14 (by kernel_rfl)
                  exact y_load (cs := vwC (V 1)) rfl h100 (vs_range (V := V) (((HB.out.grown hW).get (g := w.heap.size) (t := 29) (cs := vsC (V)) (by simp))) (1) _ (by omega) rfl) Try.underlying26 rfl vewSize
                · injection ho with ho; subst ho
                  have hg : A.tmps[97]?.getD undef = .bool false := he 11 (by kernel_rfl)
                  refine .inl ⟨wanted_yes (d := 97) rfl (by kernel_rfl) hg, ?_⟩
                  have h99 : A.tmps[99]?.getD undef = .agg (vwC (V 1)) := he 13 (by kernel_rfl)
                  have h101 : A.tmps[101]?.getD undef = .agg (vwC (V 1)) := he 15 (by kernel_rfl)
                  go_simp
                  refine Calls.mono (within_v (V 1) (V 1) (HG.out.up 1 (by omega)) W) ?_
                  rintro e' w' ⟨rfl, hb⟩
                  exact ⟨_, rfl, rfl, hb⟩
                · injection ho with ho; subst ho
                  have hg : A.tmps[97]?.getD undef = .bool false := he 11 (by kernel_rfl)
                  refine .inl ⟨wanted_yes (d := 97) rfl (by kernel_rfl) hg, ?_⟩
                  have h102 : A.tmps[102]?.getD undef = .bool true := he 16 (by kernel_rfl)
                  go_simp
                  exact ⟨rfl, Below.refl _ _⟩
                · injection ho with ho; subst ho
                  refine .inl ⟨wanted_free rfl, ?_⟩
                  have h97 : A.tmps[97]?.getD undef = .bool false := he 11 (by kernel_rfl)
                  have h103 : A.tmps[103]?.getD undef = .bool false := he 17 (by kernel_rfl)
                  go_simp
                  exact ⟨rfl, Below.refl _ _⟩
                · injection ho with ho; subst ho
                  refine .inl ⟨wanted_free rfl, ?_⟩
                  have h104 : A.tmps[104]?.getD undef = .bool false := he 18 (by kernel_rfl)
                  go_simp
                  exact ⟨rfl, Below.refl _ _⟩
                · injection ho with ho; subst ho
                  have hg : A.tmps[105]?.getD undef = .bool false := he 19 (by kernel_rfl)
                  refine .inl ⟨wanted_yes (d := 105) rfl (by kernel_rfl) hg, ?_⟩
                  have h12 : A.tmps[12]?.getD undef = .pointer (some ⟨g12, 0, none⟩) := hk 12 (by rfl)
                  exact y_load (cs := vwC (sent)) rfl h12 (sits_range (((HB.out.grown hW).get (g := g12) (t := 26) (cs := vwC (sent)) (by simp)))) Try.underlying26 rfl vewSize
                · injection ho with ho; subst ho
                  have hg : A.tmps[105]?.getD undef = .bool false := he 19 (by kernel_rfl)
                  refine .inl ⟨wanted_yes (d := 105) rfl (by kernel_rfl) hg, ?_⟩
                  have h106 : A.tmps[106]?.getD undef = .agg (vwC (sent)) := he 20 (by kernel_rfl)
                  go_simp
                  refine Calls.mono (HS2.out W) ?_
                  rintro e' w' ⟨rfl, hb⟩
                  exact ⟨_, rfl, rfl, hb⟩
                · injection ho with ho; subst ho
                  have hg : A.tmps[105]?.getD undef = .bool false := he 19 (by kernel_rfl)
                  refine .inl ⟨wanted_yes (d := 105) rfl (by kernel_rfl) hg, ?_⟩
                  have h107 : A.tmps[107]?.getD undef = .bool true := he 21 (by kernel_rfl)
                  go_simp
                  exact ⟨rfl, Below.refl _ _⟩
                · injection ho with ho; subst ho
                  refine .inl ⟨wanted_free rfl, ?_⟩
                  have h105 : A.tmps[105]?.getD undef = .bool false := he 19 (by kernel_rfl)
                  have h108 : A.tmps[108]?.getD undef = .bool false := he 22 (by kernel_rfl)
                  go_simp
                  exact ⟨rfl, Below.refl _ _⟩
                · injection ho with ho; subst ho
                  refine .inl ⟨wanted_free rfl, ?_⟩
                  have h109 : A.tmps[109]?.getD undef = .bool false := he 23 (by kernel_rfl)
                  go_simp
                  exact ⟨rfl, Below.refl _ _⟩
                · injection ho with ho; subst ho
                  have hg : A.tmps[110]?.getD undef = .bool false := he 24 (by kernel_rfl)
                  refine .inl ⟨wanted_yes (d := 110) rfl (by kernel_rfl) hg, ?_⟩
                  have h11 : A.tmps[11]?.getD undef = .bool false := hk 11 (by rfl)
                  go_simp
                  exact ⟨rfl, Below.refl _ _⟩
                · injection ho with ho; subst ho
                  have hg : A.tmps[110]?.getD undef = .bool false := he 24 (by kernel_rfl)
                  refine .inl ⟨wanted_yes (d := 110) rfl (by kernel_rfl) hg, ?_⟩
                  have h111 : A.tmps[111]?.getD undef = .bool false := he 25 (by kernel_rfl)
                  go_simp
                  exact ⟨rfl, Below.refl _ _⟩
                · injection ho with ho; subst ho
                  have hg : A.tmps[110]?.getD undef = .bool false := he 24 (by kernel_rfl)
                  refine .inl ⟨wanted_yes (d := 110) rfl (by kernel_rfl) hg, ?_⟩
                  have h112 : A.tmps[112]?.getD undef = .bool true := he 26 (by kernel_rfl)
                  go_simp
                  exact ⟨rfl, Below.refl _ _⟩
                · injection ho with ho; subst ho
                  have hg : A.tmps[113]?.getD undef = .bool true := he 27 (by kernel_rfl)
                  refine .inl ⟨wanted_yes (d := 113) rfl (by kernel_rfl) hg, ?_⟩
                  have h3 : A.tmps[3]?.getD undef = .pointer (some ⟨w.heap.size, 0, none⟩) := hk 3 (by rfl)
                  exact y_load (cs := vsC (V)) rfl h3 (sits_range (((HB.out.grown hW).get (g := w.heap.size) (t := 29) (cs := vsC (V)) (by simp)))) Try.underlying29 rfl vsSize
                · injection ho with ho; subst ho
                  have hg : A.tmps[113]?.getD undef = .bool true := he 27 (by kernel_rfl)
                  refine .inl ⟨wanted_yes (d := 113) rfl (by kernel_rfl) hg, ?_⟩
                  have h9 : A.tmps[9]?.getD undef = .pointer (some ⟨g9, 0, none⟩) := hk 9 (by rfl)
                  exact y_load (cs := vsC (V)) rfl h9 (sits_range (((HB.out.grown hW).get (g := g9) (t := 29) (cs := vsC (V)) (by simp)))) Try.underlying29 rfl vsSize
                · injection ho with ho; subst ho
                  have hg : A.tmps[113]?.getD undef = .bool true := he 27 (by kernel_rfl)
                  refine .inl ⟨wanted_yes (d := 113) rfl (by kernel_rfl) hg, ?_⟩
                  have h114 : A.tmps[114]?.getD undef = .agg (vsC (V)) := he 28 (by kernel_rfl)
                  have h115 : A.tmps[115]?.getD undef = .agg (vsC (V)) := he 29 (by kernel_rfl)
                  have hq := HQ1.out W
                  have hgd : ∀ x y, (eqGuard .neq 29 x y (Value.agg (vsC (V))) (Value.agg (vsC (V)))).run Try.prog W = .ok () W := fun x y => guard_vs .neq x y V V W
                  generalize Value.agg (vsC (V)) = X at h114 h115 hq hgd
                  go_simp
                  exact ⟨rfl, Below.refl _ _⟩
                · injection ho with ho; subst ho
                  have hg : A.tmps[113]?.getD undef = .bool true := he 27 (by kernel_rfl)
                  refine .inl ⟨wanted_yes (d := 113) rfl (by kernel_rfl) hg, ?_⟩
                  have h116 : A.tmps[116]?.getD undef = .bool false := he 30 (by kernel_rfl)
                  go_simp
                  exact ⟨rfl, Below.refl _ _⟩
                · injection ho with ho; subst ho
                  have hg : A.tmps[117]?.getD undef = .bool false := he 31 (by kernel_rfl)
                  refine .inl ⟨wanted_yes (d := 117) rfl (by kernel_rfl) hg, ?_⟩
                  have h4 : A.tmps[4]?.getD undef = .pointer (some ⟨w.heap.size + 1, 0, none⟩) := hk 4 (by rfl)
                  have c0 := (((HB.out.grown hW).get (g := w.heap.size + 1) (t := 24) (cs := arrC (S)) (by simp))).cell 0
                  have c1 := (((HB.out.grown hW).get (g := w.heap.size + 1) (t := 24) (cs := arrC (S)) (by simp))).cell 1
                  have c2 := (((HB.out.grown hW).get (g := w.heap.size + 1) (t := 24) (cs := arrC (S)) (by simp))).cell 2
                  have c3 := (((HB.out.grown hW).get (g := w.heap.size + 1) (t := 24) (cs := arrC (S)) (by simp))).cell 3
                  go_simp
                  exact ⟨rfl, Below.refl _ _⟩
                · injection ho with ho; subst ho
                  have hg : A.tmps[117]?.getD undef = .bool false := he 31 (by kernel_rfl)
                  refine .inl ⟨wanted_yes (d := 117) rfl (by kernel_rfl) hg, ?_⟩
                  have h10 : A.tmps[10]?.getD undef = .pointer (some ⟨g10, 0, none⟩) := hk 10 (by rfl)
                  have c0 := (((HB.out.grown hW).get (g := g10) (t := 24) (cs := arrC (S)) (by simp))).cell 0
                  have c1 := (((HB.out.grown hW).get (g := g10) (t := 24) (cs := arrC (S)) (by simp))).cell 1
                  have c2 := (((HB.out.grown hW).get (g := g10) (t := 24) (cs := arrC (S)) (by simp))).cell 2
                  have c3 := (((HB.out.grown hW).get (g := g10) (t := 24) (cs := arrC (S)) (by simp))).cell 3
                  go_simp
                  exact ⟨rfl, Below.refl _ _⟩
                · injection ho with ho; subst ho
                  have hg : A.tmps[117]?.getD undef = .bool false := he 31 (by kernel_rfl)
                  refine .inl ⟨wanted_yes (d := 117) rfl (by kernel_rfl) hg, ?_⟩
                  have h118 : A.tmps[118]?.getD undef = arr (S) := he 32 (by kernel_rfl)
                  have h119 : A.tmps[119]?.getD undef = arr (S) := he 33 (by kernel_rfl)
                  have hq := HQ2.out W
                  have hgd : ∀ x y, (eqGuard .neq 24 x y (arr (S)) (arr (S))).run Try.prog W = .ok () W := fun x y => guard_arr .neq x y S S W
                  generalize arr (S) = X at h118 h119 hq hgd
                  go_simp
                  exact ⟨rfl, Below.refl _ _⟩
                · injection ho with ho; subst ho
                  have hg : A.tmps[113]?.getD undef = .bool true := he 27 (by kernel_rfl)
                  refine .inl ⟨wanted_yes (d := 113) rfl (by kernel_rfl) hg, ?_⟩
                  have h117 : A.tmps[117]?.getD undef = .bool false := he 31 (by kernel_rfl)
                  have h120 : A.tmps[120]?.getD undef = .bool false := he 34 (by kernel_rfl)
                  go_simp
                  exact ⟨rfl, Below.refl _ _⟩
                · injection ho with ho; subst ho
                  have hg : A.tmps[110]?.getD undef = .bool false := he 24 (by kernel_rfl)
                  refine .inl ⟨wanted_yes (d := 110) rfl (by kernel_rfl) hg, ?_⟩
                  have h113 : A.tmps[113]?.getD undef = .bool true := he 27 (by kernel_rfl)
                  have h121 : A.tmps[121]?.getD undef = .bool false := he 35 (by kernel_rfl)
                  go_simp
                  exact ⟨rfl, Below.refl _ _⟩
                · injection ho with ho; subst ho
                  refine .inl ⟨wanted_free rfl, ?_⟩
                  have h110 : A.tmps[110]?.getD undef = .bool false := he 24 (by kernel_rfl)
                  have h122 : A.tmps[122]?.getD undef = .bool false := he 36 (by kernel_rfl)
                  go_simp
                  exact ⟨rfl, Below.refl _ _⟩
              · intro xs W hW hV
                have e123 : xs 37 = .bool false := hV 37 (by simp)
                simp only [List.length_cons, List.length_nil, Nat.zero_add, Nat.reduceAdd, List.drop_succ_cons, List.drop_zero, putL, Act.put, List.setIfInBounds_toArray, List.set_cons_zero, List.set_cons_succ, e123]
                clear hV e123
                have HE := Lib.hid (HB.out.grown hW)
                clear hW HB HM HS2 HQ1 HQ2
                go_wp2_with fail
                go_loopg [13] 4 (fun gg v13 wx => ∃ k, k ≤ 4 ∧ gg = 4 - k ∧ v13 = .int .i64 (k : Nat) ∧ Hid (Bs w [(g12, 26, vwC (sent)), (g9, 29, vsC (V)), (g10, 24, arrC (S)), (gx8, 26, vwC (m)), (g7, 35, taCells ⟨d, mo, lc, tt, m⟩), (w.heap.size + 1 + 1, 24, arrC (K)), (w.heap.size + 1, 24, arrC (S)), (w.heap.size, 29, vsC (V))] wx))
                case atStart => exact ⟨0, by omega, by omega, rfl, HE⟩
                case round =>
                  obtain ⟨k, hk, rfl, rfl, HI⟩ := hrel
                  by_cases hlt : k < 4
                  ·
                    have j1 : (k : Int) < 4 := by omega
                    have j0 : (0 : Int) ≤ (k : Int) := by omega
                    have HLk := Lib.hid hlt
                    have ks : ¬ S k < S k := by have := HG.out.times k hlt; omega
                    clear hk hlt
                    go_upto_region 28 with (fail)
                    refine wp_flowM [some 128, some 129, some 130, some 131, some 132, some 133, some 134, some 135, some 136, some 137, some 138, some 139, some 140, some 141, some 142, some 143, some 144, some 145, some 146] [] [0, 0, 0, 0, 0, 0, 0, 0, 0, 0, 0, 0, 0, 0, 0, 0, 0, 0, 0] [eqV (.int .i64 ((k : Nat))), eqV (.pointer (some ⟨g9, 16, none⟩)), eqV (.pointer (some ⟨g9, 16 + k * 8, none⟩)), eqV (.agg (vwC (V (k + 2)))), eqV (.int .i64 ((k : Nat))), eqV (.pointer (some ⟨w.heap.size, 16, none⟩)), eqV (.pointer (some ⟨w.heap.size, 16 + k * 8, none⟩)), eqV (.agg (vwC (V (k + 2)))), eqV (.bool true), eqV (.bool false), eqV (.bool false), eqV (.int .i64 ((k : Nat))), eqV (.pointer (some ⟨w.heap.size + 1, k, none⟩)), eqV (.int .i64 (S k)), eqV (.int .i64 ((k : Nat))), eqV (.pointer (some ⟨g10, k, none⟩)), eqV (.int .i64 (S k)), eqV (.bool false), eqV (.bool false)] (fun _ W => Bs w [(g12, 26, vwC (sent)), (g9, 29, vsC (V)), (g10, 24, arrC (S)), (gx8, 26, vwC (m)), (g7, 35, taCells ⟨d, mo, lc, tt, m⟩), (w.heap.size + 1 + 1, 24, arrC (K)), (w.heap.size + 1, 24, arrC (S)), (w.heap.size, 29, vsC (V))] W) (by kernel_rfl) (by kernel_rfl) (by kernel_rfl) (by rfl)
                      (by simp only [List.mem_cons, List.not_mem_nil, or_false, forall_eq_or_imp, forall_eq]; refine ⟨?_, ?_, ?_, ?_, ?_, ?_, ?_, ?_, ?_, ?_, ?_, ?_, ?_, ?_, ?_, ?_, ?_, ?_, ?_⟩ <;> (first | exact eqV_monoB _ _ | exact rowB_mono _ _ _ _ | exact true_monoB _))
                      (fun j W W' h hb => by exact (Bs.grown h hb)) (HI.out) ?_ ?_ ?_
                    · intro i o hi ho hc j A W hj hz hMj hk he
                      simp only [List.length_cons, List.length_nil, Nat.zero_add, Nat.reduceAdd] at hi
                      obtain rfl | rfl | rfl | rfl | rfl | rfl | rfl | rfl | rfl | rfl | rfl | rfl | rfl | rfl | rfl | rfl | rfl | rfl | rfl : i = 0 ∨ i = 1 ∨ i = 2 ∨ i = 3 ∨ i = 4 ∨ i = 5 ∨ i = 6 ∨ i = 7 ∨ i = 8 ∨ i = 9 ∨ i = 10 ∨ i = 11 ∨ i = 12 ∨ i = 13 ∨ i = 14 ∨ i = 15 ∨ i = 16 ∨ i = 17 ∨ i = 18 := by omega
                      · injection ho with ho; subst ho
                        refine .inl ⟨wanted_free rfl, ?_⟩
                        have h13 : A.tmps[13]?.getD undef = .int .i64 ((k : Nat)) := hk 13 (by rfl)
                        go_simp
                        exact ⟨rfl, Below.refl _ _⟩
                      · injection ho with ho; subst ho
                        refine .inl ⟨wanted_free rfl, ?_⟩
                        have h9 : A.tmps[9]?.getD undef = .pointer (some ⟨g9, 0, none⟩) := hk 9 (by rfl)
                        go_simp
                        exact ⟨rfl, Below.refl _ _⟩
                      · injection ho with ho; subst ho
                        refine .inl ⟨wanted_free rfl, ?_⟩
                        have h129 : A.tmps[129]?.getD undef = .pointer (some ⟨g9, 16, none⟩) := he 1 (by kernel_rfl) (by rfl)
                        have h128 : A.tmps[128]?.getD undef = .int .i64 ((k : Nat)) := he 0 (by kernel_rfl) (by rfl)
                        go_simp
                        exact ⟨rfl, Below.refl _ _⟩
                      · obtain rfl : j = 0 := Nat.le_zero.1 hj
                        have hMs : Bs w [(g12, 26, vwC (sent)), (g9, 29, vsC (V)), (g10, 24, arrC (S)), (gx8, 26, vwC (m)), (g7, 35, taCells ⟨d, mo, lc, tt, m⟩), (w.heap.size + 1 + 1, 24, arrC (K)), (w.heap.size + 1, 24, arrC (S)), (w.heap.size, 29, vsC (V))] W := hMj
                        injection ho with ho; subst ho
                        refine .inl ⟨wanted_free rfl, ?_⟩
                        have h130 : A.tmps[130]?.getD undef = .pointer (some ⟨g9, 16 + k * 8, none⟩) := he 2 (by kernel_rfl) (by rfl)
                        exact y_load (cs := vwC (V (k + 2))) rfl h130 (vs_range (V := V) ((hMs.get (g := g9) (t := 29) (cs := vsC (V)) (by simp))) ((k + 2)) _ (by have := HLk.out; omega) (by omega)) Try.underlying26 rfl vewSize
                      · injection ho with ho; subst ho
                        refine .inl ⟨wanted_free rfl, ?_⟩
                        have h13 : A.tmps[13]?.getD undef = .int .i64 ((k : Nat)) := hk 13 (by rfl)
                        go_simp
                        exact ⟨rfl, Below.refl _ _⟩
                      · injection ho with ho; subst ho
                        refine .inl ⟨wanted_free rfl, ?_⟩
                        have h3 : A.tmps[3]?.getD undef = .pointer (some ⟨w.heap.size, 0, none⟩) := hk 3 (by rfl)
                        go_simp
                        exact ⟨rfl, Below.refl _ _⟩
                      · injection ho with ho; subst ho
                        refine .inl ⟨wanted_free rfl, ?_⟩
                        have h133 : A.tmps[133]?.getD undef = .pointer (some ⟨w.heap.size, 16, none⟩) := he 5 (by kernel_rfl) (by rfl)
                        have h132 : A.tmps[132]?.getD undef = .int .i64 ((k : Nat)) := he 4 (by kernel_rfl) (by rfl)
                        go_simp
                        exact ⟨rfl, Below.refl _ _⟩
                      · obtain rfl : j = 0 := Nat.le_zero.1 hj
                        have hMs : Bs w [(g12, 26, vwC (sent)), (g9, 29, vsC (V)), (g10, 24, arrC (S)), (gx8, 26, vwC (m)), (g7, 35, taCells ⟨d, mo, lc, tt, m⟩), (w.heap.size + 1 + 1, 24, arrC (K)), (w.heap.size + 1, 24, arrC (S)), (w.heap.size, 29, vsC (V))] W := hMj
                        injection ho with ho; subst ho
                        refine .inl ⟨wanted_free rfl, ?_⟩
                        have h134 : A.tmps[134]?.getD undef = .pointer (some ⟨w.heap.size, 16 + k * 8, none⟩) := he 6 (by kernel_rfl) (by rfl)
                        exact y_load (cs := vwC (V (k + 2))) rfl h134 (vs_range (V := V) ((hMs.get (g := w.heap.size) (t := 29) (cs := vsC (V)) (by simp))) ((k + 2)) _ (by have := HLk.out; omega) (by omega)) Try.underlying26 rfl vewSize
                      · obtain rfl : j = 0 := Nat.le_zero.1 hj
                        have hMs : Bs w [(g12, 26, vwC (sent)), (g9, 29, vsC (V)), (g10, 24, arrC (S)), (gx8, 26, vwC (m)), (g7, 35, taCells ⟨d, mo, lc, tt, m⟩), (w.heap.size + 1 + 1, 24, arrC (K)), (w.heap.size + 1, 24, arrC (S)), (w.heap.size, 29, vsC (V))] W := hMj
                        injection ho with ho; subst ho
                        refine .inl ⟨wanted_free rfl, ?_⟩
                        have h131 : A.tmps[131]?.getD undef = .agg (vwC (V (k + 2))) := he 3 (by kernel_rfl) (by rfl)
                        have h135 : A.tmps[135]?.getD undef = .agg (vwC (V (k + 2))) := he 7 (by kernel_rfl) (by rfl)
                        go_simp
                        refine Calls.mono (within_v (V (k + 2)) (V (k + 2)) (HG.out.up (k + 2) (by have := HLk.out; omega)) W) ?_
                        rintro e' w' ⟨rfl, hb⟩
                        exact ⟨_, rfl, rfl, hb⟩
                      · injection ho with ho; subst ho
                        refine .inl ⟨wanted_free rfl, ?_⟩
                        have h136 : A.tmps[136]?.getD undef = .bool true := he 8 (by kernel_rfl) (by rfl)
                        go_simp
                        exact ⟨rfl, Below.refl _ _⟩
                      · injection ho with ho; subst ho
                        refine .inl ⟨wanted_free rfl, ?_⟩
                        have h137 : A.tmps[137]?.getD undef = .bool false := he 9 (by kernel_rfl) (by rfl)
                        go_simp
                        exact ⟨rfl, Below.refl _ _⟩
                      · injection ho with ho; subst ho
                        have hg : A.tmps[138]?.getD undef = .bool false := he 10 (by kernel_rfl) (by rfl)
                        refine .inl ⟨wanted_yes (d := 138) rfl (by kernel_rfl) hg, ?_⟩
                        have h13 : A.tmps[13]?.getD undef = .int .i64 ((k : Nat)) := hk 13 (by rfl)
                        go_simp
                        exact ⟨rfl, Below.refl _ _⟩
                      · injection ho with ho; subst ho
                        have hg : A.tmps[138]?.getD undef = .bool false := he 10 (by kernel_rfl) (by rfl)
                        refine .inl ⟨wanted_yes (d := 138) rfl (by kernel_rfl) hg, ?_⟩
                        have h4 : A.tmps[4]?.getD undef = .pointer (some ⟨w.heap.size + 1, 0, none⟩) := hk 4 (by rfl)
                        have h139 : A.tmps[139]?.getD undef = .int .i64 ((k : Nat)) := he 11 (by kernel_rfl) (by rfl)
                        go_simp
                        exact ⟨rfl, Below.refl _ _⟩
                      · obtain rfl : j = 0 := Nat.le_zero.1 hj
                        have hMs : Bs w [(g12, 26, vwC (sent)), (g9, 29, vsC (V)), (g10, 24, arrC (S)), (gx8, 26, vwC (m)), (g7, 35, taCells ⟨d, mo, lc, tt, m⟩), (w.heap.size + 1 + 1, 24, arrC (K)), (w.heap.size + 1, 24, arrC (S)), (w.heap.size, 29, vsC (V))] W := hMj
                        injection ho with ho; subst ho
                        have hg : A.tmps[138]?.getD undef = .bool false := he 10 (by kernel_rfl) (by rfl)
                        refine .inl ⟨wanted_yes (d := 138) rfl (by kernel_rfl) hg, ?_⟩
                        have h140 : A.tmps[140]?.getD undef = .pointer (some ⟨w.heap.size + 1, k, none⟩) := he 12 (by kernel_rfl) (by rfl)
                        have c0 := ((hMs.get (g := w.heap.size + 1) (t := 24) (cs := arrC (S)) (by simp)).cell k).trans (arrC_at S k HLk.out)
                        go_simp
                        exact ⟨rfl, Below.refl _ _⟩
                      · injection ho with ho; subst ho
                        have hg : A.tmps[138]?.getD undef = .bool false := he 10 (by kernel_rfl) (by rfl)
                        refine .inl ⟨wanted_yes (d := 138) rfl (by kernel_rfl) hg, ?_⟩
                        have h13 : A.tmps[13]?.getD undef = .int .i64 ((k : Nat)) := hk 13 (by rfl)
                        go_simp
                        exact ⟨rfl, Below.refl _ _⟩
                      · injection ho with ho; subst ho
                        have hg : A.tmps[138]?.getD undef = .bool false := he 10 (by kernel_rfl) (by rfl)
                        refine .inl ⟨wanted_yes (d := 138) rfl (by kernel_rfl) hg, ?_⟩
                        have h10 : A.tmps[10]?.getD undef = .pointer (some ⟨g10, 0, none⟩) := hk 10 (by rfl)
                        have h142 : A.tmps[142]?.getD undef = .int .i64 ((k : Nat)) := he 14 (by kernel_rfl) (by rfl)
                        go_simp
                        exact ⟨rfl, Below.refl _ _⟩
                      · obtain rfl : j = 0 := Nat.le_zero.1 hj
                        have hMs : Bs w [(g12, 26, vwC (sent)), (g9, 29, vsC (V)), (g10, 24, arrC (S)), (gx8, 26, vwC (m)), (g7, 35, taCells ⟨d, mo, lc, tt, m⟩), (w.heap.size + 1 + 1, 24, arrC (K)), (w.heap.size + 1, 24, arrC (S)), (w.heap.size, 29, vsC (V))] W := hMj
                        injection ho with ho; subst ho
                        have hg : A.tmps[138]?.getD undef = .bool false := he 10 (by kernel_rfl) (by rfl)
                        refine .inl ⟨wanted_yes (d := 138) rfl (by kernel_rfl) hg, ?_⟩
                        have h143 : A.tmps[143]?.getD undef = .pointer (some ⟨g10, k, none⟩) := he 15 (by kernel_rfl) (by rfl)
                        have c0 := ((hMs.get (g := g10) (t := 24) (cs := arrC (S)) (by simp)).cell k).trans (arrC_at S k HLk.out)
                        go_simp
                        exact ⟨rfl, Below.refl _ _⟩
                      · injection ho with ho; subst ho
                        have hg : A.tmps[138]?.getD undef = .bool false := he 10 (by kernel_rfl) (by rfl)
                        refine .inl ⟨wanted_yes (d := 138) rfl (by kernel_rfl) hg, ?_⟩
                        have h141 : A.tmps[141]?.getD undef = .int .i64 (S k) := he 13 (by kernel_rfl) (by rfl)
                        have h144 : A.tmps[144]?.getD undef = .int .i64 (S k) := he 16 (by kernel_rfl) (by rfl)
                        go_simp
                        exact ⟨rfl, Below.refl _ _⟩
                      · injection ho with ho; subst ho
                        refine .inl ⟨wanted_free rfl, ?_⟩
                        have h138 : A.tmps[138]?.getD undef = .bool false := he 10 (by kernel_rfl) (by rfl)
                        have h145 : A.tmps[145]?.getD undef = .bool false := he 17 (by kernel_rfl) (by rfl)
                        go_simp
                        exact ⟨rfl, Below.refl _ _⟩
                    · intro j i o hji ho A W hz hMj hk he
                      simp at hji
                    · intro xs W hz hMe hV
                      have hMe : Bs w [(g12, 26, vwC (sent)), (g9, 29, vsC (V)), (g10, 24, arrC (S)), (gx8, 26, vwC (m)), (g7, 35, taCells ⟨d, mo, lc, tt, m⟩), (w.heap.size + 1 + 1, 24, arrC (K)), (w.heap.size + 1, 24, arrC (S)), (w.heap.size, 29, vsC (V))] W := hMe
                      have e146 : xs 18 = .bool false := hV 18 (by simp) rfl
                      simp only [putM, Act.put, List.setIfInBounds_toArray, List.set_cons_zero, List.set_cons_succ, Nat.zero_add, Nat.reduceAdd, e146]
                      clear hV e146
                      generalize W = wk at hMe ⊢
                      have HI2 := Lib.hid hMe
                      clear hMe hz HI ks
                      go_wp2_with fail
                      go_roundg (4 - (k + 1))
                      case measure => have := HLk.out; omega
                      case rel => exact ⟨k + 1, by have := HLk.out; omega, rfl, by go_num, HI2⟩
                  ·
                    have j1k : ¬ (k : Int) < 4 := by omega
                    have HE := HI
                    clear hk hlt HI
                    go_upto_region 30 with (fail)
                    clear j1k
                    refine wp_flowQ [147, 148, 149, 150, 151, 152, 153, 154, 155, 156, 157, 158, 159, 160, 161, 162] [eqV (.bool false), eqV (.bool false), eqV undef, eqV undef, eqV undef, eqV undef, eqV undef, eqV undef, eqV undef, eqV undef, eqV undef, eqV undef, eqV undef, eqV undef, eqV undef, eqV (.bool false)] (by kernel_rfl) (by kernel_rfl) (by kernel_rfl) (by kernel_rfl) (by rfl)
                      (by simp only [List.mem_cons, List.not_mem_nil, or_false, forall_eq_or_imp, forall_eq]; refine ⟨?_, ?_, ?_, ?_, ?_, ?_, ?_, ?_, ?_, ?_, ?_, ?_, ?_, ?_, ?_, ?_⟩ <;> (first | exact eqV_mono _ | exact rowV_mono _ _ _)) ?_ ?_
                    · intro i o hi ho A W hW hk he
                      simp only [List.length_cons, List.length_nil, Nat.zero_add, Nat.reduceAdd] at hi
                      obtain rfl | rfl | rfl | rfl | rfl | rfl | rfl | rfl | rfl | rfl | rfl | rfl | rfl | rfl | rfl | rfl : i = 0 ∨ i = 1 ∨ i = 2 ∨ i = 3 ∨ i = 4 ∨ i = 5 ∨ i = 6 ∨ i = 7 ∨ i = 8 ∨ i = 9 ∨ i = 10 ∨ i = 11 ∨ i = 12 ∨ i = 13 ∨ i = 14 ∨ i = 15 := by omega
                      · injection ho with ho; subst ho
                        refine .inl ⟨wanted_free rfl, ?_⟩
                        have h11 : A.tmps[11]?.getD undef = .bool false := hk 11 (by rfl)
                        go_simp
                        exact ⟨rfl, Below.refl _ _⟩
                      · injection ho with ho; subst ho
                        refine .inl ⟨wanted_free rfl, ?_⟩
                        have h147 : A.tmps[147]?.getD undef = .bool false := he 0 (by kernel_rfl)
                        go_simp
                        exact ⟨rfl, Below.refl _ _⟩
                      · injection ho with ho; subst ho
                        have hg : A.tmps[148]?.getD undef = .bool false := he 1 (by kernel_rfl)
                        exact .inr ⟨wanted_no (d := 148) rfl (by kernel_rfl) hg, rfl⟩
                      · injection ho with ho; subst ho
                        have hg : A.tmps[148]?.getD undef = .bool false := he 1 (by kernel_rfl)
                        exact .inr ⟨wanted_no (d := 148) rfl (by kernel_rfl) hg, rfl⟩
                      · injection ho with ho; subst ho
                        have hg : A.tmps[148]?.getD undef = .bool false := he 1 (by kernel_rfl)
                        exact .inr ⟨wanted_no (d := 148) rfl (by kernel_rfl) hg, rfl⟩
                      · injection ho with ho; subst ho
                        have hg : A.tmps[148]?.getD undef = .bool false := he 1 (by kernel_rfl)
                        exact .inr ⟨wanted_no (d := 148) rfl (by kernel_rfl) hg, rfl⟩
                      · injection ho with ho; subst ho
                        have hg : A.tmps[152]?.getD undef = undef := he 5 (by kernel_rfl)
                        exact .inr ⟨wanted_dead (d := 152) rfl (by kernel_rfl) hg, rfl⟩
                      · injection ho with ho; subst ho
                        have hg : A.tmps[152]?.getD undef = undef := he 5 (by kernel_rfl)
                        exact .inr ⟨wanted_dead (d := 152) rfl (by kernel_rfl) hg, rfl⟩
                      · injection ho with ho; subst ho
                        have hg : A.tmps[152]?.getD undef = undef := he 5 (by kernel_rfl)
                        exact .inr ⟨wanted_dead (d := 152) rfl (by kernel_rfl) hg, rfl⟩
                      · injection ho with ho; subst ho
                        have hg : A.tmps[152]?.getD undef = undef := he 5 (by kernel_rfl)
                        exact .inr ⟨wanted_dead (d := 152) rfl (by kernel_rfl) hg, rfl⟩
                      · injection ho with ho; subst ho
                        have hg : A.tmps[156]?.getD undef = undef := he 9 (by kernel_rfl)
                        exact .inr ⟨wanted_dead (d := 156) rfl (by kernel_rfl) hg, rfl⟩
                      · injection ho with ho; subst ho
                        have hg : A.tmps[156]?.getD undef = undef := he 9 (by kernel_rfl)
                        exact .inr ⟨wanted_dead (d := 156) rfl (by kernel_rfl) hg, rfl⟩
                      · injection ho with ho; subst ho
                        have hg : A.tmps[156]?.getD undef = undef := he 9 (by kernel_rfl)
                        exact .inr ⟨wanted_dead (d := 156) rfl (by kernel_rfl) hg, rfl⟩
                      · injection ho with ho; subst ho
                        have hg : A.tmps[152]?.getD undef = undef := he 5 (by kernel_rfl)
                        exact .inr ⟨wanted_dead (d := 152) rfl (by kernel_rfl) hg, rfl⟩
                      · injection ho with ho; subst ho
                        have hg : A.tmps[148]?.getD undef = .bool false := he 1 (by kernel_rfl)
                        exact .inr ⟨wanted_no (d := 148) rfl (by kernel_rfl) hg, rfl⟩
                      · injection ho with ho; subst ho
                        refine .inl ⟨wanted_free rfl, ?_⟩
                        have h148 : A.tmps[148]?.getD undef = .bool false := he 1 (by kernel_rfl)
                        have h161 : A.tmps[161]?.getD undef = undef := he 14 (by kernel_rfl)
                        go_simp
                        exact ⟨rfl, Below.refl _ _⟩
                    · intro xs W hW hV
                      have e162 : xs 15 = .bool false := hV 15 (by simp)
                      simp only [List.length_cons, List.length_nil, Nat.zero_add, Nat.reduceAdd, List.drop_succ_cons, List.drop_zero, putL, Act.put, List.setIfInBounds_toArray, List.set_cons_zero, List.set_cons_succ, e162]
                      clear hV e162
                      have HE2 := Lib.hid (HE.out.grown hW)
                      clear hW HE
                      have HF := Lib.hid (HE2.out.mono (l' := [(w.heap.size + 1 + 1, 24, arrC (K)), (w.heap.size + 1, 24, arrC (S)), (w.heap.size, 29, vsC (V))]) (fun p hp => List.mem_append_right [(g12, 26, vwC (sent)), (g9, 29, vsC (V)), (g10, 24, arrC (S)), (gx8, 26, vwC (m)), (g7, 35, taCells ⟨d, mo, lc, tt, m⟩)] hp))
                      clear HE2
                      go_wp2_with fail
                      go_roundg (l.length - (i + 1))
                      case measure => have := HL.out; omega
                      case rel => exact ⟨i + 1, V, S, K, by have := HL.out; omega, rfl, by go_num, Lib.hid ⟨HF.out, HG.out.may, fun j hj => Int.le_trans (HN.out.2 j hj) (HG.out.up 0 (by omega) j (by omega))⟩⟩
            ·
              go_upto_region 23 with (fail)
              have HM : Hid (∀ W, Calls Try.prog 17 #[.agg (vsC (V1))] W (Made (.returned (.bool true)) W)) := Lib.hid (fun W => by have h := may6_any (V1) W; rwa [may6_of HG.out.may] at h)
              have HS2 : Hid (∀ W, Calls Try.prog 16 #[.agg (vwC (sent))] W (Made (.returned (.bool true)) W)) := Lib.hid (fun W => by have h := may_v (sent) W; rwa [HSM.out] at h)
              refine wp_flowQ [86, 87, 88, 89, 90, 91, 92, 93, 94, 95, 96, 97, 98, 99, 100, 101, 102, 103, 104, 105, 106, 107, 108, 109, 110, 111, 112, 113, 114, 115, 116, 117, 118, 119, 120, 121, 122, 123] [eqV (.agg (vsC (V1))), eqV (.bool true), eqV (.bool false), eqV (.bool false), eqV (.pointer (some ⟨g9, 0, none⟩)), eqV (.agg (vwC (V 0))), eqV (.pointer (some ⟨w.heap.size, 0, none⟩)), eqV (.agg (vwC (V1 0))), eqV (.bool true), eqV (.bool false), eqV (.bool false), eqV (.bool false), eqV (.pointer (some ⟨g9, 8, none⟩)), eqV (.agg (vwC (V 1))), eqV (.pointer (some ⟨w.heap.size, 8, none⟩)), eqV (.agg (vwC (V1 1))), eqV (.bool true), eqV (.bool false), eqV (.bool false), eqV (.bool false), eqV (.agg (vwC (sent))), eqV (.bool true), eqV (.bool false), eqV (.bool false), eqV (.bool false), eqV (.bool true), eqV (.bool false), eqV (.bool false), eqV undef, eqV undef, eqV undef, eqV undef, eqV undef, eqV undef, eqV undef, eqV undef, eqV (.bool false), eqV (.bool false)] (by kernel_rfl) (by kernel_rfl) (by kernel_rfl) (by kernel_rfl) (by rfl)
                (by simp only [List.mem_cons, List.not_mem_nil, or_false, forall_eq_or_imp, forall_eq]; refine ⟨?_, ?_, ?_, ?_, ?_, ?_, ?_, ?_, ?_, ?_, ?_, ?_, ?_, ?_, ?_, ?_, ?_, ?_, ?_, ?_, ?_, ?_, ?_, ?_, ?_, ?_, ?_, ?_, ?_, ?_, ?_, ?_, ?_, ?_, ?_, ?_, ?_, ?_⟩ <;> (first | exact eqV_mono _ | exact rowV_mono _ _ _)) ?_ ?_
              · intro i o hi ho A W hW hk he
                simp only [List.length_cons, List.length_nil, Nat.zero_add, Nat.reduceAdd] at hi
                obtain rfl | rfl | rfl | rfl | rfl | rfl | rfl | rfl | rfl | rfl | rfl | rfl | rfl | rfl | rfl | rfl | rfl | rfl | rfl | rfl | rfl | rfl | rfl | rfl | rfl | rfl | rfl | rfl | rfl | rfl | rfl | rfl | rfl | rfl | rfl | rfl | rfl | rfl : i = 0 ∨ i = 1 ∨ i = 2 ∨ i = 3 ∨ i = 4 ∨ i = 5 ∨ i = 6 ∨ i = 7 ∨ i = 8 ∨ i = 9 ∨ i = 10 ∨ i = 11 ∨ i = 12 ∨ i = 13 ∨ i = 14 ∨ i = 15 ∨ i = 16 ∨ i = 17 ∨ i = 18 ∨ i = 19 ∨ i = 20 ∨ i = 21 ∨ i = 22 ∨ i = 23 ∨ i = 24 ∨ i = 25 ∨ i = 26 ∨ i = 27 ∨ i = 28 ∨ i = 29 ∨ i = 30 ∨ i = 31 ∨ i = 32 ∨ i = 33 ∨ i = 34 ∨ i = 35 ∨ i = 36 ∨ i = 37 := by omega
                · injection ho with ho; subst ho
                  refine .inl ⟨wanted_free rfl, ?_⟩
                  have h3 : A.tmps[3]?.getD undef = .pointer (some ⟨w.heap.size, 0, none⟩) := hk 3 (by rfl)
                  exact y_load (cs := vsC (V1)) rfl h3 (sits_range (((HB.out.grown hW).get (g := w.heap.size) (t := 29) (cs := vsC (V1)) (by simp)))) Try.underlying29 rfl vsSize
                · injection ho with ho; subst ho
                  refine .inl ⟨wanted_free rfl, ?_⟩
                  have h86 : A.tmps[86]?.getD undef = .agg (vsC (V1)) := he 0 (by kernel_rfl)
                  go_simp
                  refine Calls.mono (HM.out W) ?_
                  rintro e' w' ⟨rfl, hb⟩
                  exact ⟨_, rfl, rfl, hb⟩
                · injection ho with ho; subst ho
                  refine .inl ⟨wanted_free rfl, ?_⟩
                  have h87 : A.tmps[87]?.getD undef = .bool true := he 1 (by kernel_rfl)
                  go_simp
                  exact ⟨rfl, Below.refl _ _⟩
                · injection ho with ho; subst ho
                  refine .inl ⟨wanted_free rfl, ?_⟩
                  have h88 : A.tmps[88]?.getD undef = .bool false := he 2 (by kernel_rfl)
                  go_simp
                  exact ⟨rfl, Below.refl _ _⟩
                · injection ho with ho; subst ho
                  have hg : A.tmps[89]?.getD undef = .bool false := he 3 (by kernel_rfl)
                  refine .inl ⟨wanted_yes (d := 89) rfl (by kernel_rfl) hg, ?_⟩
                  have h9 : A.tmps[9]?.getD undef = .pointer (some ⟨g9, 0, none⟩) := hk 9 (by rfl)
                  go_simp
                  exact ⟨rfl, Below.refl _ _⟩
                · injection ho with ho; subst ho
                  have hg : A.tmps[89]?.getD undef = .bool false := he 3 (by kernel_rfl)
                  refine .inl ⟨wanted_yes (d := 89) rfl (by kernel_rfl) hg, ?_⟩
                  have h90 : A.tmps[90]?.getD undef = .pointer (some ⟨g9, 0, none⟩) := he 4 (by kernel_rfl)
                  exact y_load (cs := vwC (V 0)) rfl h90 (vs_range (V := V) (((HB.out.grown hW).get (g := g9) (t := 29) (cs := vsC (V)) (by simp))) (0) _ (by omega) rfl) Try.underlying26 rfl vewSize
                · injection ho with ho; subst ho
                  have hg : A.tmps[89]?.getD undef = .bool false := he 3 (by kernel_rfl)
                  refine .inl ⟨wanted_yes (d := 89) rfl (by kernel_rfl) hg, ?_⟩
                  have h3 : A.tmps[3]?.getD undef = .pointer (some ⟨w.heap.size, 0, none⟩) := hk 3 (by rfl)
                  go_simp
                  exact ⟨rfl, Below.refl _ _⟩
                · injection ho with ho; subst ho
                  have hg : A.tmps[89]?.getD undef = .bool false := he 3 (by kernel_rfl)
                  refine .inl ⟨wanted_yes (d := 89) rfl (by kernel_rfl) hg, ?_⟩
                  have h92 : A.tmps[92]?.getD undef = .pointer (some ⟨w.heap.size, 0, none⟩) := he 6 (by kernel_rfl)
                  exact y_load (cs := vwC (V1 0)) rfl h92 (vs_range (V := V1) (((HB.out.grown hW).get (g := w.heap.size) (t := 29) (cs := vsC (V1)) (by simp))) (0) _ (by omega) rfl) Try.underlying26 rfl vewSize
                · injection ho with ho; subst ho
                  have hg : A.tmps[89]?.getD undef = .bool false := he 3 (by kernel_rfl)
                  refine .inl ⟨wanted_yes (d := 89) rfl (by kernel_rfl) hg, ?_⟩
                  have h91 : A.tmps[91]?.getD undef = .agg (vwC (V 0)) := he 5 (by kernel_rfl)
                  have h93 : A.tmps[93]?.getD undef = .agg (vwC (V1 0)) := he 7 (by kernel_rfl)
                  go_simp
                  refine Calls.mono (within_v (V 0) (V1 0) (HG.out.up 0 (by omega)) W) ?_
                  rintro e' w' ⟨rfl, hb⟩
                  exact ⟨_, rfl, rfl, hb⟩
                · injection ho with ho; subst ho
                  have hg : A.tmps[89]?.getD undef = .bool false := he 3 (by kernel_rfl)
                  refine .inl ⟨wanted_yes (d := 89) rfl (by kernel_rfl) hg, ?_⟩
                  have h94 : A.tmps[94]?.getD undef = .bool true := he 8 (by kernel_rfl)
                  go_simp
                  exact ⟨rfl, Below.refl _ _⟩
                · injection ho with ho; subst ho
                  refine .inl ⟨wanted_free rfl, ?_⟩
                  have h89 : A.tmps[89]?.getD undef = .bool false := he 3 (by kernel_rfl)
                  have h95 : A.tmps[95]?.getD undef = .bool false := he 9 (by kernel_rfl)
                  go_simp
                  exact ⟨rfl, Below.refl _ _⟩
                · injection ho with ho; subst ho
                  refine .inl ⟨wanted_free rfl, ?_⟩
                  have h96 : A.tmps[96]?.getD undef = .bool false := he 10 (by kernel_rfl)
                  go_simp
                  exact ⟨rfl, Below.refl _ _⟩
                · injection ho with ho; subst ho
                  have hg : A.tmps[97]?.getD undef = .bool false := he 11 (by kernel_rfl)
                  refine .inl ⟨wanted_yes (d := 97) rfl (by kernel_rfl) hg, ?_⟩
                  have h9 : A.tmps[9]?.getD undef = .pointer (some ⟨g9, 0, none⟩) := hk 9 (by rfl)
                  go_simp
                  exact ⟨rfl, Below.refl _ _⟩
                · injection ho with ho; subst ho
                  have hg : A.tmps[97]?.getD undef = .bool false := he 11 (by kernel_rfl)
                  refine .inl ⟨wanted_yes (d := 97) rfl (by kernel_rfl) hg, ?_⟩
                  have h98 : A.tmps[98]?.getD undef = .pointer (some ⟨g9, 8, none⟩) := he 12 (by kernel_rfl)
                  exact y_load (cs := vwC (V 1)) rfl h98 (vs_range (V := V) (((HB.out.grown hW).get (g := g9) (t := 29) (cs := vsC (V)) (by simp))) (1) _ (by omega) rfl) Try.underlying26 rfl vewSize
                · injection ho with ho; subst ho
                  have hg : A.tmps[97]?.getD undef = .bool false := he 11 (by kernel_rfl)
                  refine .inl ⟨wanted_yes (d := 97) rfl (by kernel_rfl) hg, ?_⟩
                  have h3 : A.tmps[3]?.getD undef = .pointer (some ⟨w.heap.size, 0, none⟩) := hk 3 (by rfl)
                  go_simp
                  exact ⟨rfl, Below.refl _ _⟩
                · injection ho with ho; subst ho
                  have hg : A.tmps[97]?.getD undef = .bool false := he 11 (by kernel_rfl)
                  refine .inl ⟨wanted_yes (d := 97) rfl (by kernel_rfl) hg, ?_⟩
                  have h100 : A.tmps[100]?.getD undef = .pointer (some ⟨w.heap.size, 8, none⟩) := he 14 (by kernel_rfl)
                  exact y_load (cs := vwC (V1 1)) rfl h100 (vs_range (V := V1) (((HB.out.grown hW).get (g := w.heap.size) (t := 29) (cs := vsC (V1)) (by simp))) (1) _ (by omega) rfl) Try.underlying26 rfl vewSize
                · injection ho with ho; subst ho
                  have hg : A.tmps[97]?.getD undef = .bool false := he 11 (by kernel_rfl)
                  refine .inl ⟨wanted_yes (d := 97) rfl (by kernel_rfl) hg, ?_⟩
                  have h99 : A.tmps[99]?.getD undef = .agg (vwC (V 1)) := he 13 (by kernel_rfl)
                  have h101 : A.tmps[101]?.getD undef = .agg (vwC (V1 1)) := he 15 (by kernel_rfl)
                  go_simp
                  refine Calls.mono (within_v (V 1) (V1 1) (HG.out.up 1 (by omega)) W) ?_
                  rintro e' w' ⟨rfl, hb⟩
                  exact ⟨_, rfl, rfl, hb⟩
                · injection ho with ho; subst ho
                  have hg : A.tmps[97]?.getD undef = .bool false := he 11 (by kernel_rfl)
                  refine .inl ⟨wanted_yes (d := 97) rfl (by kernel_rfl) hg, ?_⟩
                  have h102 : A.tmps[102]?.getD undef = .bool true := he 16 (by kernel_rfl)
                  go_simp
                  exact ⟨rfl, Below.refl _ _⟩
                · injection ho with ho; subst ho
                  refine .inl ⟨wanted_free rfl, ?_⟩
                  have h97 : A.tmps[97]?.getD undef = .bool false := he 11 (by kernel_rfl)
                  have h103 : A.tmps[103]?.getD undef = .bool false := he 17 (by kernel_rfl)
                  go_simp
                  exact ⟨rfl, Below.refl _ _⟩
                · injection ho with ho; subst ho
                  refine .inl ⟨wanted_free rfl, ?_⟩
                  have h104 : A.tmps[104]?.getD undef = .bool false := he 18 (by kernel_rfl)
                  go_simp
                  exact ⟨rfl, Below.refl _ _⟩
                · injection ho with ho; subst ho
                  have hg : A.tmps[105]?.getD undef = .bool false := he 19 (by kernel_rfl)
                  refine .inl ⟨wanted_yes (d := 105) rfl (by kernel_rfl) hg, ?_⟩
                  have h12 : A.tmps[12]?.getD undef = .pointer (some ⟨g12, 0, none⟩) := hk 12 (by rfl)
                  exact y_load (cs := vwC (sent)) rfl h12 (sits_range (((HB.out.grown hW).get (g := g12) (t := 26) (cs := vwC (sent)) (by simp)))) Try.underlying26 rfl vewSize
                · injection ho with ho; subst ho
                  have hg : A.tmps[105]?.getD undef = .bool false := he 19 (by kernel_rfl)
                  refine .inl ⟨wanted_yes (d := 105) rfl (by kernel_rfl) hg, ?_⟩
                  have h106 : A.tmps[106]?.getD undef = .agg (vwC (sent)) := he 20 (by kernel_rfl)
                  go_simp
                  refine Calls.mono (HS2.out W) ?_
                  rintro e' w' ⟨rfl, hb⟩
                  exact ⟨_, rfl, rfl, hb⟩
                · injection ho with ho; subst ho
                  have hg : A.tmps[105]?.getD undef = .bool false := he 19 (by kernel_rfl)
                  refine .inl ⟨wanted_yes (d := 105) rfl (by kernel_rfl) hg, ?_⟩
                  have h107 : A.tmps[107]?.getD undef = .bool true := he 21 (by kernel_rfl)
                  go_simp
                  exact ⟨rfl, Below.refl _ _⟩
                · injection ho with ho; subst ho
                  refine .inl ⟨wanted_free rfl, ?_⟩
                  have h105 : A.tmps[105]?.getD undef = .bool false := he 19 (by kernel_rfl)
                  have h108 : A.tmps[108]?.getD undef = .bool false := he 22 (by kernel_rfl)
                  go_simp
                  exact ⟨rfl, Below.refl _ _⟩
                · injection ho with ho; subst ho
                  refine .inl ⟨wanted_free rfl, ?_⟩
                  have h109 : A.tmps[109]?.getD undef = .bool false := he 23 (by kernel_rfl)
                  go_simp
                  exact ⟨rfl, Below.refl _ _⟩
                · injection ho with ho; subst ho
                  have hg : A.tmps[110]?.getD undef = .bool false := he 24 (by kernel_rfl)
                  refine .inl ⟨wanted_yes (d := 110) rfl (by kernel_rfl) hg, ?_⟩
                  have h11 : A.tmps[11]?.getD undef = .bool true := hk 11 (by rfl)
                  go_simp
                  exact ⟨rfl, Below.refl _ _⟩
                · injection ho with ho; subst ho
                  have hg : A.tmps[110]?.getD undef = .bool false := he 24 (by kernel_rfl)
                  refine .inl ⟨wanted_yes (d := 110) rfl (by kernel_rfl) hg, ?_⟩
                  have h111 : A.tmps[111]?.getD undef = .bool true := he 25 (by kernel_rfl)
                  go_simp
                  exact ⟨rfl, Below.refl _ _⟩
                · injection ho with ho; subst ho
                  have hg : A.tmps[110]?.getD undef = .bool false := he 24 (by kernel_rfl)
                  refine .inl ⟨wanted_yes (d := 110) rfl (by kernel_rfl) hg, ?_⟩
                  have h112 : A.tmps[112]?.getD undef = .bool false := he 26 (by kernel_rfl)
                  go_simp
                  exact ⟨rfl, Below.refl _ _⟩
                · injection ho with ho; subst ho
                  have hg : A.tmps[113]?.getD undef = .bool false := he 27 (by kernel_rfl)
                  exact .inr ⟨wanted_no (d := 113) rfl (by kernel_rfl) hg, rfl⟩
                · injection ho with ho; subst ho
                  have hg : A.tmps[113]?.getD undef = .bool false := he 27 (by kernel_rfl)
                  exact .inr ⟨wanted_no (d := 113) rfl (by kernel_rfl) hg, rfl⟩
                · injection ho with ho; subst ho
                  have hg : A.tmps[113]?.getD undef = .bool false := he 27 (by kernel_rfl)
                  exact .inr ⟨wanted_no (d := 113) rfl (by kernel_rfl) hg, rfl⟩
                · injection ho with ho; subst ho
                  have hg : A.tmps[113]?.getD undef = .bool false := he 27 (by kernel_rfl)
                  exact .inr ⟨wanted_no (d := 113) rfl (by kernel_rfl) hg, rfl⟩
                · injection ho with ho; subst ho
                  have hg : A.tmps[117]?.getD undef = undef := he 31 (by kernel_rfl)
                  exact .inr ⟨wanted_dead (d := 117) rfl (by kernel_rfl) hg, rfl⟩
                · injection ho with ho; subst ho
                  have hg : A.tmps[117]?.getD undef = undef := he 31 (by kernel_rfl)
                  exact .inr ⟨wanted_dead (d := 117) rfl (by kernel_rfl) hg, rfl⟩
                · injection ho with ho; subst ho
                  have hg : A.tmps[117]?.getD undef = undef := he 31 (by kernel_rfl)
                  exact .inr ⟨wanted_dead (d := 117) rfl (by kernel_rfl) hg, rfl⟩
                · injection ho with ho; subst ho
                  have hg : A.tmps[113]?.getD undef = .bool false := he 27 (by kernel_rfl)
                  exact .inr ⟨wanted_no (d := 113) rfl (by kernel_rfl) hg, rfl⟩
                · injection ho with ho; subst ho
                  have hg : A.tmps[110]?.getD undef = .bool false := he 24 (by kernel_rfl)
                  refine .inl ⟨wanted_yes (d := 110) rfl (by kernel_rfl) hg, ?_⟩
                  have h113 : A.tmps[113]?.getD undef = .bool false := he 27 (by kernel_rfl)
                  have h121 : A.tmps[121]?.getD undef = undef := he 35 (by kernel_rfl)
                  go_simp
                  exact ⟨rfl, Below.refl _ _⟩
                · injection ho with ho; subst ho
                  refine .inl ⟨wanted_free rfl, ?_⟩
                  have h110 : A.tmps[110]?.getD undef = .bool false := he 24 (by kernel_rfl)
                  have h122 : A.tmps[122]?.getD undef = .bool false := he 36 (by kernel_rfl)
                  go_simp
                  exact ⟨rfl, Below.refl _ _⟩
              · intro xs W hW hV
                have e123 : xs 37 = .bool false := hV 37 (by simp)
                simp only [List.length_cons, List.length_nil, Nat.zero_add, Nat.reduceAdd, List.drop_succ_cons, List.drop_zero, putL, Act.put, List.setIfInBounds_toArray, List.set_cons_zero, List.set_cons_succ, e123]
                clear hV e123
                have HE := Lib.hid (HB.out.grown hW)
                clear hW HB HM HS2
                go_wp2_with fail
                go_loopg [13] 4 (fun gg v13 wx => ∃ k, k ≤ 4 ∧ gg = 4 - k ∧ v13 = .int .i64 (k : Nat) ∧ Hid (Bs w [(g12, 26, vwC (sent)), (g9, 29, vsC (V)), (g10, 24, arrC (S)), (gx8, 26, vwC (m)), (g7, 35, taCells ⟨d, mo, lc, tt, m⟩), (w.heap.size + 1 + 1, 24, arrC (K)), (w.heap.size + 1, 24, arrC (S1)), (w.heap.size, 29, vsC (V1))] wx))
                case atStart => exact ⟨0, by omega, by omega, rfl, HE⟩
                case round =>
                  obtain ⟨k, hk, rfl, rfl, HI⟩ := hrel
                  by_cases hlt : k < 4
                  ·
                    have j1 : (k : Int) < 4 := by omega
                    have j0 : (0 : Int) ≤ (k : Int) := by omega
                    have HLk := Lib.hid hlt
                    have ks : ¬ S1 k < S k := by have := HG.out.times k hlt; omega
                    clear hk hlt
                    go_upto_region 28 with (fail)
                    refine wp_flowM [some 128, some 129, some 130, some 131, some 132, some 133, some 134, some 135, some 136, some 137, some 138, some 139, some 140, some 141, some 142, some 143, some 144, some 145, some 146] [] [0, 0, 0, 0, 0, 0, 0, 0, 0, 0, 0, 0, 0, 0, 0, 0, 0, 0, 0] [eqV (.int .i64 ((k : Nat))), eqV (.pointer (some ⟨g9, 16, none⟩)), eqV (.pointer (some ⟨g9, 16 + k * 8, none⟩)), eqV (.agg (vwC (V (k + 2)))), eqV (.int .i64 ((k : Nat))), eqV (.pointer (some ⟨w.heap.size, 16, none⟩)), eqV (.pointer (some ⟨w.heap.size, 16 + k * 8, none⟩)), eqV (.agg (vwC (V1 (k + 2)))), eqV (.bool true), eqV (.bool false), eqV (.bool false), eqV (.int .i64 ((k : Nat))), eqV (.pointer (some ⟨w.heap.size + 1, k, none⟩)), eqV (.int .i64 (S1 k)), eqV (.int .i64 ((k : Nat))), eqV (.pointer (some ⟨g10, k, none⟩)), eqV (.int .i64 (S k)), eqV (.bool false), eqV (.bool false)] (fun _ W => Bs w [(g12, 26, vwC (sent)), (g9, 29, vsC (V)), (g10, 24, arrC (S)), (gx8, 26, vwC (m)), (g7, 35, taCells ⟨d, mo, lc, tt, m⟩), (w.heap.size + 1 + 1, 24, arrC (K)), (w.heap.size + 1, 24, arrC (S1)), (w.heap.size, 29, vsC (V1))] W) (by kernel_rfl) (by kernel_rfl) (by kernel_rfl) (by rfl)
                      (by simp only [List.mem_cons, List.not_mem_nil, or_false, forall_eq_or_imp, forall_eq]; refine ⟨?_, ?_, ?_, ?_, ?_, ?_, ?_, ?_, ?_, ?_, ?_, ?_, ?_, ?_, ?_, ?_, ?_, ?_, ?_⟩ <;> (first | exact eqV_monoB _ _ | exact rowB_mono _ _ _ _ | exact true_monoB _))
                      (fun j W W' h hb => by exact (Bs.grown h hb)) (HI.out) ?_ ?_ ?_
                    · intro i o hi ho hc j A W hj hz hMj hk he
                      simp only [List.length_cons, List.length_nil, Nat.zero_add, Nat.reduceAdd] at hi
                      obtain rfl | rfl | rfl | rfl | rfl | rfl | rfl | rfl | rfl | rfl | rfl | rfl | rfl | rfl | rfl | rfl | rfl | rfl | rfl : i = 0 ∨ i = 1 ∨ i = 2 ∨ i = 3 ∨ i = 4 ∨ i = 5 ∨ i = 6 ∨ i = 7 ∨ i = 8 ∨ i = 9 ∨ i = 10 ∨ i = 11 ∨ i = 12 ∨ i = 13 ∨ i = 14 ∨ i = 15 ∨ i = 16 ∨ i = 17 ∨ i = 18 := by omega
                      · injection ho with ho; subst ho
                        refine .inl ⟨wanted_free rfl, ?_⟩
                        have h13 : A.tmps[13]?.getD undef = .int .i64 ((k : Nat)) := hk 13 (by rfl)
                        go_simp
                        exact ⟨rfl, Below.refl _ _⟩
                      · injection ho with ho; subst ho
                        refine .inl ⟨wanted_free rfl, ?_⟩
                        have h9 : A.tmps[9]?.getD undef = .pointer (some ⟨g9, 0, none⟩) := hk 9 (by rfl)
                        go_simp
                        exact ⟨rfl, Below.refl _ _⟩
                      · injection ho with ho; subst ho
                        refine .inl ⟨wanted_free rfl, ?_⟩
                        have h129 : A.tmps[129]?.getD undef = .pointer (some ⟨g9, 16, none⟩) := he 1 (by kernel_rfl) (by rfl)
                        have h128 : A.tmps[128]?.getD undef = .int .i64 ((k : Nat)) := he 0 (by kernel_rfl) (by rfl)
                        go_simp
                        exact ⟨rfl, Below.refl _ _⟩
                      · obtain rfl : j = 0 := Nat.le_zero.1 hj
                        have hMs : Bs w [(g12, 26, vwC (sent)), (g9, 29, vsC (V)), (g10, 24, arrC (S)), (gx8, 26, vwC (m)), (g7, 35, taCells ⟨d, mo, lc, tt, m⟩), (w.heap.size + 1 + 1, 24, arrC (K)), (w.heap.size + 1, 24, arrC (S1)), (w.heap.size, 29, vsC (V1))] W := hMj
                        injection ho with ho; subst ho
                        refine .inl ⟨wanted_free rfl, ?_⟩
                        have h130 : A.tmps[130]?.getD undef = .pointer (some ⟨g9, 16 + k * 8, none⟩) := he 2 (by kernel_rfl) (by rfl)
                        exact y_load (cs := vwC (V (k + 2))) rfl h130 (vs_range (V := V) ((hMs.get (g := g9) (t := 29) (cs := vsC (V)) (by simp))) ((k + 2)) _ (by have := HLk.out; omega) (by omega)) Try.underlying26 rfl vewSize
                      · injection ho with ho; subst ho
                        refine .inl ⟨wanted_free rfl, ?_⟩
                        have h13 : A.tmps[13]?.getD undef = .int .i64 ((k : Nat)) := hk 13 (by rfl)
                        go_simp
                        exact ⟨rfl, Below.refl _ _⟩
                      · injection ho with ho; subst ho
                        refine .inl ⟨wanted_free rfl, ?_⟩
                        have h3 : A.tmps[3]?.getD undef = .pointer (some ⟨w.heap.size, 0, none⟩) := hk 3 (by rfl)
                        go_simp
                        exact ⟨rfl, Below.refl _ _⟩
                      · injection ho with ho; subst ho
                        refine .inl ⟨wanted_free rfl, ?_⟩
                        have h133 : A.tmps[133]?.getD undef = .pointer (some ⟨w.heap.size, 16, none⟩) := he 5 (by kernel_rfl) (by rfl)
                        have h132 : A.tmps[132]?.getD undef = .int .i64 ((k : Nat)) := he 4 (by kernel_rfl) (by rfl)
                        go_simp
                        exact ⟨rfl, Below.refl _ _⟩
                      · obtain rfl : j = 0 := Nat.le_zero.1 hj
                        have hMs : Bs w [(g12, 26, vwC (sent)), (g9, 29, vsC (V)), (g10, 24, arrC (S)), (gx8, 26, vwC (m)), (g7, 35, taCells ⟨d, mo, lc, tt, m⟩), (w.heap.size + 1 + 1, 24, arrC (K)), (w.heap.size + 1, 24, arrC (S1)), (w.heap.size, 29, vsC (V1))] W := hMj
                        injection ho with ho; subst ho
                        refine .inl ⟨wanted_free rfl, ?_⟩
                        have h134 : A.tmps[134]?.getD undef = .pointer (some ⟨w.heap.size, 16 + k * 8, none⟩) := he 6 (by kernel_rfl) (by rfl)
                        exact y_load (cs := vwC (V1 (k + 2))) rfl h134 (vs_range (V := V1) ((hMs.get (g := w.heap.size) (t := 29) (cs := vsC (V1)) (by simp))) ((k + 2)) _ (by have := HLk.out; omega) (by omega)) Try.underlying26 rfl vewSize
                      · obtain rfl : j = 0 := Nat.le_zero.1 hj
                        have hMs : Bs w [(g12, 26, vwC (sent)), (g9, 29, vsC (V)), (g10, 24, arrC (S)), (gx8, 26, vwC (m)), (g7, 35, taCells ⟨d, mo, lc, tt, m⟩), (w.heap.size + 1 + 1, 24, arrC (K)), (w.heap.size + 1, 24, arrC (S1)), (w.heap.size, 29, vsC (V1))] W := hMj
                        injection ho with ho; subst ho
                        refine .inl ⟨wanted_free rfl, ?_⟩
                        have h131 : A.tmps[131]?.getD undef = .agg (vwC (V (k + 2))) := he 3 (by kernel_rfl) (by rfl)
                        have h135 : A.tmps[135]?.getD undef = .agg (vwC (V1 (k + 2))) := he 7 (by kernel_rfl) (by rfl)
                        go_simp
                        refine Calls.mono (within_v (V (k + 2)) (V1 (k + 2)) (HG.out.up (k + 2) (by have := HLk.out; omega)) W) ?_
                        rintro e' w' ⟨rfl, hb⟩
                        exact ⟨_, rfl, rfl, hb⟩
                      · injection ho with ho; subst ho
                        refine .inl ⟨wanted_free rfl, ?_⟩
                        have h136 : A.tmps[136]?.getD undef = .bool true := he 8 (by kernel_rfl) (by rfl)
                        go_simp
                        exact ⟨rfl, Below.refl _ _⟩
                      · injection ho with ho; subst ho
                        refine .inl ⟨wanted_free rfl, ?_⟩
                        have h137 : A.tmps[137]?.getD undef = .bool false := he 9 (by kernel_rfl) (by rfl)
                        go_simp
                        exact ⟨rfl, Below.refl _ _⟩
                      · injection ho with ho; subst ho
                        have hg : A.tmps[138]?.getD undef = .bool false := he 10 (by kernel_rfl) (by rfl)
                        refine .inl ⟨wanted_yes (d := 138) rfl (by kernel_rfl) hg, ?_⟩
                        have h13 : A.tmps[13]?.getD undef = .int .i64 ((k : Nat)) := hk 13 (by rfl)
                        go_simp
                        exact ⟨rfl, Below.refl _ _⟩
                      · injection ho with ho; subst ho
                        have hg : A.tmps[138]?.getD undef = .bool false := he 10 (by kernel_rfl) (by rfl)
                        refine .inl ⟨wanted_yes (d := 138) rfl (by kernel_rfl) hg, ?_⟩
                        have h4 : A.tmps[4]?.getD undef = .pointer (some ⟨w.heap.size + 1, 0, none⟩) := hk 4 (by rfl)
                        have h139 : A.tmps[139]?.getD undef = .int .i64 ((k : Nat)) := he 11 (by kernel_rfl) (by rfl)
                        go_simp
                        exact ⟨rfl, Below.refl _ _⟩
                      · obtain rfl : j = 0 := Nat.le_zero.1 hj
                        have hMs : Bs w [(g12, 26, vwC (sent)), (g9, 29, vsC (V)), (g10, 24, arrC (S)), (gx8, 26, vwC (m)), (g7, 35, taCells ⟨d, mo, lc, tt, m⟩), (w.heap.size + 1 + 1, 24, arrC (K)), (w.heap.size + 1, 24, arrC (S1)), (w.heap.size, 29, vsC (V1))] W := hMj
                        injection ho with ho; subst ho
                        have hg : A.tmps[138]?.getD undef = .bool false := he 10 (by kernel_rfl) (by rfl)
                        refine .inl ⟨wanted_yes (d := 138) rfl (by kernel_rfl) hg, ?_⟩
                        have h140 : A.tmps[140]?.getD undef = .pointer (some ⟨w.heap.size + 1, k, none⟩) := he 12 (by kernel_rfl) (by rfl)
                        have c0 := ((hMs.get (g := w.heap.size + 1) (t := 24) (cs := arrC (S1)) (by simp)).cell k).trans (arrC_at S1 k HLk.out)
                        go_simp
                        exact ⟨rfl, Below.refl _ _⟩
                      · injection ho with ho; subst ho
                        have hg : A.tmps[138]?.getD undef = .bool false := he 10 (by kernel_rfl) (by rfl)
                        refine .inl ⟨wanted_yes (d := 138) rfl (by kernel_rfl) hg, ?_⟩
                        have h13 : A.tmps[13]?.getD undef = .int .i64 ((k : Nat)) := hk 13 (by rfl)
                        go_simp
                        exact ⟨rfl, Below.refl _ _⟩
                      · injection ho with ho; subst ho
                        have hg : A.tmps[138]?.getD undef = .bool false := he 10 (by kernel_rfl) (by rfl)
                        refine .inl ⟨wanted_yes (d := 138) rfl (by kernel_rfl) hg, ?_⟩
                        have h10 : A.tmps[10]?.getD undef = .pointer (some ⟨g10, 0, none⟩) := hk 10 (by rfl)
                        have h142 : A.tmps[142]?.getD undef = .int .i64 ((k : Nat)) := he 14 (by kernel_rfl) (by rfl)
                        go_simp
                        exact ⟨rfl, Below.refl _ _⟩
                      · obtain rfl : j = 0 := Nat.le_zero.1 hj
                        have hMs : Bs w [(g12, 26, vwC (sent)), (g9, 29, vsC (V)), (g10, 24, arrC (S)), (gx8, 26, vwC (m)), (g7, 35, taCells ⟨d, mo, lc, tt, m⟩), (w.heap.size + 1 + 1, 24, arrC (K)), (w.heap.size + 1, 24, arrC (S1)), (w.heap.size, 29, vsC (V1))] W := hMj
                        injection ho with ho; subst ho
                        have hg : A.tmps[138]?.getD undef = .bool false := he 10 (by kernel_rfl) (by rfl)
                        refine .inl ⟨wanted_yes (d := 138) rfl (by kernel_rfl) hg, ?_⟩
                        have h143 : A.tmps[143]?.getD undef = .pointer (some ⟨g10, k, none⟩) := he 15 (by kernel_rfl) (by rfl)
                        have c0 := ((hMs.get (g := g10) (t := 24) (cs := arrC (S)) (by simp)).cell k).trans (arrC_at S k HLk.out)
                        go_simp
                        exact ⟨rfl, Below.refl _ _⟩
                      · injection ho with ho; subst ho
                        have hg : A.tmps[138]?.getD undef = .bool false := he 10 (by kernel_rfl) (by rfl)
                        refine .inl ⟨wanted_yes (d := 138) rfl (by kernel_rfl) hg, ?_⟩
                        have h141 : A.tmps[141]?.getD undef = .int .i64 (S1 k) := he 13 (by kernel_rfl) (by rfl)
                        have h144 : A.tmps[144]?.getD undef = .int .i64 (S k) := he 16 (by kernel_rfl) (by rfl)
                        go_simp
                        exact ⟨rfl, Below.refl _ _⟩
                      · injection ho with ho; subst ho
                        refine .inl ⟨wanted_free rfl, ?_⟩
                        have h138 : A.tmps[138]?.getD undef = .bool false := he 10 (by kernel_rfl) (by rfl)
                        have h145 : A.tmps[145]?.getD undef = .bool false := he 17 (by kernel_rfl) (by rfl)
                        go_simp
                        exact ⟨rfl, Below.refl _ _⟩
                    · intro j i o hji ho A W hz hMj hk he
                      simp at hji
                    · intro xs W hz hMe hV
                      have hMe : Bs w [(g12, 26, vwC (sent)), (g9, 29, vsC (V)), (g10, 24, arrC (S)), (gx8, 26, vwC (m)), (g7, 35, taCells ⟨d, mo, lc, tt, m⟩), (w.heap.size + 1 + 1, 24, arrC (K)), (w.heap.size + 1, 24, arrC (S1)), (w.heap.size, 29, vsC (V1))] W := hMe
                      have e146 : xs 18 = .bool false := hV 18 (by simp) rfl
                      simp only [putM, Act.put, List.setIfInBounds_toArray, List.set_cons_zero, List.set_cons_succ, Nat.zero_add, Nat.reduceAdd, e146]
                      clear hV e146
                      generalize W = wk at hMe ⊢
                      have HI2 := Lib.hid hMe
                      clear hMe hz HI ks
                      go_wp2_with fail
                      go_roundg (4 - (k + 1))
                      case measure => have := HLk.out; omega
                      case rel => exact ⟨k + 1, by have := HLk.out; omega, rfl, by go_num, HI2⟩
                  ·
                    have j1k : ¬ (k : Int) < 4 := by omega
                    have HE := HI
                    clear hk hlt HI
                    go_upto_region 30 with (fail)
                    clear j1k
                    by_cases hd1 : d = 1
                    ·
                      have e1 : ((d : Int) == 1) = true := by simpa using hd1
                      have HCD : Hid (d = 1 ∨ (1 < d ∧ mo ≠ 1)) := Lib.hid (.inl hd1)
                      clear hd1
                      refine wp_flowQ [147, 148, 149, 150, 151, 152, 153, 154, 155, 156, 157, 158, 159, 160, 161, 162] [eqV (.bool true), eqV (.bool true), eqV (.pointer (some ⟨g7, 0, none⟩)), eqV (.int .u8 d), eqV (.bool true), eqV (.bool true), eqV undef, eqV undef, eqV undef, eqV undef, eqV undef, eqV undef, eqV undef, eqV undef, eqV (.bool true), eqV (.bool true)] (by kernel_rfl) (by kernel_rfl) (by kernel_rfl) (by kernel_rfl) (by rfl)
                        (by simp only [List.mem_cons, List.not_mem_nil, or_false, forall_eq_or_imp, forall_eq]; refine ⟨?_, ?_, ?_, ?_, ?_, ?_, ?_, ?_, ?_, ?_, ?_, ?_, ?_, ?_, ?_, ?_⟩ <;> (first | exact eqV_mono _ | exact rowV_mono _ _ _)) ?_ ?_
                      · intro i o hi ho A W hW hk he
                        simp only [List.length_cons, List.length_nil, Nat.zero_add, Nat.reduceAdd] at hi
                        obtain rfl | rfl | rfl | rfl | rfl | rfl | rfl | rfl | rfl | rfl | rfl | rfl | rfl | rfl | rfl | rfl : i = 0 ∨ i = 1 ∨ i = 2 ∨ i = 3 ∨ i = 4 ∨ i = 5 ∨ i = 6 ∨ i = 7 ∨ i = 8 ∨ i = 9 ∨ i = 10 ∨ i = 11 ∨ i = 12 ∨ i = 13 ∨ i = 14 ∨ i = 15 := by omega
                        · injection ho with ho; subst ho
                          refine .inl ⟨wanted_free rfl, ?_⟩
                          have h11 : A.tmps[11]?.getD undef = .bool true := hk 11 (by rfl)
                          go_simp
                          exact ⟨rfl, Below.refl _ _⟩
                        · injection ho with ho; subst ho
                          refine .inl ⟨wanted_free rfl, ?_⟩
                          have h147 : A.tmps[147]?.getD undef = .bool true := he 0 (by kernel_rfl)
                          go_simp
                          exact ⟨rfl, Below.refl _ _⟩
                        · injection ho with ho; subst ho
                          have hg : A.tmps[148]?.getD undef = .bool true := he 1 (by kernel_rfl)
                          refine .inl ⟨wanted_yes (d := 148) rfl (by kernel_rfl) hg, ?_⟩
                          have h7 : A.tmps[7]?.getD undef = .pointer (some ⟨g7, 0, none⟩) := hk 7 (by rfl)
                          go_simp
                          exact ⟨rfl, Below.refl _ _⟩
                        · injection ho with ho; subst ho
                          have hg : A.tmps[148]?.getD undef = .bool true := he 1 (by kernel_rfl)
                          refine .inl ⟨wanted_yes (d := 148) rfl (by kernel_rfl) hg, ?_⟩
                          have h149 : A.tmps[149]?.getD undef = .pointer (some ⟨g7, 0, none⟩) := he 2 (by kernel_rfl)
                          have c0 := ((HE.out.grown hW).get (g := g7) (t := 35) (cs := taCells ⟨d, mo, lc, tt, m⟩) (by simp)).cell 0
                          go_simp
                          exact ⟨rfl, Below.refl _ _⟩
                        · injection ho with ho; subst ho
                          have hg : A.tmps[148]?.getD undef = .bool true := he 1 (by kernel_rfl)
                          refine .inl ⟨wanted_yes (d := 148) rfl (by kernel_rfl) hg, ?_⟩
                          have h150 : A.tmps[150]?.getD undef = .int .u8 d := he 3 (by kernel_rfl)
                          go_simp
                          exact ⟨rfl, Below.refl _ _⟩
                        · injection ho with ho; subst ho
                          have hg : A.tmps[148]?.getD undef = .bool true := he 1 (by kernel_rfl)
                          refine .inl ⟨wanted_yes (d := 148) rfl (by kernel_rfl) hg, ?_⟩
                          have h151 : A.tmps[151]?.getD undef = .bool true := he 4 (by kernel_rfl)
                          go_simp
                          exact ⟨rfl, Below.refl _ _⟩
                        · injection ho with ho; subst ho
                          have hg : A.tmps[152]?.getD undef = .bool true := he 5 (by kernel_rfl)
                          exact .inr ⟨wanted_no (d := 152) rfl (by kernel_rfl) hg, rfl⟩
                        · injection ho with ho; subst ho
                          have hg : A.tmps[152]?.getD undef = .bool true := he 5 (by kernel_rfl)
                          exact .inr ⟨wanted_no (d := 152) rfl (by kernel_rfl) hg, rfl⟩
                        · injection ho with ho; subst ho
                          have hg : A.tmps[152]?.getD undef = .bool true := he 5 (by kernel_rfl)
                          exact .inr ⟨wanted_no (d := 152) rfl (by kernel_rfl) hg, rfl⟩
                        · injection ho with ho; subst ho
                          have hg : A.tmps[152]?.getD undef = .bool true := he 5 (by kernel_rfl)
                          exact .inr ⟨wanted_no (d := 152) rfl (by kernel_rfl) hg, rfl⟩
                        · injection ho with ho; subst ho
                          have hg : A.tmps[156]?.getD undef = undef := he 9 (by kernel_rfl)
                          exact .inr ⟨wanted_dead (d := 156) rfl (by kernel_rfl) hg, rfl⟩
                        · injection ho with ho; subst ho
                          have hg : A.tmps[156]?.getD undef = undef := he 9 (by kernel_rfl)
                          exact .inr ⟨wanted_dead (d := 156) rfl (by kernel_rfl) hg, rfl⟩
                        · injection ho with ho; subst ho
                          have hg : A.tmps[156]?.getD undef = undef := he 9 (by kernel_rfl)
                          exact .inr ⟨wanted_dead (d := 156) rfl (by kernel_rfl) hg, rfl⟩
                        · injection ho with ho; subst ho
                          have hg : A.tmps[152]?.getD undef = .bool true := he 5 (by kernel_rfl)
                          exact .inr ⟨wanted_no (d := 152) rfl (by kernel_rfl) hg, rfl⟩
                        · injection ho with ho; subst ho
                          have hg : A.tmps[148]?.getD undef = .bool true := he 1 (by kernel_rfl)
                          refine .inl ⟨wanted_yes (d := 148) rfl (by kernel_rfl) hg, ?_⟩
                          have h152 : A.tmps[152]?.getD undef = .bool true := he 5 (by kernel_rfl)
                          have h160 : A.tmps[160]?.getD undef = undef := he 13 (by kernel_rfl)
                          go_simp
                          exact ⟨rfl, Below.refl _ _⟩
                        · injection ho with ho; subst ho
                          refine .inl ⟨wanted_free rfl, ?_⟩
                          have h148 : A.tmps[148]?.getD undef = .bool true := he 1 (by kernel_rfl)
                          have h161 : A.tmps[161]?.getD undef = .bool true := he 14 (by kernel_rfl)
                          go_simp
                          exact ⟨rfl, Below.refl _ _⟩
                      · intro xs W hW hV
                        have e162 : xs 15 = .bool true := hV 15 (by simp)
                        simp only [List.length_cons, List.length_nil, Nat.zero_add, Nat.reduceAdd, List.drop_succ_cons, List.drop_zero, putL, Act.put, List.setIfInBounds_toArray, List.set_cons_zero, List.set_cons_succ, e162]
                        clear hV e162
                        have HE2 := Lib.hid (HE.out.grown hW)
                        clear hW HE
                        clear e1
                        obtain ⟨q, hq, h4, hqt⟩ : ∃ q : Nat, lc = (q : Int) ∧ q < 4 ∧ tt ≤ V1 0 q := by first | exact HKN0.out rfl HCD.out | exact HKN0.out trivial HCD.out | exact HKN0.out HCD.out
                        subst hq
                        have i0 : (0 : Int) ≤ (q : Int) := by omega
                        have i4 : (q : Int) < 4 := by omega
                        have HQ := Lib.hid h4
                        have HTK := Lib.hid hqt
                        clear h4 hqt HKN0
                        go_upto_region 31 with (fail)
                        refine wp_flowM [some 163, some 164, some 165, some 166, some 167, some 168, some 169, some 170, some 171, some 172, none] [10] [0, 0, 0, 0, 0, 0, 0, 0, 0, 0, 0] [eqV (.pointer (some ⟨g7, 2, none⟩)), eqV (.int .i64 (q : Int)), eqV (.pointer (some ⟨g7, 2, none⟩)), eqV (.int .i64 (q : Int)), eqV (.pointer (some ⟨w.heap.size + 1 + 1, q, none⟩)), eqV (.int .i64 (K q)), eqV (.pointer (some ⟨g7, 3, none⟩)), eqV (.int .i64 tt), eqV (.int .i64 (if K q < tt then tt else K q)), eqV (.pointer (some ⟨w.heap.size + 1 + 1, q, none⟩)), fun _ _ => True] (fun j W => match j with | 0 => Bs w [(g12, 26, vwC (sent)), (g9, 29, vsC (V)), (g10, 24, arrC (S)), (gx8, 26, vwC (m)), (g7, 35, taCells ⟨d, mo, (q : Int), tt, m⟩), (w.heap.size + 1 + 1, 24, arrC (K)), (w.heap.size + 1, 24, arrC (S1)), (w.heap.size, 29, vsC (V1))] W | _ => Bs w [(g12, 26, vwC (sent)), (g9, 29, vsC (V)), (g10, 24, arrC (S)), (gx8, 26, vwC (m)), (g7, 35, taCells ⟨d, mo, (q : Int), tt, m⟩), (w.heap.size + 1 + 1, 24, arrC (put1 K q (if K q < tt then tt else K q))), (w.heap.size + 1, 24, arrC (S1)), (w.heap.size, 29, vsC (V1))] W) (by kernel_rfl) (by kernel_rfl) (by kernel_rfl) (by rfl)
                          (by simp only [List.mem_cons, List.not_mem_nil, or_false, forall_eq_or_imp, forall_eq]; refine ⟨?_, ?_, ?_, ?_, ?_, ?_, ?_, ?_, ?_, ?_, ?_⟩ <;> (first | exact eqV_monoB _ _ | exact rowB_mono _ _ _ _ | exact true_monoB _))
                          (fun j W W' h hb => by rcases j with _ | j <;> first | exact (Bs.grown h hb)) (HE2.out) ?_ ?_ ?_
                        · intro i o hi ho hc j A W hj hz hMj hk he
                          simp only [List.length_cons, List.length_nil, Nat.zero_add, Nat.reduceAdd] at hi
                          obtain rfl | rfl | rfl | rfl | rfl | rfl | rfl | rfl | rfl | rfl | rfl : i = 0 ∨ i = 1 ∨ i = 2 ∨ i = 3 ∨ i = 4 ∨ i = 5 ∨ i = 6 ∨ i = 7 ∨ i = 8 ∨ i = 9 ∨ i = 10 := by omega
                          · injection ho with ho; subst ho
                            refine .inl ⟨wanted_free rfl, ?_⟩
                            have h7 : A.tmps[7]?.getD undef = .pointer (some ⟨g7, 0, none⟩) := hk 7 (by rfl)
                            go_simp
                            exact ⟨rfl, Below.refl _ _⟩
                          · obtain rfl : j = 0 := Nat.le_zero.1 hj
                            have hMs : Bs w [(g12, 26, vwC (sent)), (g9, 29, vsC (V)), (g10, 24, arrC (S)), (gx8, 26, vwC (m)), (g7, 35, taCells ⟨d, mo, (q : Int), tt, m⟩), (w.heap.size + 1 + 1, 24, arrC (K)), (w.heap.size + 1, 24, arrC (S1)), (w.heap.size, 29, vsC (V1))] W := hMj
                            injection ho with ho; subst ho
                            refine .inl ⟨wanted_free rfl, ?_⟩
                            have h163 : A.tmps[163]?.getD undef = .pointer (some ⟨g7, 2, none⟩) := he 0 (by kernel_rfl) (by rfl)
                            have c0 := (hMs.get (g := g7) (t := 35) (cs := taCells ⟨d, mo, (q : Int), tt, m⟩) (by simp)).cell 2
                            go_simp
                            exact ⟨rfl, Below.refl _ _⟩
                          · injection ho with ho; subst ho
                            refine .inl ⟨wanted_free rfl, ?_⟩
                            have h7 : A.tmps[7]?.getD undef = .pointer (some ⟨g7, 0, none⟩) := hk 7 (by rfl)
                            go_simp
                            exact ⟨rfl, Below.refl _ _⟩
                          · obtain rfl : j = 0 := Nat.le_zero.1 hj
                            have hMs : Bs w [(g12, 26, vwC (sent)), (g9, 29, vsC (V)), (g10, 24, arrC (S)), (gx8, 26, vwC (m)), (g7, 35, taCells ⟨d, mo, (q : Int), tt, m⟩), (w.heap.size + 1 + 1, 24, arrC (K)), (w.heap.size + 1, 24, arrC (S1)), (w.heap.size, 29, vsC (V1))] W := hMj
                            injection ho with ho; subst ho
                            refine .inl ⟨wanted_free rfl, ?_⟩
                            have h165 : A.tmps[165]?.getD undef = .pointer (some ⟨g7, 2, none⟩) := he 2 (by kernel_rfl) (by rfl)
                            have c0 := (hMs.get (g := g7) (t := 35) (cs := taCells ⟨d, mo, (q : Int), tt, m⟩) (by simp)).cell 2
                            go_simp
                            exact ⟨rfl, Below.refl _ _⟩
                          · injection ho with ho; subst ho
                            refine .inl ⟨wanted_free rfl, ?_⟩
                            have h5 : A.tmps[5]?.getD undef = .pointer (some ⟨w.heap.size + 1 + 1, 0, none⟩) := hk 5 (by rfl)
                            have h166 : A.tmps[166]?.getD undef = .int .i64 (q : Int) := he 3 (by kernel_rfl) (by rfl)
                            go_simp
                            exact ⟨rfl, Below.refl _ _⟩
                          · obtain rfl : j = 0 := Nat.le_zero.1 hj
                            have hMs : Bs w [(g12, 26, vwC (sent)), (g9, 29, vsC (V)), (g10, 24, arrC (S)), (gx8, 26, vwC (m)), (g7, 35, taCells ⟨d, mo, (q : Int), tt, m⟩), (w.heap.size + 1 + 1, 24, arrC (K)), (w.heap.size + 1, 24, arrC (S1)), (w.heap.size, 29, vsC (V1))] W := hMj
                            injection ho with ho; subst ho
                            refine .inl ⟨wanted_free rfl, ?_⟩
                            have h167 : A.tmps[167]?.getD undef = .pointer (some ⟨w.heap.size + 1 + 1, q, none⟩) := he 4 (by kernel_rfl) (by rfl)
                            have c0 := ((hMs.get (g := w.heap.size + 1 + 1) (t := 24) (cs := arrC (K)) (by simp)).cell q).trans (arrC_at K q HQ.out)
                            go_simp
                            exact ⟨rfl, Below.refl _ _⟩
                          · injection ho with ho; subst ho
                            refine .inl ⟨wanted_free rfl, ?_⟩
                            have h7 : A.tmps[7]?.getD undef = .pointer (some ⟨g7, 0, none⟩) := hk 7 (by rfl)
                            go_simp
                            exact ⟨rfl, Below.refl _ _⟩
                          · obtain rfl : j = 0 := Nat.le_zero.1 hj
                            have hMs : Bs w [(g12, 26, vwC (sent)), (g9, 29, vsC (V)), (g10, 24, arrC (S)), (gx8, 26, vwC (m)), (g7, 35, taCells ⟨d, mo, (q : Int), tt, m⟩), (w.heap.size + 1 + 1, 24, arrC (K)), (w.heap.size + 1, 24, arrC (S1)), (w.heap.size, 29, vsC (V1))] W := hMj
                            injection ho with ho; subst ho
                            refine .inl ⟨wanted_free rfl, ?_⟩
                            have h169 : A.tmps[169]?.getD undef = .pointer (some ⟨g7, 3, none⟩) := he 6 (by kernel_rfl) (by rfl)
                            have c0 := (hMs.get (g := g7) (t := 35) (cs := taCells ⟨d, mo, (q : Int), tt, m⟩) (by simp)).cell 3
                            go_simp
                            exact ⟨rfl, Below.refl _ _⟩
                          · obtain rfl : j = 0 := Nat.le_zero.1 hj
                            have hMs : Bs w [(g12, 26, vwC (sent)), (g9, 29, vsC (V)), (g10, 24, arrC (S)), (gx8, 26, vwC (m)), (g7, 35, taCells ⟨d, mo, (q : Int), tt, m⟩), (w.heap.size + 1 + 1, 24, arrC (K)), (w.heap.size + 1, 24, arrC (S1)), (w.heap.size, 29, vsC (V1))] W := hMj
                            injection ho with ho; subst ho
                            refine .inl ⟨wanted_free rfl, ?_⟩
                            have h168 : A.tmps[168]?.getD undef = .int .i64 (K q) := he 5 (by kernel_rfl) (by rfl)
                            have h170 : A.tmps[170]?.getD undef = .int .i64 tt := he 7 (by kernel_rfl) (by rfl)
                            have m0 := fun ts t w => run_maxI (K q) tt Try.prog ts t w
                            go_simp
                            exact ⟨rfl, Below.refl _ _⟩
                          · injection ho with ho; subst ho
                            refine .inl ⟨wanted_free rfl, ?_⟩
                            have h5 : A.tmps[5]?.getD undef = .pointer (some ⟨w.heap.size + 1 + 1, 0, none⟩) := hk 5 (by rfl)
                            have h164 : A.tmps[164]?.getD undef = .int .i64 (q : Int) := he 1 (by kernel_rfl) (by rfl)
                            go_simp
                            exact ⟨rfl, Below.refl _ _⟩
                          · exact absurd hc (by decide)
                        · intro j i o hji ho A W hz hMj hk he
                          rcases j with _ | j
                          · obtain rfl : 10 = i := Option.some.inj hji
                            injection ho with ho; subst ho
                            refine .inl ⟨wanted_free rfl, ?_⟩
                            have hMs : Bs w [(g12, 26, vwC (sent)), (g9, 29, vsC (V)), (g10, 24, arrC (S)), (gx8, 26, vwC (m)), (g7, 35, taCells ⟨d, mo, (q : Int), tt, m⟩), (w.heap.size + 1 + 1, 24, arrC (K)), (w.heap.size + 1, 24, arrC (S1)), (w.heap.size, 29, vsC (V1))] W := hMj
                            have h172 : A.tmps[172]?.getD undef = .pointer (some ⟨w.heap.size + 1 + 1, q, none⟩) := he 9 (by kernel_rfl) (by rfl)
                            have h171 : A.tmps[171]?.getD undef = .int .i64 (if K q < tt then tt else K q) := he 8 (by kernel_rfl) (by rfl)
                            exact y_storeI rfl h172 h171 (((hMs.get (g := w.heap.size + 1 + 1) (t := 24) (cs := arrC (K)) (by simp)).cell q).trans (arrC_at K q HQ.out)) ((hMs.get (g := w.heap.size + 1 + 1) (t := 24) (cs := arrC (K)) (by simp)).free q) ((HE2.out.get (g := w.heap.size + 1 + 1) (t := 24) (cs := arrC (K)) (by simp))).lt (fun _ _ => trivial) (Bs.cell (l1 := [(g12, 26, vwC (sent)), (g9, 29, vsC (V)), (g10, 24, arrC (S)), (gx8, 26, vwC (m)), (g7, 35, taCells ⟨d, mo, (q : Int), tt, m⟩)]) (l2 := [(w.heap.size + 1, 24, arrC (S1)), (w.heap.size, 29, vsC (V1))]) hMs (by omega) (by first | (simp; done) | (simp; omega)) q HQ.out (if K q < tt then tt else K q))
                          · simp at hji
                        · intro xs W hz hMe hV
                          have hMe : Bs w [(g12, 26, vwC (sent)), (g9, 29, vsC (V)), (g10, 24, arrC (S)), (gx8, 26, vwC (m)), (g7, 35, taCells ⟨d, mo, (q : Int), tt, m⟩), (w.heap.size + 1 + 1, 24, arrC (put1 K q (if K q < tt then tt else K q))), (w.heap.size + 1, 24, arrC (S1)), (w.heap.size, 29, vsC (V1))] W := hMe
                          simp only [putM, Act.put, List.setIfInBounds_toArray, List.set_cons_zero, List.set_cons_succ, Nat.zero_add, Nat.reduceAdd]
                          clear hV
                          generalize W = wm at hMe ⊢
                          have HY := Lib.hid hMe
                          clear hMe hz HE2
                          have HKN : Hid (∀ j, j < 4 → (put1 K q (if K q < tt then tt else K q)) j ≤ V1 0 j) := Lib.hid (fun j hj => by
                            have h1 := Int.le_trans (HN.out.2 j hj) (HG.out.up 0 (by omega) j (by omega))
                            unfold put1
                            by_cases e : j = q
                            · subst e
                              rw [if_pos rfl]
                              have := HTK.out
                              split <;> assumption
                            · rw [if_neg e]; exact h1)
                          have kf : ¬ V1 0 q < (put1 K q (if K q < tt then tt else K q)) q := by have := HKN.out q HQ.out; omega
                          go_upto_region 32 with (fail)
                          refine wp_flowM [some 173, some 174, some 175, some 176, some 177, some 178, some 179, some 180, some 181, some 182, some 183] [] [0, 0, 0, 0, 0, 0, 0, 0, 0, 0, 0] [eqV (.pointer (some ⟨g7, 2, none⟩)), eqV (.int .i64 (q : Int)), eqV (.pointer (some ⟨w.heap.size, 0, none⟩)), eqV (.pointer (some ⟨w.heap.size, 0, none⟩)), eqV (.pointer (some ⟨w.heap.size, q, none⟩)), eqV (.int .i64 (V1 0 q)), eqV (.pointer (some ⟨g7, 2, none⟩)), eqV (.int .i64 (q : Int)), eqV (.pointer (some ⟨w.heap.size + 1 + 1, q, none⟩)), eqV (.int .i64 ((put1 K q (if K q < tt then tt else K q)) q)), eqV (.bool false)] (fun _ W => Bs w [(g12, 26, vwC (sent)), (g9, 29, vsC (V)), (g10, 24, arrC (S)), (gx8, 26, vwC (m)), (g7, 35, taCells ⟨d, mo, (q : Int), tt, m⟩), (w.heap.size + 1 + 1, 24, arrC (put1 K q (if K q < tt then tt else K q))), (w.heap.size + 1, 24, arrC (S1)), (w.heap.size, 29, vsC (V1))] W) (by kernel_rfl) (by kernel_rfl) (by kernel_rfl) (by rfl)
                            (by simp only [List.mem_cons, List.not_mem_nil, or_false, forall_eq_or_imp, forall_eq]; refine ⟨?_, ?_, ?_, ?_, ?_, ?_, ?_, ?_, ?_, ?_, ?_⟩ <;> (first | exact eqV_monoB _ _ | exact rowB_mono _ _ _ _ | exact true_monoB _))
                            (fun j W W' h hb => by exact (Bs.grown h hb)) (HY.out) ?_ ?_ ?_
                          · intro i o hi ho hc j A W hj hz hMj hk he
                            simp only [List.length_cons, List.length_nil, Nat.zero_add, Nat.reduceAdd] at hi
                            obtain rfl | rfl | rfl | rfl | rfl | rfl | rfl | rfl | rfl | rfl | rfl : i = 0 ∨ i = 1 ∨ i = 2 ∨ i = 3 ∨ i = 4 ∨ i = 5 ∨ i = 6 ∨ i = 7 ∨ i = 8 ∨ i = 9 ∨ i = 10 := by omega
                            · injection ho with ho; subst ho
                              refine .inl ⟨wanted_free rfl, ?_⟩
                              have h7 : A.tmps[7]?.getD undef = .pointer (some ⟨g7, 0, none⟩) := hk 7 (by rfl)
                              go_simp
                              exact ⟨rfl, Below.refl _ _⟩
                            · obtain rfl : j = 0 := Nat.le_zero.1 hj
                              have hMs : Bs w [(g12, 26, vwC (sent)), (g9, 29, vsC (V)), (g10, 24, arrC (S)), (gx8, 26, vwC (m)), (g7, 35, taCells ⟨d, mo, (q : Int), tt, m⟩), (w.heap.size + 1 + 1, 24, arrC (put1 K q (if K q < tt then tt else K q))), (w.heap.size + 1, 24, arrC (S1)), (w.heap.size, 29, vsC (V1))] W := hMj
                              injection ho with ho; subst ho
                              refine .inl ⟨wanted_free rfl, ?_⟩
                              have h173 : A.tmps[173]?.getD undef = .pointer (some ⟨g7, 2, none⟩) := he 0 (by kernel_rfl) (by rfl)
                              have c0 := (hMs.get (g := g7) (t := 35) (cs := taCells ⟨d, mo, (q : Int), tt, m⟩) (by simp)).cell 2
                              go_simp
                              exact ⟨rfl, Below.refl _ _⟩
                            · injection ho with ho; subst ho
                              refine .inl ⟨wanted_free rfl, ?_⟩
                              have h3 : A.tmps[3]?.getD undef = .pointer (some ⟨w.heap.size, 0, none⟩) := hk 3 (by rfl)
                              go_simp
                              exact ⟨rfl, Below.refl _ _⟩
                            · injection ho with ho; subst ho
                              refine .inl ⟨wanted_free rfl, ?_⟩
                              have h175 : A.tmps[175]?.getD undef = .pointer (some ⟨w.heap.size, 0, none⟩) := he 2 (by kernel_rfl) (by rfl)
                              go_simp
                              exact ⟨rfl, Below.refl _ _⟩
                            · injection ho with ho; subst ho
                              refine .inl ⟨wanted_free rfl, ?_⟩
                              have h176 : A.tmps[176]?.getD undef = .pointer (some ⟨w.heap.size, 0, none⟩) := he 3 (by kernel_rfl) (by rfl)
                              have h174 : A.tmps[174]?.getD undef = .int .i64 (q : Int) := he 1 (by kernel_rfl) (by rfl)
                              go_simp
                              exact ⟨rfl, Below.refl _ _⟩
                            · obtain rfl : j = 0 := Nat.le_zero.1 hj
                              have hMs : Bs w [(g12, 26, vwC (sent)), (g9, 29, vsC (V)), (g10, 24, arrC (S)), (gx8, 26, vwC (m)), (g7, 35, taCells ⟨d, mo, (q : Int), tt, m⟩), (w.heap.size + 1 + 1, 24, arrC (put1 K q (if K q < tt then tt else K q))), (w.heap.size + 1, 24, arrC (S1)), (w.heap.size, 29, vsC (V1))] W := hMj
                              injection ho with ho; subst ho
                              refine .inl ⟨wanted_free rfl, ?_⟩
                              have h177 : A.tmps[177]?.getD undef = .pointer (some ⟨w.heap.size, q, none⟩) := he 4 (by kernel_rfl) (by rfl)
                              have c0 := ((hMs.get (g := w.heap.size) (t := 29) (cs := vsC (V1)) (by simp)).cell q).trans (vsC_at V1 0 q q (by omega) (by have := HQ.out; omega) (by omega))
                              go_simp
                              exact ⟨rfl, Below.refl _ _⟩
                            · injection ho with ho; subst ho
                              refine .inl ⟨wanted_free rfl, ?_⟩
                              have h7 : A.tmps[7]?.getD undef = .pointer (some ⟨g7, 0, none⟩) := hk 7 (by rfl)
                              go_simp
                              exact ⟨rfl, Below.refl _ _⟩
                            · obtain rfl : j = 0 := Nat.le_zero.1 hj
                              have hMs : Bs w [(g12, 26, vwC (sent)), (g9, 29, vsC (V)), (g10, 24, arrC (S)), (gx8, 26, vwC (m)), (g7, 35, taCells ⟨d, mo, (q : Int), tt, m⟩), (w.heap.size + 1 + 1, 24, arrC (put1 K q (if K q < tt then tt else K q))), (w.heap.size + 1, 24, arrC (S1)), (w.heap.size, 29, vsC (V1))] W := hMj
                              injection ho with ho; subst ho
                              refine .inl ⟨wanted_free rfl, ?_⟩
                              have h179 : A.tmps[179]?.getD undef = .pointer (some ⟨g7, 2, none⟩) := he 6 (by kernel_rfl) (by rfl)
                              have c0 := (hMs.get (g := g7) (t := 35) (cs := taCells ⟨d, mo, (q : Int), tt, m⟩) (by simp)).cell 2
                              go_simp
                              exact ⟨rfl, Below.refl _ _⟩
                            · injection ho with ho; subst ho
                              refine .inl ⟨wanted_free rfl, ?_⟩
                              have h5 : A.tmps[5]?.getD undef = .pointer (some ⟨w.heap.size + 1 + 1, 0, none⟩) := hk 5 (by rfl)
                              have h180 : A.tmps[180]?.getD undef = .int .i64 (q : Int) := he 7 (by kernel_rfl) (by rfl)
                              go_simp
                              exact ⟨rfl, Below.refl _ _⟩
                            · obtain rfl : j = 0 := Nat.le_zero.1 hj
                              have hMs : Bs w [(g12, 26, vwC (sent)), (g9, 29, vsC (V)), (g10, 24, arrC (S)), (gx8, 26, vwC (m)), (g7, 35, taCells ⟨d, mo, (q : Int), tt, m⟩), (w.heap.size + 1 + 1, 24, arrC (put1 K q (if K q < tt then tt else K q))), (w.heap.size + 1, 24, arrC (S1)), (w.heap.size, 29, vsC (V1))] W := hMj
                              injection ho with ho; subst ho
                              refine .inl ⟨wanted_free rfl, ?_⟩
                              have h181 : A.tmps[181]?.getD undef = .pointer (some ⟨w.heap.size + 1 + 1, q, none⟩) := he 8 (by kernel_rfl) (by rfl)
                              have c0 := ((hMs.get (g := w.heap.size + 1 + 1) (t := 24) (cs := arrC (put1 K q (if K q < tt then tt else K q))) (by simp)).cell q).trans (arrC_at (put1 K q (if K q < tt then tt else K q)) q HQ.out)
                              go_simp
                              exact ⟨rfl, Below.refl _ _⟩
                            · injection ho with ho; subst ho
                              refine .inl ⟨wanted_free rfl, ?_⟩
                              have h178 : A.tmps[178]?.getD undef = .int .i64 (V1 0 q) := he 5 (by kernel_rfl) (by rfl)
                              have h182 : A.tmps[182]?.getD undef = .int .i64 ((put1 K q (if K q < tt then tt else K q)) q) := he 9 (by kernel_rfl) (by rfl)
                              go_simp
                              exact ⟨rfl, Below.refl _ _⟩
                          · intro j i o hji ho A W hz hMj hk he
                            simp at hji
                          · intro xs W hz hMe hV
                            have hMe : Bs w [(g12, 26, vwC (sent)), (g9, 29, vsC (V)), (g10, 24, arrC (S)), (gx8, 26, vwC (m)), (g7, 35, taCells ⟨d, mo, (q : Int), tt, m⟩), (w.heap.size + 1 + 1, 24, arrC (put1 K q (if K q < tt then tt else K q))), (w.heap.size + 1, 24, arrC (S1)), (w.heap.size, 29, vsC (V1))] W := hMe
                            have e183 : xs 10 = .bool false := hV 10 (by simp) rfl
                            simp only [putM, Act.put, List.setIfInBounds_toArray, List.set_cons_zero, List.set_cons_succ, Nat.zero_add, Nat.reduceAdd, e183]
                            clear hV e183
                            generalize W = wn at hMe ⊢
                            have HX := Lib.hid hMe
                            clear hMe hz HY kf
                            have HF := Lib.hid (HX.out.mono (l' := [(w.heap.size + 1 + 1, 24, arrC (put1 K q (if K q < tt then tt else K q))), (w.heap.size + 1, 24, arrC (S1)), (w.heap.size, 29, vsC (V1))]) (fun p hp => List.mem_append_right [(g12, 26, vwC (sent)), (g9, 29, vsC (V)), (g10, 24, arrC (S)), (gx8, 26, vwC (m)), (g7, 35, taCells ⟨d, mo, (q : Int), tt, m⟩)] hp))
                            clear HX
                            go_wp2_with fail
                            go_roundg (l.length - (i + 1))
                            case measure => have := HL.out; omega
                            case rel => exact ⟨i + 1, V1, S1, put1 K q (if K q < tt then tt else K q), by have := HL.out; omega, rfl, by go_num, Lib.hid ⟨HF.out, HG.out.may, HKN.out⟩⟩
                    by_cases hd2 : 1 < d
                    ·
                      have e1 : ((d : Int) == 1) = false := by simpa using hd1
                      by_cases hm1 : mo = 1
                      ·
                        have f1 : ((mo : Int) != 1) = false := by simpa using hm1
                        clear hm1 hd1
                        refine wp_flowQ [147, 148, 149, 150, 151, 152, 153, 154, 155, 156, 157, 158, 159, 160, 161, 162] [eqV (.bool true), eqV (.bool true), eqV (.pointer (some ⟨g7, 0, none⟩)), eqV (.int .u8 d), eqV (.bool false), eqV (.bool false), eqV (.pointer (some ⟨g7, 0, none⟩)), eqV (.int .u8 d), eqV (.bool true), eqV (.bool true), eqV (.pointer (some ⟨g7, 1, none⟩)), eqV (.int .u8 mo), eqV (.bool false), eqV (.bool false), eqV (.bool false), eqV (.bool false)] (by kernel_rfl) (by kernel_rfl) (by kernel_rfl) (by kernel_rfl) (by rfl)
                          (by simp only [List.mem_cons, List.not_mem_nil, or_false, forall_eq_or_imp, forall_eq]; refine ⟨?_, ?_, ?_, ?_, ?_, ?_, ?_, ?_, ?_, ?_, ?_, ?_, ?_, ?_, ?_, ?_⟩ <;> (first | exact eqV_mono _ | exact rowV_mono _ _ _)) ?_ ?_
                        · intro i o hi ho A W hW hk he
                          simp only [List.length_cons, List.length_nil, Nat.zero_add, Nat.reduceAdd] at hi
                          obtain rfl | rfl | rfl | rfl | rfl | rfl | rfl | rfl | rfl | rfl | rfl | rfl | rfl | rfl | rfl | rfl : i = 0 ∨ i = 1 ∨ i = 2 ∨ i = 3 ∨ i = 4 ∨ i = 5 ∨ i = 6 ∨ i = 7 ∨ i = 8 ∨ i = 9 ∨ i = 10 ∨ i = 11 ∨ i = 12 ∨ i = 13 ∨ i = 14 ∨ i = 15 := by omega
                          · injection ho with ho; subst ho
                            refine .inl ⟨wanted_free rfl, ?_⟩
                            have h11 : A.tmps[11]?.getD undef = .bool true := hk 11 (by rfl)
                            go_simp
                            exact ⟨rfl, Below.refl _ _⟩
                          · injection ho with ho; subst ho
                            refine .inl ⟨wanted_free rfl, ?_⟩
                            have h147 : A.tmps[147]?.getD undef = .bool true := he 0 (by kernel_rfl)
                            go_simp
                            exact ⟨rfl, Below.refl _ _⟩
                          · injection ho with ho; subst ho
                            have hg : A.tmps[148]?.getD undef = .bool true := he 1 (by kernel_rfl)
                            refine .inl ⟨wanted_yes (d := 148) rfl (by kernel_rfl) hg, ?_⟩
                            have h7 : A.tmps[7]?.getD undef = .pointer (some ⟨g7, 0, none⟩) := hk 7 (by rfl)
                            go_simp
                            exact ⟨rfl, Below.refl _ _⟩
                          · injection ho with ho; subst ho
                            have hg : A.tmps[148]?.getD undef = .bool true := he 1 (by kernel_rfl)
                            refine .inl ⟨wanted_yes (d := 148) rfl (by kernel_rfl) hg, ?_⟩
                            have h149 : A.tmps[149]?.getD undef = .pointer (some ⟨g7, 0, none⟩) := he 2 (by kernel_rfl)
                            have c0 := ((HE.out.grown hW).get (g := g7) (t := 35) (cs := taCells ⟨d, mo, lc, tt, m⟩) (by simp)).cell 0
                            go_simp
                            exact ⟨rfl, Below.refl _ _⟩
                          · injection ho with ho; subst ho
                            have hg : A.tmps[148]?.getD undef = .bool true := he 1 (by kernel_rfl)
                            refine .inl ⟨wanted_yes (d := 148) rfl (by kernel_rfl) hg, ?_⟩
                            have h150 : A.tmps[150]?.getD undef = .int .u8 d := he 3 (by kernel_rfl)
                            go_simp
                            exact ⟨rfl, Below.refl _ _⟩
                          · injection ho with ho; subst ho
                            have hg : A.tmps[148]?.getD undef = .bool true := he 1 (by kernel_rfl)
                            refine .inl ⟨wanted_yes (d := 148) rfl (by kernel_rfl) hg, ?_⟩
                            have h151 : A.tmps[151]?.getD undef = .bool false := he 4 (by kernel_rfl)
                            go_simp
                            exact ⟨rfl, Below.refl _ _⟩
                          · injection ho with ho; subst ho
                            have hg : A.tmps[152]?.getD undef = .bool false := he 5 (by kernel_rfl)
                            refine .inl ⟨wanted_yes (d := 152) rfl (by kernel_rfl) hg, ?_⟩
                            have h7 : A.tmps[7]?.getD undef = .pointer (some ⟨g7, 0, none⟩) := hk 7 (by rfl)
                            go_simp
                            exact ⟨rfl, Below.refl _ _⟩
                          · injection ho with ho; subst ho
                            have hg : A.tmps[152]?.getD undef = .bool false := he 5 (by kernel_rfl)
                            refine .inl ⟨wanted_yes (d := 152) rfl (by kernel_rfl) hg, ?_⟩
                            have h153 : A.tmps[153]?.getD undef = .pointer (some ⟨g7, 0, none⟩) := he 6 (by kernel_rfl)
                            have c0 := ((HE.out.grown hW).get (g := g7) (t := 35) (cs := taCells ⟨d, mo, lc, tt, m⟩) (by simp)).cell 0
                            go_simp
                            exact ⟨rfl, Below.refl _ _⟩
                          · injection ho with ho; subst ho
                            have hg : A.tmps[152]?.getD undef = .bool false := he 5 (by kernel_rfl)
                            refine .inl ⟨wanted_yes (d := 152) rfl (by kernel_rfl) hg, ?_⟩
                            have h154 : A.tmps[154]?.getD undef = .int .u8 d := he 7 (by kernel_rfl)
                            go_simp
                            exact ⟨rfl, Below.refl _ _⟩
                          · injection ho with ho; subst ho
                            have hg : A.tmps[152]?.getD undef = .bool false := he 5 (by kernel_rfl)
                            refine .inl ⟨wanted_yes (d := 152) rfl (by kernel_rfl) hg, ?_⟩
                            have h155 : A.tmps[155]?.getD undef = .bool true := he 8 (by kernel_rfl)
                            go_simp
                            exact ⟨rfl, Below.refl _ _⟩
                          · injection ho with ho; subst ho
                            have hg : A.tmps[156]?.getD undef = .bool true := he 9 (by kernel_rfl)
                            refine .inl ⟨wanted_yes (d := 156) rfl (by kernel_rfl) hg, ?_⟩
                            have h7 : A.tmps[7]?.getD undef = .pointer (some ⟨g7, 0, none⟩) := hk 7 (by rfl)
                            go_simp
                            exact ⟨rfl, Below.refl _ _⟩
                          · injection ho with ho; subst ho
                            have hg : A.tmps[156]?.getD undef = .bool true := he 9 (by kernel_rfl)
                            refine .inl ⟨wanted_yes (d := 156) rfl (by kernel_rfl) hg, ?_⟩
                            have h157 : A.tmps[157]?.getD undef = .pointer (some ⟨g7, 1, none⟩) := he 10 (by kernel_rfl)
                            have c0 := ((HE.out.grown hW).get (g := g7) (t := 35) (cs := taCells ⟨d, mo, lc, tt, m⟩) (by simp)).cell 1
                            go_simp
                            exact ⟨rfl, Below.refl _ _⟩
                          · injection ho with ho; subst ho
                            have hg : A.tmps[156]?.getD undef = .bool true := he 9 (by kernel_rfl)
                            refine .inl ⟨wanted_yes (d := 156) rfl (by kernel_rfl) hg, ?_⟩
                            have h158 : A.tmps[158]?.getD undef = .int .u8 mo := he 11 (by kernel_rfl)
                            go_simp
                            exact ⟨rfl, Below.refl _ _⟩
                          · injection ho with ho; subst ho
                            have hg : A.tmps[152]?.getD undef = .bool false := he 5 (by kernel_rfl)
                            refine .inl ⟨wanted_yes (d := 152) rfl (by kernel_rfl) hg, ?_⟩
                            have h156 : A.tmps[156]?.getD undef = .bool true := he 9 (by kernel_rfl)
                            have h159 : A.tmps[159]?.getD undef = .bool false := he 12 (by kernel_rfl)
                            go_simp
                            exact ⟨rfl, Below.refl _ _⟩
                          · injection ho with ho; subst ho
                            have hg : A.tmps[148]?.getD undef = .bool true := he 1 (by kernel_rfl)
                            refine .inl ⟨wanted_yes (d := 148) rfl (by kernel_rfl) hg, ?_⟩
                            have h152 : A.tmps[152]?.getD undef = .bool false := he 5 (by kernel_rfl)
                            have h160 : A.tmps[160]?.getD undef = .bool false := he 13 (by kernel_rfl)
                            go_simp
                            exact ⟨rfl, Below.refl _ _⟩
                          · injection ho with ho; subst ho
                            refine .inl ⟨wanted_free rfl, ?_⟩
                            have h148 : A.tmps[148]?.getD undef = .bool true := he 1 (by kernel_rfl)
                            have h161 : A.tmps[161]?.getD undef = .bool false := he 14 (by kernel_rfl)
                            go_simp
                            exact ⟨rfl, Below.refl _ _⟩
                        · intro xs W hW hV
                          have e162 : xs 15 = .bool false := hV 15 (by simp)
                          simp only [List.length_cons, List.length_nil, Nat.zero_add, Nat.reduceAdd, List.drop_succ_cons, List.drop_zero, putL, Act.put, List.setIfInBounds_toArray, List.set_cons_zero, List.set_cons_succ, e162]
                          clear hV e162
                          have HE2 := Lib.hid (HE.out.grown hW)
                          clear hW HE
                          clear e1 f1 hd2
                          have HF := Lib.hid (HE2.out.mono (l' := [(w.heap.size + 1 + 1, 24, arrC (K)), (w.heap.size + 1, 24, arrC (S1)), (w.heap.size, 29, vsC (V1))]) (fun p hp => List.mem_append_right [(g12, 26, vwC (sent)), (g9, 29, vsC (V)), (g10, 24, arrC (S)), (gx8, 26, vwC (m)), (g7, 35, taCells ⟨d, mo, lc, tt, m⟩)] hp))
                          clear HE2
                          go_wp2_with fail
                          go_roundg (l.length - (i + 1))
                          case measure => have := HL.out; omega
                          case rel => exact ⟨i + 1, V1, S1, K, by have := HL.out; omega, rfl, by go_num, Lib.hid ⟨HF.out, HG.out.may, fun j hj => Int.le_trans (HN.out.2 j hj) (HG.out.up 0 (by omega) j (by omega))⟩⟩
                      ·
                        have f1 : ((mo : Int) != 1) = true := by simpa using hm1
                        have HCD : Hid (d = 1 ∨ (1 < d ∧ mo ≠ 1)) := Lib.hid (.inr ⟨hd2, hm1⟩)
                        clear hm1 hd1
                        refine wp_flowQ [147, 148, 149, 150, 151, 152, 153, 154, 155, 156, 157, 158, 159, 160, 161, 162] [eqV (.bool true), eqV (.bool true), eqV (.pointer (some ⟨g7, 0, none⟩)), eqV (.int .u8 d), eqV (.bool false), eqV (.bool false), eqV (.pointer (some ⟨g7, 0, none⟩)), eqV (.int .u8 d), eqV (.bool true), eqV (.bool true), eqV (.pointer (some ⟨g7, 1, none⟩)), eqV (.int .u8 mo), eqV (.bool true), eqV (.bool true), eqV (.bool true), eqV (.bool true)] (by kernel_rfl) (by kernel_rfl) (by kernel_rfl) (by kernel_rfl) (by rfl)
                          (by simp only [List.mem_cons, List.not_mem_nil, or_false, forall_eq_or_imp, forall_eq]; refine ⟨?_, ?_, ?_, ?_, ?_, ?_, ?_, ?_, ?_, ?_, ?_, ?_, ?_, ?_, ?_, ?_⟩ <;> (first | exact eqV_mono _ | exact rowV_mono _ _ _)) ?_ ?_
                        · intro i o hi ho A W hW hk he
                          simp only [List.length_cons, List.length_nil, Nat.zero_add, Nat.reduceAdd] at hi
                          obtain rfl | rfl | rfl | rfl | rfl | rfl | rfl | rfl | rfl | rfl | rfl | rfl | rfl | rfl | rfl | rfl : i = 0 ∨ i = 1 ∨ i = 2 ∨ i = 3 ∨ i = 4 ∨ i = 5 ∨ i = 6 ∨ i = 7 ∨ i = 8 ∨ i = 9 ∨ i = 10 ∨ i = 11 ∨ i = 12 ∨ i = 13 ∨ i = 14 ∨ i = 15 := by omega
                          · injection ho with ho; subst ho
                            refine .inl ⟨wanted_free rfl, ?_⟩
                            have h11 : A.tmps[11]?.getD undef = .bool true := hk 11 (by rfl)
                            go_simp
                            exact ⟨rfl, Below.refl _ _⟩
                          · injection ho with ho; subst ho
                            refine .inl ⟨wanted_free rfl, ?_⟩
                            have h147 : A.tmps[147]?.getD undef = .bool true := he 0 (by kernel_rfl)
                            go_simp
                            exact ⟨rfl, Below.refl _ _⟩
                          · injection ho with ho; subst ho
                            have hg : A.tmps[148]?.getD undef = .bool true := he 1 (by kernel_rfl)
                            refine .inl ⟨wanted_yes (d := 148) rfl (by kernel_rfl) hg, ?_⟩
                            have h7 : A.tmps[7]?.getD undef = .pointer (some ⟨g7, 0, none⟩) := hk 7 (by rfl)
                            go_simp
                            exact ⟨rfl, Below.refl _ _⟩
                          · injection ho with ho; subst ho
                            have hg : A.tmps[148]?.getD undef = .bool true := he 1 (by kernel_rfl)
                            refine .inl ⟨wanted_yes (d := 148) rfl (by kernel_rfl) hg, ?_⟩
                            have h149 : A.tmps[149]?.getD undef = .pointer (some ⟨g7, 0, none⟩) := he 2 (by kernel_rfl)
                            have c0 := ((HE.out.grown hW).get (g := g7) (t := 35) (cs := taCells ⟨d, mo, lc, tt, m⟩) (by simp)).cell 0
                            go_simp
                            exact ⟨rfl, Below.refl _ _⟩
                          · injection ho with ho; subst ho
                            have hg : A.tmps[148]?.getD undef = .bool true := he 1 (by kernel_rfl)
                            refine .inl ⟨wanted_yes (d := 148) rfl (by kernel_rfl) hg, ?_⟩
                            have h150 : A.tmps[150]?.getD undef = .int .u8 d := he 3 (by kernel_rfl)
                            go_simp
                            exact ⟨rfl, Below.refl _ _⟩
                          · injection ho with ho; subst ho
                            have hg : A.tmps[148]?.getD undef = .bool true := he 1 (by kernel_rfl)
                            refine .inl ⟨wanted_yes (d := 148) rfl (by kernel_rfl) hg, ?_⟩
                            have h151 : A.tmps[151]?.getD undef = .bool false := he 4 (by kernel_rfl)
                            go_simp
                            exact ⟨rfl, Below.refl _ _⟩
                          · injection ho with ho; subst ho
                            have hg : A.tmps[152]?.getD undef = .bool false := he 5 (by kernel_rfl)
                            refine .inl ⟨wanted_yes (d := 152) rfl (by kernel_rfl) hg, ?_⟩
                            have h7 : A.tmps[7]?.getD undef = .pointer (some ⟨g7, 0, none⟩) := hk 7 (by rfl)
                            go_simp
                            exact ⟨rfl, Below.refl _ _⟩
                          · injection ho with ho; subst ho
                            have hg : A.tmps[152]?.getD undef = .bool false := he 5 (by kernel_rfl)
                            refine .inl ⟨wanted_yes (d := 152) rfl (by kernel_rfl) hg, ?_⟩
                            have h153 : A.tmps[153]?.getD undef = .pointer (some ⟨g7, 0, none⟩) := he 6 (by kernel_rfl)
                            have c0 := ((HE.out.grown hW).get (g := g7) (t := 35) (cs := taCells ⟨d, mo, lc, tt, m⟩) (by simp)).cell 0
                            go_simp
                            exact ⟨rfl, Below.refl _ _⟩
                          · injection ho with ho; subst ho
                            have hg : A.tmps[152]?.getD undef = .bool false := he 5 (by kernel_rfl)
                            refine .inl ⟨wanted_yes (d := 152) rfl (by kernel_rfl) hg, ?_⟩
                            have h154 : A.tmps[154]?.getD undef = .int .u8 d := he 7 (by kernel_rfl)
                            go_simp
                            exact ⟨rfl, Below.refl _ _⟩
                          · injection ho with ho; subst ho
                            have hg : A.tmps[152]?.getD undef = .bool false := he 5 (by kernel_rfl)
                            refine .inl ⟨wanted_yes (d := 152) rfl (by kernel_rfl) hg, ?_⟩
                            have h155 : A.tmps[155]?.getD undef = .bool true := he 8 (by kernel_rfl)
                            go_simp
                            exact ⟨rfl, Below.refl _ _⟩
                          · injection ho with ho; subst ho
                            have hg : A.tmps[156]?.getD undef = .bool true := he 9 (by kernel_rfl)
                            refine .inl ⟨wanted_yes (d := 156) rfl (by kernel_rfl) hg, ?_⟩
                            have h7 : A.tmps[7]?.getD undef = .pointer (some ⟨g7, 0, none⟩) := hk 7 (by rfl)
                            go_simp
                            exact ⟨rfl, Below.refl _ _⟩
                          · injection ho with ho; subst ho
                            have hg : A.tmps[156]?.getD undef = .bool true := he 9 (by kernel_rfl)
                            refine .inl ⟨wanted_yes (d := 156) rfl (by kernel_rfl) hg, ?_⟩
                            have h157 : A.tmps[157]?.getD undef = .pointer (some ⟨g7, 1, none⟩) := he 10 (by kernel_rfl)
                            have c0 := ((HE.out.grown hW).get (g := g7) (t := 35) (cs := taCells ⟨d, mo, lc, tt, m⟩) (by simp)).cell 1
                            go_simp
                            exact ⟨rfl, Below.refl _ _⟩
                          · injection ho with ho; subst ho
                            have hg : A.tmps[156]?.getD undef = .bool true := he 9 (by kernel_rfl)
                            refine .inl ⟨wanted_yes (d := 156) rfl (by kernel_rfl) hg, ?_⟩
                            have h158 : A.tmps[158]?.getD undef = .int .u8 mo := he 11 (by kernel_rfl)
                            go_simp
                            exact ⟨rfl, Below.refl _ _⟩
                          · injection ho with ho; subst ho
                            have hg : A.tmps[152]?.getD undef = .bool false := he 5 (by kernel_rfl)
                            refine .inl ⟨wanted_yes (d := 152) rfl (by kernel_rfl) hg, ?_⟩
                            have h156 : A.tmps[156]?.getD undef = .bool true := he 9 (by kernel_rfl)
                            have h159 : A.tmps[159]?.getD undef = .bool true := he 12 (by kernel_rfl)
                            go_simp
                            exact ⟨rfl, Below.refl _ _⟩
                          · injection ho with ho; subst ho
                            have hg : A.tmps[148]?.getD undef = .bool true := he 1 (by kernel_rfl)
                            refine .inl ⟨wanted_yes (d := 148) rfl (by kernel_rfl) hg, ?_⟩
                            have h152 : A.tmps[152]?.getD undef = .bool false := he 5 (by kernel_rfl)
                            have h160 : A.tmps[160]?.getD undef = .bool true := he 13 (by kernel_rfl)
                            go_simp
                            exact ⟨rfl, Below.refl _ _⟩
                          · injection ho with ho; subst ho
                            refine .inl ⟨wanted_free rfl, ?_⟩
                            have h148 : A.tmps[148]?.getD undef = .bool true := he 1 (by kernel_rfl)
                            have h161 : A.tmps[161]?.getD undef = .bool true := he 14 (by kernel_rfl)
                            go_simp
                            exact ⟨rfl, Below.refl _ _⟩
                        · intro xs W hW hV
                          have e162 : xs 15 = .bool true := hV 15 (by simp)
                          simp only [List.length_cons, List.length_nil, Nat.zero_add, Nat.reduceAdd, List.drop_succ_cons, List.drop_zero, putL, Act.put, List.setIfInBounds_toArray, List.set_cons_zero, List.set_cons_succ, e162]
                          clear hV e162
                          have HE2 := Lib.hid (HE.out.grown hW)
                          clear hW HE
                          clear e1 f1 hd2
                          obtain ⟨q, hq, h4, hqt⟩ : ∃ q : Nat, lc = (q : Int) ∧ q < 4 ∧ tt ≤ V1 0 q := by first | exact HKN0.out rfl HCD.out | exact HKN0.out trivial HCD.out | exact HKN0.out HCD.out
                          subst hq
                          have i0 : (0 : Int) ≤ (q : Int) := by omega
                          have i4 : (q : Int) < 4 := by omega
                          have HQ := Lib.hid h4
                          have HTK := Lib.hid hqt
                          clear h4 hqt HKN0
                          go_upto_region 31 with (fail)
                          refine wp_flowM [some 163, some 164, some 165, some 166, some 167, some 168, some 169, some 170, some 171, some 172, none] [10] [0, 0, 0, 0, 0, 0, 0, 0, 0, 0, 0] [eqV (.pointer (some ⟨g7, 2, none⟩)), eqV (.int .i64 (q : Int)), eqV (.pointer (some ⟨g7, 2, none⟩)), eqV (.int .i64 (q : Int)), eqV (.pointer (some ⟨w.heap.size + 1 + 1, q, none⟩)), eqV (.int .i64 (K q)), eqV (.pointer (some ⟨g7, 3, none⟩)), eqV (.int .i64 tt), eqV (.int .i64 (if K q < tt then tt else K q)), eqV (.pointer (some ⟨w.heap.size + 1 + 1, q, none⟩)), fun _ _ => True] (fun j W => match j with | 0 => Bs w [(g12, 26, vwC (sent)), (g9, 29, vsC (V)), (g10, 24, arrC (S)), (gx8, 26, vwC (m)), (g7, 35, taCells ⟨d, mo, (q : Int), tt, m⟩), (w.heap.size + 1 + 1, 24, arrC (K)), (w.heap.size + 1, 24, arrC (S1)), (w.heap.size, 29, vsC (V1))] W | _ => Bs w [(g12, 26, vwC (sent)), (g9, 29, vsC (V)), (g10, 24, arrC (S)), (gx8, 26, vwC (m)), (g7, 35, taCells ⟨d, mo, (q : Int), tt, m⟩), (w.heap.size + 1 + 1, 24, arrC (put1 K q (if K q < tt then tt else K q))), (w.heap.size + 1, 24, arrC (S1)), (w.heap.size, 29, vsC (V1))] W) (by kernel_rfl) (by kernel_rfl) (by kernel_rfl) (by rfl)
                            (by simp only [List.mem_cons, List.not_mem_nil, or_false, forall_eq_or_imp, forall_eq]; refine ⟨?_, ?_, ?_, ?_, ?_, ?_, ?_, ?_, ?_, ?_, ?_⟩ <;> (first | exact eqV_monoB _ _ | exact rowB_mono _ _ _ _ | exact true_monoB _))
                            (fun j W W' h hb => by rcases j with _ | j <;> first | exact (Bs.grown h hb)) (HE2.out) ?_ ?_ ?_
                          · intro i o hi ho hc j A W hj hz hMj hk he
                            simp only [List.length_cons, List.length_nil, Nat.zero_add, Nat.reduceAdd] at hi
                            obtain rfl | rfl | rfl | rfl | rfl | rfl | rfl | rfl | rfl | rfl | rfl : i = 0 ∨ i = 1 ∨ i = 2 ∨ i = 3 ∨ i = 4 ∨ i = 5 ∨ i = 6 ∨ i = 7 ∨ i = 8 ∨ i = 9 ∨ i = 10 := by omega
                            · injection ho with ho; subst ho
                              refine .inl ⟨wanted_free rfl, ?_⟩
                              have h7 : A.tmps[7]?.getD undef = .pointer (some ⟨g7, 0, none⟩) := hk 7 (by rfl)
                              go_simp
                              exact ⟨rfl, Below.refl _ _⟩
                            · obtain rfl : j = 0 := Nat.le_zero.1 hj
                              have hMs : Bs w [(g12, 26, vwC (sent)), (g9, 29, vsC (V)), (g10, 24, arrC (S)), (gx8, 26, vwC (m)), (g7, 35, taCells ⟨d, mo, (q : Int), tt, m⟩), (w.heap.size + 1 + 1, 24, arrC (K)), (w.heap.size + 1, 24, arrC (S1)), (w.heap.size, 29, vsC (V1))] W := hMj
                              injection ho with ho; subst ho
                              refine .inl ⟨wanted_free rfl, ?_⟩
                              have h163 : A.tmps[163]?.getD undef = .pointer (some ⟨g7, 2, none⟩) := he 0 (by kernel_rfl) (by rfl)
                              have c0 := (hMs.get (g := g7) (t := 35) (cs := taCells ⟨d, mo, (q : Int), tt, m⟩) (by simp)).cell 2
                              go_simp
                              exact ⟨rfl, Below.refl _ _⟩
                            · injection ho with ho; subst ho
                              refine .inl ⟨wanted_free rfl, ?_⟩
                              have h7 : A.tmps[7]?.getD undef = .pointer (some ⟨g7, 0, none⟩) := hk 7 (by rfl)
                              go_simp
                              exact ⟨rfl, Below.refl _ _⟩
                            · obtain rfl : j = 0 := Nat.le_zero.1 hj
                              have hMs : Bs w [(g12, 26, vwC (sent)), (g9, 29, vsC (V)), (g10, 24, arrC (S)), (gx8, 26, vwC (m)), (g7, 35, taCells ⟨d, mo, (q : Int), tt, m⟩), (w.heap.size + 1 + 1, 24, arrC (K)), (w.heap.size + 1, 24, arrC (S1)), (w.heap.size, 29, vsC (V1))] W := hMj
                              injection ho with ho; subst ho
                              refine .inl ⟨wanted_free rfl, ?_⟩
                              have h165 : A.tmps[165]?.getD undef = .pointer (some ⟨g7, 2, none⟩) := he 2 (by kernel_rfl) (by rfl)
                              have c0 := (hMs.get (g := g7) (t := 35) (cs := taCells ⟨d, mo, (q : Int), tt, m⟩) (by simp)).cell 2
                              go_simp
                              exact ⟨rfl, Below.refl _ _⟩
                            · injection ho with ho; subst ho
                              refine .inl ⟨wanted_free rfl, ?_⟩
                              have h5 : A.tmps[5]?.getD undef = .pointer (some ⟨w.heap.size + 1 + 1, 0, none⟩) := hk 5 (by rfl)
                              have h166 : A.tmps[166]?.getD undef = .int .i64 (q : Int) := he 3 (by kernel_rfl) (by rfl)
                              go_simp
                              exact ⟨rfl, Below.refl _ _⟩
                            · obtain rfl : j = 0 := Nat.le_zero.1 hj
                              have hMs : Bs w [(g12, 26, vwC (sent)), (g9, 29, vsC (V)), (g10, 24, arrC (S)), (gx8, 26, vwC (m)), (g7, 35, taCells ⟨d, mo, (q : Int), tt, m⟩), (w.heap.size + 1 + 1, 24, arrC (K)), (w.heap.size + 1, 24, arrC (S1)), (w.heap.size, 29, vsC (V1))] W := hMj
                              injection ho with ho; subst ho
                              refine .inl ⟨wanted_free rfl, ?_⟩
                              have h167 : A.tmps[167]?.getD undef = .pointer (some ⟨w.heap.size + 1 + 1, q, none⟩) := he 4 (by kernel_rfl) (by rfl)
                              have c0 := ((hMs.get (g := w.heap.size + 1 + 1) (t := 24) (cs := arrC (K)) (by simp)).cell q).trans (arrC_at K q HQ.out)
                              go_simp
                              exact ⟨rfl, Below.refl _ _⟩
                            · injection ho with ho; subst ho
                              refine .inl ⟨wanted_free rfl, ?_⟩
                              have h7 : A.tmps[7]?.getD undef = .pointer (some ⟨g7, 0, none⟩) := hk 7 (by rfl)
                              go_simp
                              exact ⟨rfl, Below.refl _ _⟩
                            · obtain rfl : j = 0 := Nat.le_zero.1 hj
                              have hMs : Bs w [(g12, 26, vwC (sent)), (g9, 29, vsC (V)), (g10, 24, arrC (S)), (gx8, 26, vwC (m)), (g7, 35, taCells ⟨d, mo, (q : Int), tt, m⟩), (w.heap.size + 1 + 1, 24, arrC (K)), (w.heap.size + 1, 24, arrC (S1)), (w.heap.size, 29, vsC (V1))] W := hMj
                              injection ho with ho; subst ho
                              refine .inl ⟨wanted_free rfl, ?_⟩
                              have h169 : A.tmps[169]?.getD undef = .pointer (some ⟨g7, 3, none⟩) := he 6 (by kernel_rfl) (by rfl)
                              have c0 := (hMs.get (g := g7) (t := 35) (cs := taCells ⟨d, mo, (q : Int), tt, m⟩) (by simp)).cell 3
                              go_simp
                              exact ⟨rfl, Below.refl _ _⟩
                            · obtain rfl : j = 0 := Nat.le_zero.1 hj
                              have hMs : Bs w [(g12, 26, vwC (sent)), (g9, 29, vsC (V)), (g10, 24, arrC (S)), (gx8, 26, vwC (m)), (g7, 35, taCells ⟨d, mo, (q : Int), tt, m⟩), (w.heap.size + 1 + 1, 24, arrC (K)), (w.heap.size + 1, 24, arrC (S1)), (w.heap.size, 29, vsC (V1))] W := hMj
                              injection ho with ho; subst ho
                              refine .inl ⟨wanted_free rfl, ?_⟩
                              have h168 : A.tmps[168]?.getD undef = .int .i64 (K q) := he 5 (by kernel_rfl) (by rfl)
                              have h170 : A.tmps[170]?.getD undef = .int .i64 tt := he 7 (by kernel_rfl) (by rfl)
                              have m0 := fun ts t w => run_maxI (K q) tt Try.prog ts t w
                              go_simp
                              exact ⟨rfl, Below.refl _ _⟩
                            · injection ho with ho; subst ho
                              refine .inl ⟨wanted_free rfl, ?_⟩
                              have h5 : A.tmps[5]?.getD undef = .pointer (some ⟨w.heap.size + 1 + 1, 0, none⟩) := hk 5 (by rfl)
                              have h164 : A.tmps[164]?.getD undef = .int .i64 (q : Int) := he 1 (by kernel_rfl) (by rfl)
                              go_simp
                              exact ⟨rfl, Below.refl _ _⟩
                            · exact absurd hc (by decide)
                          · intro j i o hji ho A W hz hMj hk he
                            rcases j with _ | j
                            · obtain rfl : 10 = i := Option.some.inj hji
                              injection ho with ho; subst ho
                              refine .inl ⟨wanted_free rfl, ?_⟩
                              have hMs : Bs w [(g12, 26, vwC (sent)), (g9, 29, vsC (V)), (g10, 24, arrC (S)), (gx8, 26, vwC (m)), (g7, 35, taCells ⟨d, mo, (q : Int), tt, m⟩), (w.heap.size + 1 + 1, 24, arrC (K)), (w.heap.size + 1, 24, arrC (S1)), (w.heap.size, 29, vsC (V1))] W := hMj
                              have h172 : A.tmps[172]?.getD undef = .pointer (some ⟨w.heap.size + 1 + 1, q, none⟩) := he 9 (by kernel_rfl) (by rfl)
                              have h171 : A.tmps[171]?.getD undef = .int .i64 (if K q < tt then tt else K q) := he 8 (by kernel_rfl) (by rfl)
                              exact y_storeI rfl h172 h171 (((hMs.get (g := w.heap.size + 1 + 1) (t := 24) (cs := arrC (K)) (by simp)).cell q).trans (arrC_at K q HQ.out)) ((hMs.get (g := w.heap.size + 1 + 1) (t := 24) (cs := arrC (K)) (by simp)).free q) ((HE2.out.get (g := w.heap.size + 1 + 1) (t := 24) (cs := arrC (K)) (by simp))).lt (fun _ _ => trivial) (Bs.cell (l1 := [(g12, 26, vwC (sent)), (g9, 29, vsC (V)), (g10, 24, arrC (S)), (gx8, 26, vwC (m)), (g7, 35, taCells ⟨d, mo, (q : Int), tt, m⟩)]) (l2 := [(w.heap.size + 1, 24, arrC (S1)), (w.heap.size, 29, vsC (V1))]) hMs (by omega) (by first | (simp; done) | (simp; omega)) q HQ.out (if K q < tt then tt else K q))
                            · simp at hji
                          · intro xs W hz hMe hV
                            have hMe : Bs w [(g12, 26, vwC (sent)), (g9, 29, vsC (V)), (g10, 24, arrC (S)), (gx8, 26, vwC (m)), (g7, 35, taCells ⟨d, mo, (q : Int), tt, m⟩), (w.heap.size + 1 + 1, 24, arrC (put1 K q (if K q < tt then tt else K q))), (w.heap.size + 1, 24, arrC (S1)), (w.heap.size, 29, vsC (V1))] W := hMe
                            simp only [putM, Act.put, List.setIfInBounds_toArray, List.set_cons_zero, List.set_cons_succ, Nat.zero_add, Nat.reduceAdd]
                            clear hV
                            generalize W = wm at hMe ⊢
                            have HY := Lib.hid hMe
                            clear hMe hz HE2
                            have HKN : Hid (∀ j, j < 4 → (put1 K q (if K q < tt then tt else K q)) j ≤ V1 0 j) := Lib.hid (fun j hj => by
                              have h1 := Int.le_trans (HN.out.2 j hj) (HG.out.up 0 (by omega) j (by omega))
                              unfold put1
                              by_cases e : j = q
                              · subst e
                                rw [if_pos rfl]
                                have := HTK.out
                                split <;> assumption
                              · rw [if_neg e]; exact h1)
                            have kf : ¬ V1 0 q < (put1 K q (if K q < tt then tt else K q)) q := by have := HKN.out q HQ.out; omega
                            go_upto_region 32 with (fail)
                            refine wp_flowM [some 173, some 174, some 175, some 176, some 177, some 178, some 179, some 180, some 181, some 182, some 183] [] [0, 0, 0, 0, 0, 0, 0, 0, 0, 0, 0] [eqV (.pointer (some ⟨g7, 2, none⟩)), eqV (.int .i64 (q : Int)), eqV (.pointer (some ⟨w.heap.size, 0, none⟩)), eqV (.pointer (some ⟨w.heap.size, 0, none⟩)), eqV (.pointer (some ⟨w.heap.size, q, none⟩)), eqV (.int .i64 (V1 0 q)), eqV (.pointer (some ⟨g7, 2, none⟩)), eqV (.int .i64 (q : Int)), eqV (.pointer (some ⟨w.heap.size + 1 + 1, q, none⟩)), eqV (.int .i64 ((put1 K q (if K q < tt then tt else K q)) q)), eqV (.bool false)] (fun _ W => Bs w [(g12, 26, vwC (sent)), (g9, 29, vsC (V)), (g10, 24, arrC (S)), (gx8, 26, vwC (m)), (g7, 35, taCells ⟨d, mo, (q : Int), tt, m⟩), (w.heap.size + 1 + 1, 24, arrC (put1 K q (if K q < tt then tt else K q))), (w.heap.size + 1, 24, arrC (S1)), (w.heap.size, 29, vsC (V1))] W) (by kernel_rfl) (by kernel_rfl) (by kernel_rfl) (by rfl)
                              (by simp only [List.mem_cons, List.not_mem_nil, or_false, forall_eq_or_imp, forall_eq]; refine ⟨?_, ?_, ?_, ?_, ?_, ?_, ?_, ?_, ?_, ?_, ?_⟩ <;> (first | exact eqV_monoB _ _ | exact rowB_mono _ _ _ _ | exact true_monoB _))
                              (fun j W W' h hb => by exact (Bs.grown h hb)) (HY.out) ?_ ?_ ?_
                            · intro i o hi ho hc j A W hj hz hMj hk he
                              simp only [List.length_cons, List.length_nil, Nat.zero_add, Nat.reduceAdd] at hi
                              obtain rfl | rfl | rfl | rfl | rfl | rfl | rfl | rfl | rfl | rfl | rfl : i = 0 ∨ i = 1 ∨ i = 2 ∨ i = 3 ∨ i = 4 ∨ i = 5 ∨ i = 6 ∨ i = 7 ∨ i = 8 ∨ i = 9 ∨ i = 10 := by omega
                              · injection ho with ho; subst ho
                                refine .inl ⟨wanted_free rfl, ?_⟩
                                have h7 : A.tmps[7]?.getD undef = .pointer (some ⟨g7, 0, none⟩) := hk 7 (by rfl)
                                go_simp
                                exact ⟨rfl, Below.refl _ _⟩
                              · obtain rfl : j = 0 := Nat.le_zero.1 hj
                                have hMs : Bs w [(g12, 26, vwC (sent)), (g9, 29, vsC (V)), (g10, 24, arrC (S)), (gx8, 26, vwC (m)), (g7, 35, taCells ⟨d, mo, (q : Int), tt, m⟩), (w.heap.size + 1 + 1, 24, arrC (put1 K q (if K q < tt then tt else K q))), (w.heap.size + 1, 24, arrC (S1)), (w.heap.size, 29, vsC (V1))] W := hMj
                                injection ho with ho; subst ho
                                refine .inl ⟨wanted_free rfl, ?_⟩
                                have h173 : A.tmps[173]?.getD undef = .pointer (some ⟨g7, 2, none⟩) := he 0 (by kernel_rfl) (by rfl)
                                have c0 := (hMs.get (g := g7) (t := 35) (cs := taCells ⟨d, mo, (q : Int), tt, m⟩) (by simp)).cell 2
                                go_simp
                                exact ⟨rfl, Below.refl _ _⟩
                              · injection ho with ho; subst ho
                                refine .inl ⟨wanted_free rfl, ?_⟩
                                have h3 : A.tmps[3]?.getD undef = .pointer (some ⟨w.heap.size, 0, none⟩) := hk 3 (by rfl)
                                go_simp
                                exact ⟨rfl, Below.refl _ _⟩
                              · injection ho with ho; subst ho
                                refine .inl ⟨wanted_free rfl, ?_⟩
                                have h175 : A.tmps[175]?.getD undef = .pointer (some ⟨w.heap.size, 0, none⟩) := he 2 (by kernel_rfl) (by rfl)
                                go_simp
                                exact ⟨rfl, Below.refl _ _⟩
                              · injection ho with ho; subst ho
                                refine .inl ⟨wanted_free rfl, ?_⟩
                                have h176 : A.tmps[176]?.getD undef = .pointer (some ⟨w.heap.size, 0, none⟩) := he 3 (by kernel_rfl) (by rfl)
                                have h174 : A.tmps[174]?.getD undef = .int .i64 (q : Int) := he 1 (by kernel_rfl) (by rfl)
                                go_simp
                                exact ⟨rfl, Below.refl _ _⟩
                              · obtain rfl : j = 0 := Nat.le_zero.1 hj
                                have hMs : Bs w [(g12, 26, vwC (sent)), (g9, 29, vsC (V)), (g10, 24, arrC (S)), (gx8, 26, vwC (m)), (g7, 35, taCells ⟨d, mo, (q : Int), tt, m⟩), (w.heap.size + 1 + 1, 24, arrC (put1 K q (if K q < tt then tt else K q))), (w.heap.size + 1, 24, arrC (S1)), (w.heap.size, 29, vsC (V1))] W := hMj
                                injection ho with ho; subst ho
                                refine .inl ⟨wanted_free rfl, ?_⟩
                                have h177 : A.tmps[177]?.getD undef = .pointer (some ⟨w.heap.size, q, none⟩) := he 4 (by kernel_rfl) (by rfl)
                                have c0 := ((hMs.get (g := w.heap.size) (t := 29) (cs := vsC (V1)) (by simp)).cell q).trans (vsC_at V1 0 q q (by omega) (by have := HQ.out; omega) (by omega))
                                go_simp
                                exact ⟨rfl, Below.refl _ _⟩
                              · injection ho with ho; subst ho
                                refine .inl ⟨wanted_free rfl, ?_⟩
                                have h7 : A.tmps[7]?.getD undef = .pointer (some ⟨g7, 0, none⟩) := hk 7 (by rfl)
                                go_simp
                                exact ⟨rfl, Below.refl _ _⟩
                              · obtain rfl : j = 0 := Nat.le_zero.1 hj
                                have hMs : Bs w [(g12, 26, vwC (sent)), (g9, 29, vsC (V)), (g10, 24, arrC (S)), (gx8, 26, vwC (m)), (g7, 35, taCells ⟨d, mo, (q : Int), tt, m⟩), (w.heap.size + 1 + 1, 24, arrC (put1 K q (if K q < tt then tt else K q))), (w.heap.size + 1, 24, arrC (S1)), (w.heap.size, 29, vsC (V1))] W := hMj
                                injection ho with ho; subst ho
                                refine .inl ⟨wanted_free rfl, ?_⟩
                                have h179 : A.tmps[179]?.getD undef = .pointer (some ⟨g7, 2, none⟩) := he 6 (by kernel_rfl) (by rfl)
                                have c0 := (hMs.get (g := g7) (t := 35) (cs := taCells ⟨d, mo, (q : Int), tt, m⟩) (by simp)).cell 2
                                go_simp
                                exact ⟨rfl, Below.refl _ _⟩
                              · injection ho with ho; subst ho
                                refine .inl ⟨wanted_free rfl, ?_⟩
                                have h5 : A.tmps[5]?.getD undef = .pointer (some ⟨w.heap.size + 1 + 1, 0, none⟩) := hk 5 (by rfl)
                                have h180 : A.tmps[180]?.getD undef = .int .i64 (q : Int) := he 7 (by kernel_rfl) (by rfl)
                                go_simp
                                exact ⟨rfl, Below.refl _ _⟩
                              · obtain rfl : j = 0 := Nat.le_zero.1 hj
                                have hMs : Bs w [(g12, 26, vwC (sent)), (g9, 29, vsC (V)), (g10, 24, arrC (S)), (gx8, 26, vwC (m)), (g7, 35, taCells ⟨d, mo, (q : Int), tt, m⟩), (w.heap.size + 1 + 1, 24, arrC (put1 K q (if K q < tt then tt else K q))), (w.heap.size + 1, 24, arrC (S1)), (w.heap.size, 29, vsC (V1))] W := hMj
                                injection ho with ho; subst ho
                                refine .inl ⟨wanted_free rfl, ?_⟩
                                have h181 : A.tmps[181]?.getD undef = .pointer (some ⟨w.heap.size + 1 + 1, q, none⟩) := he 8 (by kernel_rfl) (by rfl)
                                have c0 := ((hMs.get (g := w.heap.size + 1 + 1) (t := 24) (cs := arrC (put1 K q (if K q < tt then tt else K q))) (by simp)).cell q).trans (arrC_at (put1 K q (if K q < tt then tt else K q)) q HQ.out)
                                go_simp
                                exact ⟨rfl, Below.refl _ _⟩
                              · injection ho with ho; subst ho
                                refine .inl ⟨wanted_free rfl, ?_⟩
                                have h178 : A.tmps[178]?.getD undef = .int .i64 (V1 0 q) := he 5 (by kernel_rfl) (by rfl)
                                have h182 : A.tmps[182]?.getD undef = .int .i64 ((put1 K q (if K q < tt then tt else K q)) q) := he 9 (by kernel_rfl) (by rfl)
                                go_simp
                                exact ⟨rfl, Below.refl _ _⟩
                            · intro j i o hji ho A W hz hMj hk he
                              simp at hji
                            · intro xs W hz hMe hV
                              have hMe : Bs w [(g12, 26, vwC (sent)), (g9, 29, vsC (V)), (g10, 24, arrC (S)), (gx8, 26, vwC (m)), (g7, 35, taCells ⟨d, mo, (q : Int), tt, m⟩), (w.heap.size + 1 + 1, 24, arrC (put1 K q (if K q < tt then tt else K q))), (w.heap.size + 1, 24, arrC (S1)), (w.heap.size, 29, vsC (V1))] W := hMe
                              have e183 : xs 10 = .bool false := hV 10 (by simp) rfl
                              simp only [putM, Act.put, List.setIfInBounds_toArray, List.set_cons_zero, List.set_cons_succ, Nat.zero_add, Nat.reduceAdd, e183]
                              clear hV e183
                              generalize W = wn at hMe ⊢
                              have HX := Lib.hid hMe
                              clear hMe hz HY kf
                              have HF := Lib.hid (HX.out.mono (l' := [(w.heap.size + 1 + 1, 24, arrC (put1 K q (if K q < tt then tt else K q))), (w.heap.size + 1, 24, arrC (S1)), (w.heap.size, 29, vsC (V1))]) (fun p hp => List.mem_append_right [(g12, 26, vwC (sent)), (g9, 29, vsC (V)), (g10, 24, arrC (S)), (gx8, 26, vwC (m)), (g7, 35, taCells ⟨d, mo, (q : Int), tt, m⟩)] hp))
                              clear HX
                              go_wp2_with fail
                              go_roundg (l.length - (i + 1))
                              case measure => have := HL.out; omega
                              case rel => exact ⟨i + 1, V1, S1, put1 K q (if K q < tt then tt else K q), by have := HL.out; omega, rfl, by go_num, Lib.hid ⟨HF.out, HG.out.may, HKN.out⟩⟩
                    ·
                      have e1 : ((d : Int) == 1) = false := by simpa using hd1
                      clear hd1
                      refine wp_flowQ [147, 148, 149, 150, 151, 152, 153, 154, 155, 156, 157, 158, 159, 160, 161, 162] [eqV (.bool true), eqV (.bool true), eqV (.pointer (some ⟨g7, 0, none⟩)), eqV (.int .u8 d), eqV (.bool false), eqV (.bool false), eqV (.pointer (some ⟨g7, 0, none⟩)), eqV (.int .u8 d), eqV (.bool false), eqV (.bool false), eqV undef, eqV undef, eqV undef, eqV (.bool false), eqV (.bool false), eqV (.bool false)] (by kernel_rfl) (by kernel_rfl) (by kernel_rfl) (by kernel_rfl) (by rfl)
                        (by simp only [List.mem_cons, List.not_mem_nil, or_false, forall_eq_or_imp, forall_eq]; refine ⟨?_, ?_, ?_, ?_, ?_, ?_, ?_, ?_, ?_, ?_, ?_, ?_, ?_, ?_, ?_, ?_⟩ <;> (first | exact eqV_mono _ | exact rowV_mono _ _ _)) ?_ ?_
                      · intro i o hi ho A W hW hk he
                        simp only [List.length_cons, List.length_nil, Nat.zero_add, Nat.reduceAdd] at hi
                        obtain rfl | rfl | rfl | rfl | rfl | rfl | rfl | rfl | rfl | rfl | rfl | rfl | rfl | rfl | rfl | rfl : i = 0 ∨ i = 1 ∨ i = 2 ∨ i = 3 ∨ i = 4 ∨ i = 5 ∨ i = 6 ∨ i = 7 ∨ i = 8 ∨ i = 9 ∨ i = 10 ∨ i = 11 ∨ i = 12 ∨ i = 13 ∨ i = 14 ∨ i = 15 := by omega
                        · injection ho with ho; subst ho
                          refine .inl ⟨wanted_free rfl, ?_⟩
                          have h11 : A.tmps[11]?.getD undef = .bool true := hk 11 (by rfl)
                          go_simp
                          exact ⟨rfl, Below.refl _ _⟩
                        · injection ho with ho; subst ho
                          refine .inl ⟨wanted_free rfl, ?_⟩
                          have h147 : A.tmps[147]?.getD undef = .bool true := he 0 (by kernel_rfl)
                          go_simp
                          exact ⟨rfl, Below.refl _ _⟩
                        · injection ho with ho; subst ho
                          have hg : A.tmps[148]?.getD undef = .bool true := he 1 (by kernel_rfl)
                          refine .inl ⟨wanted_yes (d := 148) rfl (by kernel_rfl) hg, ?_⟩
                          have h7 : A.tmps[7]?.getD undef = .pointer (some ⟨g7, 0, none⟩) := hk 7 (by rfl)
                          go_simp
                          exact ⟨rfl, Below.refl _ _⟩
                        · injection ho with ho; subst ho
                          have hg : A.tmps[148]?.getD undef = .bool true := he 1 (by kernel_rfl)
                          refine .inl ⟨wanted_yes (d := 148) rfl (by kernel_rfl) hg, ?_⟩
                          have h149 : A.tmps[149]?.getD undef = .pointer (some ⟨g7, 0, none⟩) := he 2 (by kernel_rfl)
                          have c0 := ((HE.out.grown hW).get (g := g7) (t := 35) (cs := taCells ⟨d, mo, lc, tt, m⟩) (by simp)).cell 0
                          go_simp
                          exact ⟨rfl, Below.refl _ _⟩
                        · injection ho with ho; subst ho
                          have hg : A.tmps[148]?.getD undef = .bool true := he 1 (by kernel_rfl)
                          refine .inl ⟨wanted_yes (d := 148) rfl (by kernel_rfl) hg, ?_⟩
                          have h150 : A.tmps[150]?.getD undef = .int .u8 d := he 3 (by kernel_rfl)
                          go_simp
                          exact ⟨rfl, Below.refl _ _⟩
                        · injection ho with ho; subst ho
                          have hg : A.tmps[148]?.getD undef = .bool true := he 1 (by kernel_rfl)
                          refine .inl ⟨wanted_yes (d := 148) rfl (by kernel_rfl) hg, ?_⟩
                          have h151 : A.tmps[151]?.getD undef = .bool false := he 4 (by kernel_rfl)
                          go_simp
                          exact ⟨rfl, Below.refl _ _⟩
                        · injection ho with ho; subst ho
                          have hg : A.tmps[152]?.getD undef = .bool false := he 5 (by kernel_rfl)
                          refine .inl ⟨wanted_yes (d := 152) rfl (by kernel_rfl) hg, ?_⟩
                          have h7 : A.tmps[7]?.getD undef = .pointer (some ⟨g7, 0, none⟩) := hk 7 (by rfl)
                          go_simp
                          exact ⟨rfl, Below.refl _ _⟩
                        · injection ho with ho; subst ho
                          have hg : A.tmps[152]?.getD undef = .bool false := he 5 (by kernel_rfl)
                          refine .inl ⟨wanted_yes (d := 152) rfl (by kernel_rfl) hg, ?_⟩
                          have h153 : A.tmps[153]?.getD undef = .pointer (some ⟨g7, 0, none⟩) := he 6 (by kernel_rfl)
                          have c0 := ((HE.out.grown hW).get (g := g7) (t := 35) (cs := taCells ⟨d, mo, lc, tt, m⟩) (by simp)).cell 0
                          go_simp
                          exact ⟨rfl, Below.refl _ _⟩
                        · injection ho with ho; subst ho
                          have hg : A.tmps[152]?.getD undef = .bool false := he 5 (by kernel_rfl)
                          refine .inl ⟨wanted_yes (d := 152) rfl (by kernel_rfl) hg, ?_⟩
                          have h154 : A.tmps[154]?.getD undef = .int .u8 d := he 7 (by kernel_rfl)
                          go_simp
                          exact ⟨rfl, Below.refl _ _⟩
                        · injection ho with ho; subst ho
                          have hg : A.tmps[152]?.getD undef = .bool false := he 5 (by kernel_rfl)
                          refine .inl ⟨wanted_yes (d := 152) rfl (by kernel_rfl) hg, ?_⟩
                          have h155 : A.tmps[155]?.getD undef = .bool false := he 8 (by kernel_rfl)
                          go_simp
                          exact ⟨rfl, Below.refl _ _⟩
                        · injection ho with ho; subst ho
                          have hg : A.tmps[156]?.getD undef = .bool false := he 9 (by kernel_rfl)
                          exact .inr ⟨wanted_no (d := 156) rfl (by kernel_rfl) hg, rfl⟩
                        · injection ho with ho; subst ho
                          have hg : A.tmps[156]?.getD undef = .bool false := he 9 (by kernel_rfl)
                          exact .inr ⟨wanted_no (d := 156) rfl (by kernel_rfl) hg, rfl⟩
                        · injection ho with ho; subst ho
                          have hg : A.tmps[156]?.getD undef = .bool false := he 9 (by kernel_rfl)
                          exact .inr ⟨wanted_no (d := 156) rfl (by kernel_rfl) hg, rfl⟩
                        · injection ho with ho; subst ho
                          have hg : A.tmps[152]?.getD undef = .bool false := he 5 (by kernel_rfl)
                          refine .inl ⟨wanted_yes (d := 152) rfl (by kernel_rfl) hg, ?_⟩
                          have h156 : A.tmps[156]?.getD undef = .bool false := he 9 (by kernel_rfl)
                          have h159 : A.tmps[159]?.getD undef = undef := he 12 (by kernel_rfl)
                          go_simp
                          exact ⟨rfl, Below.refl _ _⟩
                        · injection ho with ho; subst ho
                          have hg : A.tmps[148]?.getD undef = .bool true := he 1 (by kernel_rfl)
                          refine .inl ⟨wanted_yes (d := 148) rfl (by kernel_rfl) hg, ?_⟩
                          have h152 : A.tmps[152]?.getD undef = .bool false := he 5 (by kernel_rfl)
                          have h160 : A.tmps[160]?.getD undef = .bool false := he 13 (by kernel_rfl)
                          go_simp
                          exact ⟨rfl, Below.refl _ _⟩
                        · injection ho with ho; subst ho
                          refine .inl ⟨wanted_free rfl, ?_⟩
                          have h148 : A.tmps[148]?.getD undef = .bool true := he 1 (by kernel_rfl)
                          have h161 : A.tmps[161]?.getD undef = .bool false := he 14 (by kernel_rfl)
                          go_simp
                          exact ⟨rfl, Below.refl _ _⟩
                      · intro xs W hW hV
                        have e162 : xs 15 = .bool false := hV 15 (by simp)
                        simp only [List.length_cons, List.length_nil, Nat.zero_add, Nat.reduceAdd, List.drop_succ_cons, List.drop_zero, putL, Act.put, List.setIfInBounds_toArray, List.set_cons_zero, List.set_cons_succ, e162]
                        clear hV e162
                        have HE2 := Lib.hid (HE.out.grown hW)
                        clear hW HE
                        clear e1 hd2
                        have HF := Lib.hid (HE2.out.mono (l' := [(w.heap.size + 1 + 1, 24, arrC (K)), (w.heap.size + 1, 24, arrC (S1)), (w.heap.size, 29, vsC (V1))]) (fun p hp => List.mem_append_right [(g12, 26, vwC (sent)), (g9, 29, vsC (V)), (g10, 24, arrC (S)), (gx8, 26, vwC (m)), (g7, 35, taCells ⟨d, mo, lc, tt, m⟩)] hp))
                        clear HE2
                        go_wp2_with fail
                        go_roundg (l.length - (i + 1))
                        case measure => have := HL.out; omega
                        case rel => exact ⟨i + 1, V1, S1, K, by have := HL.out; omega, rfl, by go_num, Lib.hid ⟨HF.out, HG.out.may, fun j hj => Int.le_trans (HN.out.2 j hj) (HG.out.up 0 (by omega) j (by omega))⟩⟩
end Go.Proofs.Ytanbkclomjbokaa.Tvw
