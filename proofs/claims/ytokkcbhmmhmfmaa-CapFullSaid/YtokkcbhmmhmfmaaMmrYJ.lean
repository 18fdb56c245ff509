/- Layer 11 (memory): the law's Same: a memory beside the document's. -/
import Derived.Test.YtokkcbhmmhmfmaaMmrYC
import Derived.Test.YtokkcbhmmhmfmaaMmrYE
namespace Go.Proofs.Ytokkcbhmmhmfmaa.Mmr
open Go.RowKit Go.Proofs.Ytokkcbhmmhmfmaa.Mem Go.Proofs.Ytokkcbhmmhmfmaa.Flow

theorem zeroX_it : itCells zeroX = zeroIt := by simp only [itCells, zeroX, fw_0]; rfl
theorem zeroX_may : MayX zeroX := by decide
theorem len_split : ∀ (l : List It), (∀ y ∈ l, 0 ≤ y.loc ∧ y.loc < 4) → l.length = (atL l 0).length + (atL l 1).length + (atL l 2).length + (atL l 3).length
  | [], _ => rfl
  | x :: l, h => by
    have ih := len_split l fun y hy => h y (List.mem_cons_of_mem _ hy)
    have hx := h x List.mem_cons_self
    obtain e | e | e | e : x.loc = 0 ∨ x.loc = 1 ∨ x.loc = 2 ∨ x.loc = 3 := by omega
    all_goals
      simp only [atL, List.filter_cons, List.length_cons, e] at ih ⊢
      simp at ih ⊢
      omega
theorem Rep.len {m : Mm} {w : Dm} (h : Rep m w) : w.l.length ≤ 160 := by
  have h4 := h.ok.most
  rw [len_split w.l fun y hy => by have := h.loc y hy; omega]
  have one : ∀ i : Nat, (atL w.l (i : Nat)).length ≤ 40 := fun i => by
    by_cases hi : i < m.n
    · rw [← (h.same i hi).length_eq]; exact h.ok.few i
    · rw [h.out (by rw [← Bool.not_eq_true, has_iff]; omega)]; simp
  have e0 : (atL w.l 0).length ≤ 40 := one 0
  have e1 : (atL w.l 1).length ≤ 40 := one 1
  have e2 : (atL w.l 2).length ≤ 40 := one 2
  have e3 : (atL w.l 3).length ≤ 40 := one 3
  omega
theorem last_may {m : Mm} (hO : OkM m) (loc : Int) : MayX ((lastF m loc fun _ => true).getD zeroX) := by
  cases h : lastF m loc fun _ => true with
  | none => exact zeroX_may
  | some x =>
    show MayX x
    unfold lastF at h
    split at h
    · have := List.mem_of_find?_eq_some h
      rw [List.mem_reverse] at this
      exact hO.may _ _ this
    · cases h
theorem owned_mem {m : Mm} (hO : OkM m) {owner : Int} {x : It} (h : x ∈ ownedF m owner) : MayX x := by
  unfold ownedF at h
  obtain ⟨i, _, hx⟩ := List.mem_flatMap.1 (List.mem_filter.1 h).1
  exact hO.may _ _ hx
theorem last_any' (p : Nat → Option Addr) (c : Nat → Nat) (m : Mm) (hO : OkM m) (loc : Int) (w : World) (hH : Hold w p c m) :
    Calls Try.prog 36 #[memV p c m, .int .i64 loc] w (Made (.returned (.tuple #[itV ((lastF m loc fun _ => true).getD zeroX), .bool (lastF m loc fun _ => true).isSome])) w) := by
  have h := lastof_any p c m hO loc w hH
  unfold GivesI at h
  rw [show itO (lastF m loc fun _ => true) = itV ((lastF m loc fun _ => true).getD zeroX) by
    cases lastF m loc fun _ => true with
    | none => show Value.agg zeroIt = .agg (itCells zeroX); rw [zeroX_it]
    | some x => rfl] at h
  exact h
theorem dlast_any' (q : Option Addr) (c : Nat) (m : Dm) (hn : m.l.length ≤ 1000) (loc : Int) (w : World) (hH : HoldD w q c m) :
    Calls Try.prog 51 #[dmV q c m, .int .i64 loc] w (Made (.returned (.tuple #[rtV ((dLast m loc).getD zeroX), .bool (dLast m loc).isSome])) w) := by
  have h := dlast_any q c m hn loc w hH
  unfold GivesD at h
  rw [show rtO (dLast m loc) = rtV ((dLast m loc).getD zeroX) by cases dLast m loc <;> rfl] at h
  exact h
def rtsW (l : List It) : Value → World → Prop := fun u W => ∃ r d, Rts W r l ∧ u = .slice r l.length d
theorem rtsW_mono (l : List It) : Mono (rtsW l) := fun _ _ _ ⟨p, c, h, e⟩ hb => ⟨p, c, h.below hb, e⟩
theorem itm_any {x : It} (h : MayX x) (W : World) : Calls Try.prog 16 #[rtV x] W (Made (.returned (itV x)) W) := by
  have := item_any x (may_rng h) W
  rwa [law_may h] at this
structure DSm (w : World) (p : Nat → Option Addr) (c : Nat → Nat) (m : Mm) (q : Option Addr) (d : Nat) (dm : Dm) (W : World) : Prop where
  at2 : Sits W w.heap.size 31 (memCells p c m)
  at3 : Sits W (w.heap.size + 1) 37 (dmCells q d dm)
  hold : Hold W p c m
  holdD : HoldD W q d dm
  low : Below w.heap.size w W
theorem DSm.grown {w W W' : World} {p : Nat → Option Addr} {c : Nat → Nat} {m : Mm} {q : Option Addr} {d : Nat} {dm : Dm} (h : DSm w p c m q d dm W) (hb : Below W.heap.size W W') : DSm w p c m q d dm W' :=
  ⟨h.at2.below hb h.at2.lt, h.at3.below hb h.at3.lt, h.hold.below hb, h.holdD.below hb, h.low.trans (hb.mono h.low.size)⟩
set_option maxRecDepth 100000 in
set_option maxHeartbeats 4000000 in
theorem same_any (p : Nat → Option Addr) (c : Nat → Nat) (m : Mm) (q : Option Addr) (d : Nat) (dm : Dm) (hR : Rep m dm) (w : World) (hH : Hold w p c m) (hD : HoldD w q d dm) :
    Calls Try.prog 18 #[memV p c m, dmV q d dm] w (Made (.returned (.bool true)) w) := by
  have H0 : Hid (DSm w p c m q d dm ((w.alloc (.cells (memCells p c m) 31)).alloc (.cells (dmCells q d dm) 37))) := Lib.hid
    ⟨(Sits.new _ _ _).alloc _, Sits.made (by simp) _ _, hH.below (two_low _ _ _), hD.below (two_low _ _ _), two_low _ _ _⟩
  have HR := Lib.hid hR
  clear hH hD hR
  have HN : Hid (dm.l.length ≤ 1000) := Lib.hid (by have := HR.out.len; omega)
  have kn : ((m.n : Int) != (dm.n : Int)) = false := by rw [HR.out.n]; simp
  go_enter Try.func18, Try.ntmps18
  go_upto_region 1 with (fail)
  generalize ((w.alloc (.cells (memCells p c m) 31)).alloc (.cells (dmCells q d dm) 37)) = w0 at H0 ⊢
  refine wp_flowG [10, 11, 12, 13] [eqV (.agg #[.slice (p 0) (m.row 0).length (c 0), .slice (p 1) (m.row 1).length (c 1), .slice (p 2) (m.row 2).length (c 2), .slice (p 3) (m.row 3).length (c 3), .int .i64 (m.n : Nat)]), eqV (.int .i64 (m.n : Nat)), eqV (.pointer (some ⟨w.heap.size + 1, 0, none⟩)), eqV (.int .i64 (dm.n : Nat))] (by kernel_rfl) (by kernel_rfl) (by kernel_rfl) (by kernel_rfl) (by rfl)
    (by simp only [List.mem_cons, List.not_mem_nil, or_false, forall_eq_or_imp, forall_eq]; refine ⟨?_, ?_, ?_, ?_⟩ <;> (first | exact eqV_mono _ | exact memE_mono _ _ | exact memW_mono _ | exact listW_mono _ | exact rtsW_mono _ | exact dmE_mono _ _)) ?_ ?_
  · intro i o hi ho A W hW hk he
    simp only [List.length_cons, List.length_nil, Nat.zero_add, Nat.reduceAdd] at hi
    obtain rfl | rfl | rfl | rfl : i = 0 ∨ i = 1 ∨ i = 2 ∨ i = 3 := by omega
    · injection ho with ho; subst ho
      refine .inl ⟨wanted_free rfl, ?_⟩
      have h2 : A.tmps[2]?.getD undef = .pointer (some ⟨w.heap.size, 0, none⟩) := hk 2 (by rfl)
      have c0 := ((H0.out.grown hW).at2).cell 0
      have c1 := ((H0.out.grown hW).at2).cell 1
      have c2 := ((H0.out.grown hW).at2).cell 2
      have c3 := ((H0.out.grown hW).at2).cell 3
      have c4 := ((H0.out.grown hW).at2).cell 4
      go_simp
      exact ⟨rfl, Below.refl _ _⟩
    · injection ho with ho; subst ho
      refine .inl ⟨wanted_free rfl, ?_⟩
      have h10 : A.tmps[10]?.getD undef = .agg #[.slice (p 0) (m.row 0).length (c 0), .slice (p 1) (m.row 1).length (c 1), .slice (p 2) (m.row 2).length (c 2), .slice (p 3) (m.row 3).length (c 3), .int .i64 (m.n : Nat)] := he 0 (by kernel_rfl)
      go_simp
      refine Calls.mono (locs_any p c m W) ?_
      rintro e' w' ⟨rfl, hb⟩
      exact ⟨_, rfl, rfl, hb⟩
    · injection ho with ho; subst ho
      refine .inl ⟨wanted_free rfl, ?_⟩
      have h3 : A.tmps[3]?.getD undef = .pointer (some ⟨w.heap.size + 1, 0, none⟩) := hk 3 (by rfl)
      go_simp
      exact ⟨rfl, Below.refl _ _⟩
    · injection ho with ho; subst ho
      refine .inl ⟨wanted_free rfl, ?_⟩
      have h12 : A.tmps[12]?.getD undef = .pointer (some ⟨w.heap.size + 1, 0, none⟩) := he 2 (by kernel_rfl)
      have c0 := ((H0.out.grown hW).at3).cell 0
      go_simp
      exact ⟨rfl, Below.refl _ _⟩
  · intro xs W hW hV
    have e11 : xs 1 = .int .i64 (m.n : Nat) := hV 1 (by simp)
    have e13 : xs 3 = .int .i64 (dm.n : Nat) := hV 3 (by simp)
    simp only [List.length_cons, List.length_nil, Nat.zero_add, Nat.reduceAdd, List.drop_succ_cons, List.drop_zero, putL, Act.put, List.setIfInBounds_toArray, List.set_cons_zero, List.set_cons_succ, e11, e13]
    clear hV e11 e13
    have H1 := Lib.hid (H0.out.grown hW)
    clear hW H0
    rename_i w1
    go_wp2_with fail
    refine wp_loop_ghost_k (fun n A W => ∃ k : Nat, k ≤ 6 ∧ n = 6 - k ∧ Fr 63 [(2, .pointer (some ⟨w.heap.size, 0, none⟩)), (3, .pointer (some ⟨w.heap.size + 1, 0, none⟩)), (5, .int .i64 ((k : Int) - 1))] A ∧ DSm w p c m q d dm W) 6 ?_ ?_
    · exact ⟨0, by omega, by omega, ⟨rfl, rfl, by simp only [List.mem_cons, List.not_mem_nil, or_false, forall_eq_or_imp, forall_eq]; exact ⟨rfl, rfl, rfl⟩⟩, H1.out⟩
    · rintro n ⟨T, D⟩ wr ⟨k, hk, rfl, hF, hW⟩ J K hJ hK
      obtain ⟨hsz, hdf, hat⟩ := hF
      simp only [List.mem_cons, List.not_mem_nil, or_false, forall_eq_or_imp, forall_eq] at hsz hdf hat
      obtain ⟨q0, q1, q2⟩ := hat
      subst hdf
      have hsp := spread T 63 hsz
      simp only [List.range, List.range.loop, List.map_cons, List.map_nil, q0, q1, q2] at hsp
      rw [hsp]
      clear hsp hsz q0 q1 q2
      have HW := Lib.hid hW
      clear hW H1
      by_cases hlt : k < 6
      · have j1 : (k : Int) - 1 < 5 := by omega
        have HK := Lib.hid hlt
        clear hlt hk
        have HC := Lib.hid (last_any' p c m HR.out.ok ((k : Int) - 1) wr HW.out.hold)
        have HCD := Lib.hid (fun W => dlast_any' q d dm HN.out ((k : Int) - 1) W)
        have HX := Lib.hid (last_may HR.out.ok ((k : Int) - 1))
        have HL := Lib.hid (fun W => dlist_any q d dm HN.out ((k : Int) - 1) W)
        have HO := Lib.hid (fun W => downs_any q d dm HN.out (by rw [HR.out.n]; exact HR.out.ok.most) ((k : Int) - 1) W)
        rw [rep_last HR.out] at HCD
        rw [rep_list HR.out] at HL
        rw [rep_owned HR.out] at HO
        generalize (lastF m ((k : Int) - 1) fun _ => true).getD zeroX = x at HC HCD HX
        generalize (lastF m ((k : Int) - 1) fun _ => true).isSome = b at HC HCD
        have lb := (HW.out.at2).lt
        have b0 : wr.cell? ⟨w.heap.size, 0, none⟩ = some (.slice (p 0) (m.row 0).length (c 0)) := (HW.out.at2).cell 0
        have b1 : wr.cell? ⟨w.heap.size, 1, none⟩ = some (.slice (p 1) (m.row 1).length (c 1)) := (HW.out.at2).cell 1
        have b2 : wr.cell? ⟨w.heap.size, 2, none⟩ = some (.slice (p 2) (m.row 2).length (c 2)) := (HW.out.at2).cell 2
        have b3 : wr.cell? ⟨w.heap.size, 3, none⟩ = some (.slice (p 3) (m.row 3).length (c 3)) := (HW.out.at2).cell 3
        have b4 : wr.cell? ⟨w.heap.size, 4, none⟩ = some (.int .i64 (m.n : Nat)) := (HW.out.at2).cell 4
        go_wp2_with fail
        refine HC.out.mono ?_
        rintro e w1 ⟨rfl, hb⟩
        have HW1 := Lib.hid (HW.out.grown hb)
        clear hb HC HW
        clear lb b0 b1 b2 b3 b4
        go_upto_region 7 with (fail)
        have S6 := Lib.hid (Sits.new w1 57 (itCells x))
        have HW2 := Lib.hid (HW1.out.grown (one_low w1 (.cells (itCells x) 57)))
        generalize w1.alloc (.cells (itCells x) 57) = w2 at S6 HW2 ⊢
        generalize w1.heap.size = g6 at S6 ⊢
        clear HW1
        have lb := (HW2.out.at3).lt
        have b0 : w2.cell? ⟨w.heap.size + 1, 0, none⟩ = some (.int .i64 (dm.n : Nat)) := (HW2.out.at3).cell 0
        have b1 : w2.cell? ⟨w.heap.size + 1, 1, none⟩ = some (.slice q dm.l.length d) := (HW2.out.at3).cell 1
        go_wp2_with fail
        refine (HCD.out _ HW2.out.holdD).mono ?_
        rintro e w3 ⟨rfl, hb⟩
        have HW3 := Lib.hid (HW2.out.grown hb)
        have S6b := Lib.hid (S6.out.below hb S6.out.lt)
        clear hb HCD HW2 S6
        clear lb b0 b1
        go_upto_region 8 with (fail)
        have S8 := Lib.hid (Sits.new w3 47 (rtCells x))
        have HW4 := Lib.hid (HW3.out.grown (one_low w3 (.cells (rtCells x) 47)))
        have S6c := Lib.hid (S6b.out.alloc (.cells (rtCells x) 47))
        generalize w3.alloc (.cells (rtCells x) 47) = w4 at S6c S8 HW4 ⊢
        generalize w3.heap.size = g8 at S8 ⊢
        clear HW3 S6b
        have hq : ∀ W, (binOp .neq 57 (itV x) (itV x)).run Try.prog W = .ok (.bool false) W := fun W => by rw [neq_it x x (fit_may HX.out) (fit_may HX.out), same_self]; rfl
        have hgd := fun u v W => guard_it .neq u v x x W
        have HCI : Hid (∀ W, Calls Try.prog 16 #[rtV x] W (Made (.returned (itV x)) W)) := Lib.hid fun W => itm_any HX.out W
        have hwr := IntWalk.i64_in ((k : Int) - 1 + 1) (by have := HK.out; omega)
        have e5 : (k : Int) = ((k + 1 : Nat) : Int) - 1 := by omega
        have HE5 := Lib.hid e5
        clear e5
        cases b
        · refine wp_flowG [31, 32, 33, 34, 35, 36, 37, 38, 39, 40, 41, 42, 43, 44, 45, 46, 47, 48, 49, 50, 51, 52, 53, 54, 55, 56, 57, 58, 59, 60, 61] [eqV (.agg #[.slice (p 0) (m.row 0).length (c 0), .slice (p 1) (m.row 1).length (c 1), .slice (p 2) (m.row 2).length (c 2), .slice (p 3) (m.row 3).length (c 3), .int .i64 (m.n : Nat)]), eqV (.int .i64 ((k : Int) - 1)), listW (listF m ((k : Int) - 1)), eqV (.agg #[.int .i64 (dm.n : Nat), .slice q dm.l.length d]), eqV (.int .i64 ((k : Int) - 1)), rtsW (listF m ((k : Int) - 1)), eqV (.bool true), eqV (.bool false), eqV (.bool false), eqV (.agg #[.slice (p 0) (m.row 0).length (c 0), .slice (p 1) (m.row 1).length (c 1), .slice (p 2) (m.row 2).length (c 2), .slice (p 3) (m.row 3).length (c 3), .int .i64 (m.n : Nat)]), eqV (.int .i64 ((k : Int) - 1)), listW (ownedF m ((k : Int) - 1)), eqV (.agg #[.int .i64 (dm.n : Nat), .slice q dm.l.length d]), eqV (.int .i64 ((k : Int) - 1)), rtsW (ownedF m ((k : Int) - 1)), eqV (.bool true), eqV (.bool false), eqV (.bool false), eqV (.bool false), eqV (.bool false), eqV (.bool false), eqV (.bool false), eqV (.bool false), eqV (.bool false), eqV (.bool false), eqV (.bool false), eqV undef, eqV undef, eqV undef, eqV undef, eqV (.bool false)] (by kernel_rfl) (by kernel_rfl) (by kernel_rfl) (by kernel_rfl) (by rfl)
            (by simp only [List.mem_cons, List.not_mem_nil, or_false, forall_eq_or_imp, forall_eq]; refine ⟨?_, ?_, ?_, ?_, ?_, ?_, ?_, ?_, ?_, ?_, ?_, ?_, ?_, ?_, ?_, ?_, ?_, ?_, ?_, ?_, ?_, ?_, ?_, ?_, ?_, ?_, ?_, ?_, ?_, ?_, ?_⟩ <;> (first | exact eqV_mono _ | exact memE_mono _ _ | exact memW_mono _ | exact listW_mono _ | exact rtsW_mono _ | exact dmE_mono _ _)) ?_ ?_
          · intro i o hi ho A W hW hk he
            simp only [List.length_cons, List.length_nil, Nat.zero_add, Nat.reduceAdd] at hi
            obtain rfl | rfl | rfl | rfl | rfl | rfl | rfl | rfl | rfl | rfl | rfl | rfl | rfl | rfl | rfl | rfl | rfl | rfl | rfl | rfl | rfl | rfl | rfl | rfl | rfl | rfl | rfl | rfl | rfl | rfl | rfl : i = 0 ∨ i = 1 ∨ i = 2 ∨ i = 3 ∨ i = 4 ∨ i = 5 ∨ i = 6 ∨ i = 7 ∨ i = 8 ∨ i = 9 ∨ i = 10 ∨ i = 11 ∨ i = 12 ∨ i = 13 ∨ i = 14 ∨ i = 15 ∨ i = 16 ∨ i = 17 ∨ i = 18 ∨ i = 19 ∨ i = 20 ∨ i = 21 ∨ i = 22 ∨ i = 23 ∨ i = 24 ∨ i = 25 ∨ i = 26 ∨ i = 27 ∨ i = 28 ∨ i = 29 ∨ i = 30 := by omega
            · injection ho with ho; subst ho
              refine .inl ⟨wanted_free rfl, ?_⟩
              have h2 : A.tmps[2]?.getD undef = .pointer (some ⟨w.heap.size, 0, none⟩) := hk 2 (by rfl)
              have c0 := ((HW4.out.grown hW).at2).cell 0
              have c1 := ((HW4.out.grown hW).at2).cell 1
              have c2 := ((HW4.out.grown hW).at2).cell 2
              have c3 := ((HW4.out.grown hW).at2).cell 3
              have c4 := ((HW4.out.grown hW).at2).cell 4
              go_simp
              exact ⟨rfl, Below.refl _ _⟩
            · injection ho with ho; subst ho
              refine .inl ⟨wanted_free rfl, ?_⟩
              have h5 : A.tmps[5]?.getD undef = .int .i64 ((k : Int) - 1) := hk 5 (by rfl)
              go_simp
              exact ⟨rfl, Below.refl _ _⟩
            · injection ho with ho; subst ho
              refine .inl ⟨wanted_free rfl, ?_⟩
              have h31 : A.tmps[31]?.getD undef = .agg #[.slice (p 0) (m.row 0).length (c 0), .slice (p 1) (m.row 1).length (c 1), .slice (p 2) (m.row 2).length (c 2), .slice (p 3) (m.row 3).length (c 3), .int .i64 (m.n : Nat)] := he 0 (by kernel_rfl)
              have h32 : A.tmps[32]?.getD undef = .int .i64 ((k : Int) - 1) := he 1 (by kernel_rfl)
              go_simp
              refine Calls.mono (list_any p c m HR.out.ok ((k : Int) - 1) W (HW4.out.grown hW).hold) ?_
              rintro e' w' ⟨r2, d2, rfl, hh, hb⟩
              exact ⟨_, rfl, ⟨r2, d2, hh, rfl⟩, hb⟩
            · injection ho with ho; subst ho
              refine .inl ⟨wanted_free rfl, ?_⟩
              have h3 : A.tmps[3]?.getD undef = .pointer (some ⟨w.heap.size + 1, 0, none⟩) := hk 3 (by rfl)
              have c0 := ((HW4.out.grown hW).at3).cell 0
              have c1 := ((HW4.out.grown hW).at3).cell 1
              go_simp
              exact ⟨rfl, Below.refl _ _⟩
            · injection ho with ho; subst ho
              refine .inl ⟨wanted_free rfl, ?_⟩
              have h5 : A.tmps[5]?.getD undef = .int .i64 ((k : Int) - 1) := hk 5 (by rfl)
              go_simp
              exact ⟨rfl, Below.refl _ _⟩
            · injection ho with ho; subst ho
              refine .inl ⟨wanted_free rfl, ?_⟩
              have h34 : A.tmps[34]?.getD undef = .agg #[.int .i64 (dm.n : Nat), .slice q dm.l.length d] := he 3 (by kernel_rfl)
              have h35 : A.tmps[35]?.getD undef = .int .i64 ((k : Int) - 1) := he 4 (by kernel_rfl)
              go_simp
              refine Calls.mono (HL.out W (HW4.out.grown hW).holdD) ?_
              rintro e' w' ⟨r2, d2, rfl, hh, hb, _⟩
              exact ⟨_, rfl, ⟨r2, d2, hh, rfl⟩, hb⟩
            · injection ho with ho; subst ho
              refine .inl ⟨wanted_free rfl, ?_⟩
              obtain ⟨r33, d33, H33, h33⟩ : listW (listF m ((k : Int) - 1)) (A.tmps[33]?.getD undef) W := he 2 (by kernel_rfl)
              obtain ⟨r36, d36, H36, h36⟩ : rtsW (listF m ((k : Int) - 1)) (A.tmps[36]?.getD undef) W := he 5 (by kernel_rfl)
              go_simp
              refine Calls.mono (items_any (listF m ((k : Int) - 1)) (by have := list_few HR.out.ok ((k : Int) - 1); omega) (fun x hx => list_mem HR.out.ok hx) r33 r36 d33 d36 W H33 H36) ?_
              rintro e' w' ⟨rfl, hb⟩
              exact ⟨_, rfl, rfl, hb⟩
            · injection ho with ho; subst ho
              refine .inl ⟨wanted_free rfl, ?_⟩
              have h37 : A.tmps[37]?.getD undef = .bool true := he 6 (by kernel_rfl)
              go_simp
              exact ⟨rfl, Below.refl _ _⟩
            · injection ho with ho; subst ho
              refine .inl ⟨wanted_free rfl, ?_⟩
              have h38 : A.tmps[38]?.getD undef = .bool false := he 7 (by kernel_rfl)
              go_simp
              exact ⟨rfl, Below.refl _ _⟩
            · injection ho with ho; subst ho
              have hg : A.tmps[39]?.getD undef = .bool false := he 8 (by kernel_rfl)
              refine .inl ⟨wanted_yes (d := 39) rfl (by kernel_rfl) hg, ?_⟩
              have h2 : A.tmps[2]?.getD undef = .pointer (some ⟨w.heap.size, 0, none⟩) := hk 2 (by rfl)
              have c0 := ((HW4.out.grown hW).at2).cell 0
              have c1 := ((HW4.out.grown hW).at2).cell 1
              have c2 := ((HW4.out.grown hW).at2).cell 2
              have c3 := ((HW4.out.grown hW).at2).cell 3
              have c4 := ((HW4.out.grown hW).at2).cell 4
              go_simp
              exact ⟨rfl, Below.refl _ _⟩
            · injection ho with ho; subst ho
              have hg : A.tmps[39]?.getD undef = .bool false := he 8 (by kernel_rfl)
              refine .inl ⟨wanted_yes (d := 39) rfl (by kernel_rfl) hg, ?_⟩
              have h5 : A.tmps[5]?.getD undef = .int .i64 ((k : Int) - 1) := hk 5 (by rfl)
              go_simp
              exact ⟨rfl, Below.refl _ _⟩
            · injection ho with ho; subst ho
              have hg : A.tmps[39]?.getD undef = .bool false := he 8 (by kernel_rfl)
              refine .inl ⟨wanted_yes (d := 39) rfl (by kernel_rfl) hg, ?_⟩
              have h40 : A.tmps[40]?.getD undef = .agg #[.slice (p 0) (m.row 0).length (c 0), .slice (p 1) (m.row 1).length (c 1), .slice (p 2) (m.row 2).length (c 2), .slice (p 3) (m.row 3).length (c 3), .int .i64 (m.n : Nat)] := he 9 (by kernel_rfl)
              have h41 : A.tmps[41]?.getD undef = .int .i64 ((k : Int) - 1) := he 10 (by kernel_rfl)
              go_simp
              refine Calls.mono (owned_any p c m HR.out.ok.few ((k : Int) - 1) W (HW4.out.grown hW).hold) ?_
              rintro e' w' ⟨r2, d2, rfl, hh, hb⟩
              exact ⟨_, rfl, ⟨r2, d2, hh, rfl⟩, hb⟩
            · injection ho with ho; subst ho
              have hg : A.tmps[39]?.getD undef = .bool false := he 8 (by kernel_rfl)
              refine .inl ⟨wanted_yes (d := 39) rfl (by kernel_rfl) hg, ?_⟩
              have h3 : A.tmps[3]?.getD undef = .pointer (some ⟨w.heap.size + 1, 0, none⟩) := hk 3 (by rfl)
              have c0 := ((HW4.out.grown hW).at3).cell 0
              have c1 := ((HW4.out.grown hW).at3).cell 1
              go_simp
              exact ⟨rfl, Below.refl _ _⟩
            · injection ho with ho; subst ho
              have hg : A.tmps[39]?.getD undef = .bool false := he 8 (by kernel_rfl)
              refine .inl ⟨wanted_yes (d := 39) rfl (by kernel_rfl) hg, ?_⟩
              have h5 : A.tmps[5]?.getD undef = .int .i64 ((k : Int) - 1) := hk 5 (by rfl)
              go_simp
              exact ⟨rfl, Below.refl _ _⟩
            · injection ho with ho; subst ho
              have hg : A.tmps[39]?.getD undef = .bool false := he 8 (by kernel_rfl)
              refine .inl ⟨wanted_yes (d := 39) rfl (by kernel_rfl) hg, ?_⟩
              have h43 : A.tmps[43]?.getD undef = .agg #[.int .i64 (dm.n : Nat), .slice q dm.l.length d] := he 12 (by kernel_rfl)
              have h44 : A.tmps[44]?.getD undef = .int .i64 ((k : Int) - 1) := he 13 (by kernel_rfl)
              go_simp
              refine Calls.mono (HO.out W (HW4.out.grown hW).holdD) ?_
              rintro e' w' ⟨r2, d2, rfl, hh, hb, _⟩
              exact ⟨_, rfl, ⟨r2, d2, hh, rfl⟩, hb⟩
            · injection ho with ho; subst ho
              have hg : A.tmps[39]?.getD undef = .bool false := he 8 (by kernel_rfl)
              refine .inl ⟨wanted_yes (d := 39) rfl (by kernel_rfl) hg, ?_⟩
              obtain ⟨r42, d42, H42, h42⟩ : listW (ownedF m ((k : Int) - 1)) (A.tmps[42]?.getD undef) W := he 11 (by kernel_rfl)
              obtain ⟨r45, d45, H45, h45⟩ : rtsW (ownedF m ((k : Int) - 1)) (A.tmps[45]?.getD undef) W := he 14 (by kernel_rfl)
              go_simp
              refine Calls.mono (items_any (ownedF m ((k : Int) - 1)) (by have := owned_few HR.out.ok ((k : Int) - 1); omega) (fun x hx => owned_mem HR.out.ok hx) r42 r45 d42 d45 W H42 H45) ?_
              rintro e' w' ⟨rfl, hb⟩
              exact ⟨_, rfl, rfl, hb⟩
            · injection ho with ho; subst ho
              have hg : A.tmps[39]?.getD undef = .bool false := he 8 (by kernel_rfl)
              refine .inl ⟨wanted_yes (d := 39) rfl (by kernel_rfl) hg, ?_⟩
              have h46 : A.tmps[46]?.getD undef = .bool true := he 15 (by kernel_rfl)
              go_simp
              exact ⟨rfl, Below.refl _ _⟩
            · injection ho with ho; subst ho
              refine .inl ⟨wanted_free rfl, ?_⟩
              have h39 : A.tmps[39]?.getD undef = .bool false := he 8 (by kernel_rfl)
              have h47 : A.tmps[47]?.getD undef = .bool false := he 16 (by kernel_rfl)
              go_simp
              exact ⟨rfl, Below.refl _ _⟩
            · injection ho with ho; subst ho
              refine .inl ⟨wanted_free rfl, ?_⟩
              have h48 : A.tmps[48]?.getD undef = .bool false := he 17 (by kernel_rfl)
              go_simp
              exact ⟨rfl, Below.refl _ _⟩
            · injection ho with ho; subst ho
              have hg : A.tmps[49]?.getD undef = .bool false := he 18 (by kernel_rfl)
              refine .inl ⟨wanted_yes (d := 49) rfl (by kernel_rfl) hg, ?_⟩
              have h7 : A.tmps[7]?.getD undef = .bool false := hk 7 (by rfl)
              go_simp
              exact ⟨rfl, Below.refl _ _⟩
            · injection ho with ho; subst ho
              have hg : A.tmps[49]?.getD undef = .bool false := he 18 (by kernel_rfl)
              refine .inl ⟨wanted_yes (d := 49) rfl (by kernel_rfl) hg, ?_⟩
              have h9 : A.tmps[9]?.getD undef = .bool false := hk 9 (by rfl)
              go_simp
              exact ⟨rfl, Below.refl _ _⟩
            · injection ho with ho; subst ho
              have hg : A.tmps[49]?.getD undef = .bool false := he 18 (by kernel_rfl)
              refine .inl ⟨wanted_yes (d := 49) rfl (by kernel_rfl) hg, ?_⟩
              have h50 : A.tmps[50]?.getD undef = .bool false := he 19 (by kernel_rfl)
              have h51 : A.tmps[51]?.getD undef = .bool false := he 20 (by kernel_rfl)
              go_simp
              exact ⟨rfl, Below.refl _ _⟩
            · injection ho with ho; subst ho
              refine .inl ⟨wanted_free rfl, ?_⟩
              have h49 : A.tmps[49]?.getD undef = .bool false := he 18 (by kernel_rfl)
              have h52 : A.tmps[52]?.getD undef = .bool false := he 21 (by kernel_rfl)
              go_simp
              exact ⟨rfl, Below.refl _ _⟩
            · injection ho with ho; subst ho
              refine .inl ⟨wanted_free rfl, ?_⟩
              have h53 : A.tmps[53]?.getD undef = .bool false := he 22 (by kernel_rfl)
              go_simp
              exact ⟨rfl, Below.refl _ _⟩
            · injection ho with ho; subst ho
              have hg : A.tmps[54]?.getD undef = .bool false := he 23 (by kernel_rfl)
              refine .inl ⟨wanted_yes (d := 54) rfl (by kernel_rfl) hg, ?_⟩
              have h7 : A.tmps[7]?.getD undef = .bool false := hk 7 (by rfl)
              go_simp
              exact ⟨rfl, Below.refl _ _⟩
            · injection ho with ho; subst ho
              have hg : A.tmps[54]?.getD undef = .bool false := he 23 (by kernel_rfl)
              refine .inl ⟨wanted_yes (d := 54) rfl (by kernel_rfl) hg, ?_⟩
              have h55 : A.tmps[55]?.getD undef = .bool false := he 24 (by kernel_rfl)
              go_simp
              exact ⟨rfl, Below.refl _ _⟩
            · injection ho with ho; subst ho
              have hg : A.tmps[56]?.getD undef = .bool false := he 25 (by kernel_rfl)
              exact .inr ⟨wanted_no (d := 56) rfl (by kernel_rfl) hg, rfl⟩
            · injection ho with ho; subst ho
              have hg : A.tmps[56]?.getD undef = .bool false := he 25 (by kernel_rfl)
              exact .inr ⟨wanted_no (d := 56) rfl (by kernel_rfl) hg, rfl⟩
            · injection ho with ho; subst ho
              have hg : A.tmps[56]?.getD undef = .bool false := he 25 (by kernel_rfl)
              exact .inr ⟨wanted_no (d := 56) rfl (by kernel_rfl) hg, rfl⟩
            · injection ho with ho; subst ho
              have hg : A.tmps[56]?.getD undef = .bool false := he 25 (by kernel_rfl)
              exact .inr ⟨wanted_no (d := 56) rfl (by kernel_rfl) hg, rfl⟩
            · injection ho with ho; subst ho
              have hg : A.tmps[54]?.getD undef = .bool false := he 23 (by kernel_rfl)
              refine .inl ⟨wanted_yes (d := 54) rfl (by kernel_rfl) hg, ?_⟩
              have h56 : A.tmps[56]?.getD undef = .bool false := he 25 (by kernel_rfl)
              have h60 : A.tmps[60]?.getD undef = undef := he 29 (by kernel_rfl)
              go_simp
              exact ⟨rfl, Below.refl _ _⟩
          · intro xs W hW hV
            have e54 : xs 23 = .bool false := hV 23 (by simp)
            have e61 : xs 30 = .bool false := hV 30 (by simp)
            simp only [List.length_cons, List.length_nil, Nat.zero_add, Nat.reduceAdd, List.drop_succ_cons, List.drop_zero, putL, Act.put, List.setIfInBounds_toArray, List.set_cons_zero, List.set_cons_succ, e54, e61]
            clear hV e54 e61
            have HW5 := Lib.hid (HW4.out.grown hW)
            clear hW
            go_wp2_with fail
            refine Handed.intro (6 - (k + 1)) (by have := HK.out; omega) ?_
            refine hJ _ _ _ ?_
            exact ⟨k + 1, by have := HK.out; omega, rfl, ⟨rfl, rfl, by simp only [List.mem_cons, List.not_mem_nil, or_false, forall_eq_or_imp, forall_eq]; exact ⟨rfl, rfl, congrArg (Value.int .i64) HE5.out⟩⟩, HW5.out⟩
        · refine wp_flowG [31, 32, 33, 34, 35, 36, 37, 38, 39, 40, 41, 42, 43, 44, 45, 46, 47, 48, 49, 50, 51, 52, 53, 54, 55, 56, 57, 58, 59, 60, 61] [eqV (.agg #[.slice (p 0) (m.row 0).length (c 0), .slice (p 1) (m.row 1).length (c 1), .slice (p 2) (m.row 2).length (c 2), .slice (p 3) (m.row 3).length (c 3), .int .i64 (m.n : Nat)]), eqV (.int .i64 ((k : Int) - 1)), listW (listF m ((k : Int) - 1)), eqV (.agg #[.int .i64 (dm.n : Nat), .slice q dm.l.length d]), eqV (.int .i64 ((k : Int) - 1)), rtsW (listF m ((k : Int) - 1)), eqV (.bool true), eqV (.bool false), eqV (.bool false), eqV (.agg #[.slice (p 0) (m.row 0).length (c 0), .slice (p 1) (m.row 1).length (c 1), .slice (p 2) (m.row 2).length (c 2), .slice (p 3) (m.row 3).length (c 3), .int .i64 (m.n : Nat)]), eqV (.int .i64 ((k : Int) - 1)), listW (ownedF m ((k : Int) - 1)), eqV (.agg #[.int .i64 (dm.n : Nat), .slice q dm.l.length d]), eqV (.int .i64 ((k : Int) - 1)), rtsW (ownedF m ((k : Int) - 1)), eqV (.bool true), eqV (.bool false), eqV (.bool false), eqV (.bool false), eqV (.bool true), eqV (.bool true), eqV (.bool false), eqV (.bool false), eqV (.bool false), eqV (.bool true), eqV (.bool true), eqV (.agg #[.int .i64 x.loc, .complex .f64 (fw x.a) (fw x.b), .int .u64 x.n, .int .i64 (x.v 0), .int .i64 (x.v 1), .int .i64 (x.v 2), .int .i64 (x.v 3), .int .i64 (x.v 4), .int .i64 (x.v 5), .int .i64 (x.v 6), .int .i64 (x.v 7), .bool x.res, .int .i64 x.owner]), eqV (.agg #[.int .i64 x.loc, .int .i64 x.a, .int .i64 x.b, .int .u64 x.n, .int .i64 (x.v 0), .int .i64 (x.v 1), .int .i64 (x.v 2), .int .i64 (x.v 3), .int .i64 (x.v 4), .int .i64 (x.v 5), .int .i64 (x.v 6), .int .i64 (x.v 7), .bool x.res, .int .i64 x.owner]), eqV (.agg #[.int .i64 x.loc, .complex .f64 (fw x.a) (fw x.b), .int .u64 x.n, .int .i64 (x.v 0), .int .i64 (x.v 1), .int .i64 (x.v 2), .int .i64 (x.v 3), .int .i64 (x.v 4), .int .i64 (x.v 5), .int .i64 (x.v 6), .int .i64 (x.v 7), .bool x.res, .int .i64 x.owner]), eqV (.bool false), eqV (.bool false)] (by kernel_rfl) (by kernel_rfl) (by kernel_rfl) (by kernel_rfl) (by rfl)
            (by simp only [List.mem_cons, List.not_mem_nil, or_false, forall_eq_or_imp, forall_eq]; refine ⟨?_, ?_, ?_, ?_, ?_, ?_, ?_, ?_, ?_, ?_, ?_, ?_, ?_, ?_, ?_, ?_, ?_, ?_, ?_, ?_, ?_, ?_, ?_, ?_, ?_, ?_, ?_, ?_, ?_, ?_, ?_⟩ <;> (first | exact eqV_mono _ | exact memE_mono _ _ | exact memW_mono _ | exact listW_mono _ | exact rtsW_mono _ | exact dmE_mono _ _)) ?_ ?_
          · intro i o hi ho A W hW hk he
            simp only [List.length_cons, List.length_nil, Nat.zero_add, Nat.reduceAdd] at hi
            obtain rfl | rfl | rfl | rfl | rfl | rfl | rfl | rfl | rfl | rfl | rfl | rfl | rfl | rfl | rfl | rfl | rfl | rfl | rfl | rfl | rfl | rfl | rfl | rfl | rfl | rfl | rfl | rfl | rfl | rfl | rfl : i = 0 ∨ i = 1 ∨ i = 2 ∨ i = 3 ∨ i = 4 ∨ i = 5 ∨ i = 6 ∨ i = 7 ∨ i = 8 ∨ i = 9 ∨ i = 10 ∨ i = 11 ∨ i = 12 ∨ i = 13 ∨ i = 14 ∨ i = 15 ∨ i = 16 ∨ i = 17 ∨ i = 18 ∨ i = 19 ∨ i = 20 ∨ i = 21 ∨ i = 22 ∨ i = 23 ∨ i = 24 ∨ i = 25 ∨ i = 26 ∨ i = 27 ∨ i = 28 ∨ i = 29 ∨ i = 30 := by omega
            · injection ho with ho; subst ho
              refine .inl ⟨wanted_free rfl, ?_⟩
              have h2 : A.tmps[2]?.getD undef = .pointer (some ⟨w.heap.size, 0, none⟩) := hk 2 (by rfl)
              have c0 := ((HW4.out.grown hW).at2).cell 0
              have c1 := ((HW4.out.grown hW).at2).cell 1
              have c2 := ((HW4.out.grown hW).at2).cell 2
              have c3 := ((HW4.out.grown hW).at2).cell 3
              have c4 := ((HW4.out.grown hW).at2).cell 4
              go_simp
              exact ⟨rfl, Below.refl _ _⟩
            · injection ho with ho; subst ho
              refine .inl ⟨wanted_free rfl, ?_⟩
              have h5 : A.tmps[5]?.getD undef = .int .i64 ((k : Int) - 1) := hk 5 (by rfl)
              go_simp
              exact ⟨rfl, Below.refl _ _⟩
            · injection ho with ho; subst ho
              refine .inl ⟨wanted_free rfl, ?_⟩
              have h31 : A.tmps[31]?.getD undef = .agg #[.slice (p 0) (m.row 0).length (c 0), .slice (p 1) (m.row 1).length (c 1), .slice (p 2) (m.row 2).length (c 2), .slice (p 3) (m.row 3).length (c 3), .int .i64 (m.n : Nat)] := he 0 (by kernel_rfl)
              have h32 : A.tmps[32]?.getD undef = .int .i64 ((k : Int) - 1) := he 1 (by kernel_rfl)
              go_simp
              refine Calls.mono (list_any p c m HR.out.ok ((k : Int) - 1) W (HW4.out.grown hW).hold) ?_
              rintro e' w' ⟨r2, d2, rfl, hh, hb⟩
              exact ⟨_, rfl, ⟨r2, d2, hh, rfl⟩, hb⟩
            · injection ho with ho; subst ho
              refine .inl ⟨wanted_free rfl, ?_⟩
              have h3 : A.tmps[3]?.getD undef = .pointer (some ⟨w.heap.size + 1, 0, none⟩) := hk 3 (by rfl)
              have c0 := ((HW4.out.grown hW).at3).cell 0
              have c1 := ((HW4.out.grown hW).at3).cell 1
              go_simp
              exact ⟨rfl, Below.refl _ _⟩
            · injection ho with ho; subst ho
              refine .inl ⟨wanted_free rfl, ?_⟩
              have h5 : A.tmps[5]?.getD undef = .int .i64 ((k : Int) - 1) := hk 5 (by rfl)
              go_simp
              exact ⟨rfl, Below.refl _ _⟩
            · injection ho with ho; subst ho
              refine .inl ⟨wanted_free rfl, ?_⟩
              have h34 : A.tmps[34]?.getD undef = .agg #[.int .i64 (dm.n : Nat), .slice q dm.l.length d] := he 3 (by kernel_rfl)
              have h35 : A.tmps[35]?.getD undef = .int .i64 ((k : Int) - 1) := he 4 (by kernel_rfl)
              go_simp
              refine Calls.mono (HL.out W (HW4.out.grown hW).holdD) ?_
              rintro e' w' ⟨r2, d2, rfl, hh, hb, _⟩
              exact ⟨_, rfl, ⟨r2, d2, hh, rfl⟩, hb⟩
            · injection ho with ho; subst ho
              refine .inl ⟨wanted_free rfl, ?_⟩
              obtain ⟨r33, d33, H33, h33⟩ : listW (listF m ((k : Int) - 1)) (A.tmps[33]?.getD undef) W := he 2 (by kernel_rfl)
              obtain ⟨r36, d36, H36, h36⟩ : rtsW (listF m ((k : Int) - 1)) (A.tmps[36]?.getD undef) W := he 5 (by kernel_rfl)
              go_simp
              refine Calls.mono (items_any (listF m ((k : Int) - 1)) (by have := list_few HR.out.ok ((k : Int) - 1); omega) (fun x hx => list_mem HR.out.ok hx) r33 r36 d33 d36 W H33 H36) ?_
              rintro e' w' ⟨rfl, hb⟩
              exact ⟨_, rfl, rfl, hb⟩
            · injection ho with ho; subst ho
              refine .inl ⟨wanted_free rfl, ?_⟩
              have h37 : A.tmps[37]?.getD undef = .bool true := he 6 (by kernel_rfl)
              go_simp
              exact ⟨rfl, Below.refl _ _⟩
            · injection ho with ho; subst ho
              refine .inl ⟨wanted_free rfl, ?_⟩
              have h38 : A.tmps[38]?.getD undef = .bool false := he 7 (by kernel_rfl)
              go_simp
              exact ⟨rfl, Below.refl _ _⟩
            · injection ho with ho; subst ho
              have hg : A.tmps[39]?.getD undef = .bool false := he 8 (by kernel_rfl)
              refine .inl ⟨wanted_yes (d := 39) rfl (by kernel_rfl) hg, ?_⟩
              have h2 : A.tmps[2]?.getD undef = .pointer (some ⟨w.heap.size, 0, none⟩) := hk 2 (by rfl)
              have c0 := ((HW4.out.grown hW).at2).cell 0
              have c1 := ((HW4.out.grown hW).at2).cell 1
              have c2 := ((HW4.out.grown hW).at2).cell 2
              have c3 := ((HW4.out.grown hW).at2).cell 3
              have c4 := ((HW4.out.grown hW).at2).cell 4
              go_simp
              exact ⟨rfl, Below.refl _ _⟩
            · injection ho with ho; subst ho
              have hg : A.tmps[39]?.getD undef = .bool false := he 8 (by kernel_rfl)
              refine .inl ⟨wanted_yes (d := 39) rfl (by kernel_rfl) hg, ?_⟩
              have h5 : A.tmps[5]?.getD undef = .int .i64 ((k : Int) - 1) := hk 5 (by rfl)
              go_simp
              exact ⟨rfl, Below.refl _ _⟩
            · injection ho with ho; subst ho
              have hg : A.tmps[39]?.getD undef = .bool false := he 8 (by kernel_rfl)
              refine .inl ⟨wanted_yes (d := 39) rfl (by kernel_rfl) hg, ?_⟩
              have h40 : A.tmps[40]?.getD undef = .agg #[.slice (p 0) (m.row 0).length (c 0), .slice (p 1) (m.row 1).length (c 1), .slice (p 2) (m.row 2).length (c 2), .slice (p 3) (m.row 3).length (c 3), .int .i64 (m.n : Nat)] := he 9 (by kernel_rfl)
              have h41 : A.tmps[41]?.getD undef = .int .i64 ((k : Int) - 1) := he 10 (by kernel_rfl)
              go_simp
              refine Calls.mono (owned_any p c m HR.out.ok.few ((k : Int) - 1) W (HW4.out.grown hW).hold) ?_
              rintro e' w' ⟨r2, d2, rfl, hh, hb⟩
              exact ⟨_, rfl, ⟨r2, d2, hh, rfl⟩, hb⟩
            · injection ho with ho; subst ho
              have hg : A.tmps[39]?.getD undef = .bool false := he 8 (by kernel_rfl)
              refine .inl ⟨wanted_yes (d := 39) rfl (by kernel_rfl) hg, ?_⟩
              have h3 : A.tmps[3]?.getD undef = .pointer (some ⟨w.heap.size + 1, 0, none⟩) := hk 3 (by rfl)
              have c0 := ((HW4.out.grown hW).at3).cell 0
              have c1 := ((HW4.out.grown hW).at3).cell 1
              go_simp
              exact ⟨rfl, Below.refl _ _⟩
            · injection ho with ho; subst ho
              have hg : A.tmps[39]?.getD undef = .bool false := he 8 (by kernel_rfl)
              refine .inl ⟨wanted_yes (d := 39) rfl (by kernel_rfl) hg, ?_⟩
              have h5 : A.tmps[5]?.getD undef = .int .i64 ((k : Int) - 1) := hk 5 (by rfl)
              go_simp
              exact ⟨rfl, Below.refl _ _⟩
            · injection ho with ho; subst ho
              have hg : A.tmps[39]?.getD undef = .bool false := he 8 (by kernel_rfl)
              refine .inl ⟨wanted_yes (d := 39) rfl (by kernel_rfl) hg, ?_⟩
              have h43 : A.tmps[43]?.getD undef = .agg #[.int .i64 (dm.n : Nat), .slice q dm.l.length d] := he 12 (by kernel_rfl)
              have h44 : A.tmps[44]?.getD undef = .int .i64 ((k : Int) - 1) := he 13 (by kernel_rfl)
              go_simp
              refine Calls.mono (HO.out W (HW4.out.grown hW).holdD) ?_
              rintro e' w' ⟨r2, d2, rfl, hh, hb, _⟩
              exact ⟨_, rfl, ⟨r2, d2, hh, rfl⟩, hb⟩
            · injection ho with ho; subst ho
              have hg : A.tmps[39]?.getD undef = .bool false := he 8 (by kernel_rfl)
              refine .inl ⟨wanted_yes (d := 39) rfl (by kernel_rfl) hg, ?_⟩
              obtain ⟨r42, d42, H42, h42⟩ : listW (ownedF m ((k : Int) - 1)) (A.tmps[42]?.getD undef) W := he 11 (by kernel_rfl)
              obtain ⟨r45, d45, H45, h45⟩ : rtsW (ownedF m ((k : Int) - 1)) (A.tmps[45]?.getD undef) W := he 14 (by kernel_rfl)
              go_simp
              refine Calls.mono (items_any (ownedF m ((k : Int) - 1)) (by have := owned_few HR.out.ok ((k : Int) - 1); omega) (fun x hx => owned_mem HR.out.ok hx) r42 r45 d42 d45 W H42 H45) ?_
              rintro e' w' ⟨rfl, hb⟩
              exact ⟨_, rfl, rfl, hb⟩
            · injection ho with ho; subst ho
              have hg : A.tmps[39]?.getD undef = .bool false := he 8 (by kernel_rfl)
              refine .inl ⟨wanted_yes (d := 39) rfl (by kernel_rfl) hg, ?_⟩
              have h46 : A.tmps[46]?.getD undef = .bool true := he 15 (by kernel_rfl)
              go_simp
              exact ⟨rfl, Below.refl _ _⟩
            · injection ho with ho; subst ho
              refine .inl ⟨wanted_free rfl, ?_⟩
              have h39 : A.tmps[39]?.getD undef = .bool false := he 8 (by kernel_rfl)
              have h47 : A.tmps[47]?.getD undef = .bool false := he 16 (by kernel_rfl)
              go_simp
              exact ⟨rfl, Below.refl _ _⟩
            · injection ho with ho; subst ho
              refine .inl ⟨wanted_free rfl, ?_⟩
              have h48 : A.tmps[48]?.getD undef = .bool false := he 17 (by kernel_rfl)
              go_simp
              exact ⟨rfl, Below.refl _ _⟩
            · injection ho with ho; subst ho
              have hg : A.tmps[49]?.getD undef = .bool false := he 18 (by kernel_rfl)
              refine .inl ⟨wanted_yes (d := 49) rfl (by kernel_rfl) hg, ?_⟩
              have h7 : A.tmps[7]?.getD undef = .bool true := hk 7 (by rfl)
              go_simp
              exact ⟨rfl, Below.refl _ _⟩
            · injection ho with ho; subst ho
              have hg : A.tmps[49]?.getD undef = .bool false := he 18 (by kernel_rfl)
              refine .inl ⟨wanted_yes (d := 49) rfl (by kernel_rfl) hg, ?_⟩
              have h9 : A.tmps[9]?.getD undef = .bool true := hk 9 (by rfl)
              go_simp
              exact ⟨rfl, Below.refl _ _⟩
            · injection ho with ho; subst ho
              have hg : A.tmps[49]?.getD undef = .bool false := he 18 (by kernel_rfl)
              refine .inl ⟨wanted_yes (d := 49) rfl (by kernel_rfl) hg, ?_⟩
              have h50 : A.tmps[50]?.getD undef = .bool true := he 19 (by kernel_rfl)
              have h51 : A.tmps[51]?.getD undef = .bool true := he 20 (by kernel_rfl)
              go_simp
              exact ⟨rfl, Below.refl _ _⟩
            · injection ho with ho; subst ho
              refine .inl ⟨wanted_free rfl, ?_⟩
              have h49 : A.tmps[49]?.getD undef = .bool false := he 18 (by kernel_rfl)
              have h52 : A.tmps[52]?.getD undef = .bool false := he 21 (by kernel_rfl)
              go_simp
              exact ⟨rfl, Below.refl _ _⟩
            · injection ho with ho; subst ho
              refine .inl ⟨wanted_free rfl, ?_⟩
              have h53 : A.tmps[53]?.getD undef = .bool false := he 22 (by kernel_rfl)
              go_simp
              exact ⟨rfl, Below.refl _ _⟩
            · injection ho with ho; subst ho
              have hg : A.tmps[54]?.getD undef = .bool false := he 23 (by kernel_rfl)
              refine .inl ⟨wanted_yes (d := 54) rfl (by kernel_rfl) hg, ?_⟩
              have h7 : A.tmps[7]?.getD undef = .bool true := hk 7 (by rfl)
              go_simp
              exact ⟨rfl, Below.refl _ _⟩
            · injection ho with ho; subst ho
              have hg : A.tmps[54]?.getD undef = .bool false := he 23 (by kernel_rfl)
              refine .inl ⟨wanted_yes (d := 54) rfl (by kernel_rfl) hg, ?_⟩
              have h55 : A.tmps[55]?.getD undef = .bool true := he 24 (by kernel_rfl)
              go_simp
              exact ⟨rfl, Below.refl _ _⟩
            · injection ho with ho; subst ho
              have hg : A.tmps[56]?.getD undef = .bool true := he 25 (by kernel_rfl)
              refine .inl ⟨wanted_yes (d := 56) rfl (by kernel_rfl) hg, ?_⟩
              have h6 : A.tmps[6]?.getD undef = .pointer (some ⟨g6, 0, none⟩) := hk 6 (by rfl)
              have c0 := (S6c.out.below hW S6c.out.lt).cell 0
              have c1 := (S6c.out.below hW S6c.out.lt).cell 1
              have c2 := (S6c.out.below hW S6c.out.lt).cell 2
              have c3 := (S6c.out.below hW S6c.out.lt).cell 3
              have c4 := (S6c.out.below hW S6c.out.lt).cell 4
              have c5 := (S6c.out.below hW S6c.out.lt).cell 5
              have c6 := (S6c.out.below hW S6c.out.lt).cell 6
              have c7 := (S6c.out.below hW S6c.out.lt).cell 7
              have c8 := (S6c.out.below hW S6c.out.lt).cell 8
              have c9 := (S6c.out.below hW S6c.out.lt).cell 9
              have c10 := (S6c.out.below hW S6c.out.lt).cell 10
              have c11 := (S6c.out.below hW S6c.out.lt).cell 11
              have c12 := (S6c.out.below hW S6c.out.lt).cell 12
              go_simp
              exact ⟨rfl, Below.refl _ _⟩
            · injection ho with ho; subst ho
              have hg : A.tmps[56]?.getD undef = .bool true := he 25 (by kernel_rfl)
              refine .inl ⟨wanted_yes (d := 56) rfl (by kernel_rfl) hg, ?_⟩
              have h8 : A.tmps[8]?.getD undef = .pointer (some ⟨g8, 0, none⟩) := hk 8 (by rfl)
              have c0 := (S8.out.below hW S8.out.lt).cell 0
              have c1 := (S8.out.below hW S8.out.lt).cell 1
              have c2 := (S8.out.below hW S8.out.lt).cell 2
              have c3 := (S8.out.below hW S8.out.lt).cell 3
              have c4 := (S8.out.below hW S8.out.lt).cell 4
              have c5 := (S8.out.below hW S8.out.lt).cell 5
              have c6 := (S8.out.below hW S8.out.lt).cell 6
              have c7 := (S8.out.below hW S8.out.lt).cell 7
              have c8 := (S8.out.below hW S8.out.lt).cell 8
              have c9 := (S8.out.below hW S8.out.lt).cell 9
              have c10 := (S8.out.below hW S8.out.lt).cell 10
              have c11 := (S8.out.below hW S8.out.lt).cell 11
              have c12 := (S8.out.below hW S8.out.lt).cell 12
              have c13 := (S8.out.below hW S8.out.lt).cell 13
              go_simp
              exact ⟨rfl, Below.refl _ _⟩
            · injection ho with ho; subst ho
              have hg : A.tmps[56]?.getD undef = .bool true := he 25 (by kernel_rfl)
              refine .inl ⟨wanted_yes (d := 56) rfl (by kernel_rfl) hg, ?_⟩
              have h58 : A.tmps[58]?.getD undef = .agg #[.int .i64 x.loc, .int .i64 x.a, .int .i64 x.b, .int .u64 x.n, .int .i64 (x.v 0), .int .i64 (x.v 1), .int .i64 (x.v 2), .int .i64 (x.v 3), .int .i64 (x.v 4), .int .i64 (x.v 5), .int .i64 (x.v 6), .int .i64 (x.v 7), .bool x.res, .int .i64 x.owner] := he 27 (by kernel_rfl)
              go_simp
              refine Calls.mono (HCI.out W) ?_
              rintro e' w' ⟨rfl, hb⟩
              exact ⟨_, rfl, rfl, hb⟩
            · injection ho with ho; subst ho
              have hg : A.tmps[56]?.getD undef = .bool true := he 25 (by kernel_rfl)
              refine .inl ⟨wanted_yes (d := 56) rfl (by kernel_rfl) hg, ?_⟩
              have h57 : A.tmps[57]?.getD undef = .agg #[.int .i64 x.loc, .complex .f64 (fw x.a) (fw x.b), .int .u64 x.n, .int .i64 (x.v 0), .int .i64 (x.v 1), .int .i64 (x.v 2), .int .i64 (x.v 3), .int .i64 (x.v 4), .int .i64 (x.v 5), .int .i64 (x.v 6), .int .i64 (x.v 7), .bool x.res, .int .i64 x.owner] := he 26 (by kernel_rfl)
              have h59 : A.tmps[59]?.getD undef = .agg #[.int .i64 x.loc, .complex .f64 (fw x.a) (fw x.b), .int .u64 x.n, .int .i64 (x.v 0), .int .i64 (x.v 1), .int .i64 (x.v 2), .int .i64 (x.v 3), .int .i64 (x.v 4), .int .i64 (x.v 5), .int .i64 (x.v 6), .int .i64 (x.v 7), .bool x.res, .int .i64 x.owner] := he 28 (by kernel_rfl)
              go_simp
              exact ⟨rfl, Below.refl _ _⟩
            · injection ho with ho; subst ho
              have hg : A.tmps[54]?.getD undef = .bool false := he 23 (by kernel_rfl)
              refine .inl ⟨wanted_yes (d := 54) rfl (by kernel_rfl) hg, ?_⟩
              have h56 : A.tmps[56]?.getD undef = .bool true := he 25 (by kernel_rfl)
              have h60 : A.tmps[60]?.getD undef = .bool false := he 29 (by kernel_rfl)
              go_simp
              exact ⟨rfl, Below.refl _ _⟩
          · intro xs W hW hV
            have e54 : xs 23 = .bool false := hV 23 (by simp)
            have e61 : xs 30 = .bool false := hV 30 (by simp)
            simp only [List.length_cons, List.length_nil, Nat.zero_add, Nat.reduceAdd, List.drop_succ_cons, List.drop_zero, putL, Act.put, List.setIfInBounds_toArray, List.set_cons_zero, List.set_cons_succ, e54, e61]
            clear hV e54 e61
            have HW5 := Lib.hid (HW4.out.grown hW)
            clear hW
            go_wp2_with fail
            refine Handed.intro (6 - (k + 1)) (by have := HK.out; omega) ?_
            refine hJ _ _ _ ?_
            exact ⟨k + 1, by have := HK.out; omega, rfl, ⟨rfl, rfl, by simp only [List.mem_cons, List.not_mem_nil, or_false, forall_eq_or_imp, forall_eq]; exact ⟨rfl, rfl, congrArg (Value.int .i64) HE5.out⟩⟩, HW5.out⟩
      · have j1 : ¬ ((k : Int) - 1 < 5) := by omega
        clear hlt hk
        go_wp2_with fail
        go_ret
        exact ⟨rfl, HW.out.low⟩
end Go.Proofs.Ytokkcbhmmhmfmaa.Mmr
