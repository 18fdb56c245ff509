/- Layer 11 (memory): the document's Cancel. -/
import Derived.Test.YtokkcbhmmhmfmaaMmrYG
namespace Go.Proofs.Ytokkcbhmmhmfmaa.Mmr
open Go.RowKit Go.Proofs.Ytokkcbhmmhmfmaa.Mem Go.Proofs.Ytokkcbhmmhmfmaa.Flow

/-- A memory whose row was made anew. -/
theorem DEnd.anew {w W W4 : World} {q r4 : Option Addr} {c d4 : Nat} {m m' : Dm} (h : DEnd w q c m zeroDm W) (hb : Below (w.heap.size + 2) W W4) (hn : m'.n = m.n) (hc : Cut2 47 14 (w.heap.size + 2) W4 r4 m'.l.length d4 (cellsOf rtL m'.l)) :
    DEnd w r4 d4 m' zeroDm (W4.setCell ⟨w.heap.size, 1, none⟩ (.slice r4 m'.l.length d4)) ∧ HoldD (W4.setCell ⟨w.heap.size, 1, none⟩ (.slice r4 m'.l.length d4)) r4 d4 m' := by
  refine ⟨⟨?_, (h.at8.below hb (by omega)).far (by show w.heap.size + 1 ≠ w.heap.size; omega) _, set_low (h.low.trans (hb.mono (by omega))) (Nat.le_refl _) _ _⟩, ⟨?_, hc.room⟩⟩
  · have := (h.at4.below hb (by omega)).put 1 (.slice r4 m'.l.length d4)
    simp only [dmCells, hn]
    exact this
  · exact (hc.far (g := w.heap.size) (by omega) 1 (.slice r4 m'.l.length d4)).lay.rts
set_option maxRecDepth 100000 in
set_option maxHeartbeats 4000000 in
theorem dcancel_any (q : Option Addr) (c : Nat) (m : Dm) (hn : m.l.length ≤ 1000) (loc te owner : Int) (w : World) (hH : HoldD w q c m) :
    Calls Try.prog 14 #[dmV q c m, .int .i64 loc, .int .i64 te, .int .i64 owner] w (GivesDE (dCancel m loc te owner) w) := by
  have H0 : Hid (DEnd w q c m zeroDm ((w.alloc (.cells (dmCells q c m) 37)).alloc (.cells zeroDm 37))) := Lib.hid
    ⟨(Sits.new _ _ _).alloc _, Sits.made (by simp) _ _, two_low _ _ _⟩
  have HH := Lib.hid hH
  have HN := Lib.hid hn
  clear hH hn
  go_enter Try.func14, Try.ntmps14
  go_upto_region 1 with (fail)
  generalize ((w.alloc (.cells (dmCells q c m) 37)).alloc (.cells zeroDm 37)) = w0 at H0 ⊢
  have b0 : w0.cell? ⟨w.heap.size, 0, none⟩ = some (.int .i64 (m.n : Nat)) := H0.out.at4.cell 0
  have b1 : w0.cell? ⟨w.heap.size, 1, none⟩ = some (.slice q m.l.length c) := H0.out.at4.cell 1
  have lb := H0.out.at4.lt
  by_cases hl : dHas m loc = true
  rotate_left
  · rw [Bool.not_eq_true] at hl
    have HR : Hid (dCancel m loc te owner = (m, 1)) := Lib.hid (by unfold dCancel; rw [if_pos hl])
    have HG := Lib.hid (H0.out.out (HH.out.below H0.out.low) 1)
    have hl' := of_decide_eq_false hl
    clear hl
    by_cases h0 : loc < 0
    · clear hl'
      go_wp2_with (refine wpList_store_row rfl 37 _ _ rfl (w.heap.size + 1) (dmCells q c m) rfl rfl 37 _ H0.out.at8 dmSize rfl (dm_one _ _ _) ?_)
      generalize w0.setRow (w.heap.size + 1) (dmCells q c m) = W3 at HG ⊢
      clear b0 b1 lb
      have s := HG.out.2
      have b0 : W3.cell? ⟨w.heap.size + 1, 0, none⟩ = some (.int .i64 (m.n : Nat)) := s.cell 0
      have b1 : W3.cell? ⟨w.heap.size + 1, 1, none⟩ = some (.slice q m.l.length c) := s.cell 1
      clear s
      exact bodyPost_ret (v := .tuple #[dmV q c m, .int .i64 1]) (by simp [results, Try.results14, go_sem, b0, b1]) rfl (by rw [HR.out]; exact HG.out.1)
    · have h1 : ¬ loc < (m.n : Int) := by omega
      have h2 : (m.n : Int) ≤ loc := by omega
      clear hl'
      go_wp2_with (refine wpList_store_row rfl 37 _ _ rfl (w.heap.size + 1) (dmCells q c m) rfl rfl 37 _ H0.out.at8 dmSize rfl (dm_one _ _ _) ?_)
      generalize w0.setRow (w.heap.size + 1) (dmCells q c m) = W3 at HG ⊢
      clear b0 b1 lb
      have s := HG.out.2
      have b0 : W3.cell? ⟨w.heap.size + 1, 0, none⟩ = some (.int .i64 (m.n : Nat)) := s.cell 0
      have b1 : W3.cell? ⟨w.heap.size + 1, 1, none⟩ = some (.slice q m.l.length c) := s.cell 1
      clear s
      exact bodyPost_ret (v := .tuple #[dmV q c m, .int .i64 1]) (by simp [results, Try.results14, go_sem, b0, b1]) rfl (by rw [HR.out]; exact HG.out.1)
  obtain ⟨l0, l1⟩ := of_decide_eq_true hl
  obtain ⟨k, rfl⟩ : ∃ k : Nat, loc = (k : Nat) := ⟨loc.toNat, by omega⟩
  have HL := Lib.hid hl
  have HC := Lib.hid (downed_any q c m HN.out (k : Int) te owner true w0 (HH.out.below H0.out.low))
  clear hl
  go_wp2_with fail
  refine HC.out.mono ?_
  rintro e w1 ⟨rfl, hb⟩
  have H1 := Lib.hid (H0.out.grown hb)
  clear hb HC H0 b0 b1 lb
  have b0 : w1.cell? ⟨w.heap.size, 0, none⟩ = some (.int .i64 (m.n : Nat)) := H1.out.at4.cell 0
  have b1 : w1.cell? ⟨w.heap.size, 1, none⟩ = some (.slice q m.l.length c) := H1.out.at4.cell 1
  have lb := H1.out.at4.lt
  cases hd : m.l.findIdx? (ownD (k : Nat) te owner true) with
  | none =>
    have HR : Hid (dCancel m (k : Nat) te owner = (m, 6)) := Lib.hid (by unfold dCancel; rw [if_neg (by rw [HL.out]; simp), hd])
    have HG := Lib.hid (H1.out.out (HH.out.below H1.out.low) 6)
    have hi : idxF (ownD (k : Nat) te owner true) m.l = -1 := by unfold idxF; rw [hd]
    rw [hi]
    clear hd hi
    go_wp2_with (refine wpList_store_row rfl 37 _ _ rfl (w.heap.size + 1) (dmCells q c m) rfl rfl 37 _ H1.out.at8 dmSize rfl (dm_one _ _ _) ?_)
    generalize w1.setRow (w.heap.size + 1) (dmCells q c m) = W3 at HG ⊢
    clear b0 b1 lb
    have s := HG.out.2
    have b0 : W3.cell? ⟨w.heap.size + 1, 0, none⟩ = some (.int .i64 (m.n : Nat)) := s.cell 0
    have b1 : W3.cell? ⟨w.heap.size + 1, 1, none⟩ = some (.slice q m.l.length c) := s.cell 1
    clear s
    exact bodyPost_ret (v := .tuple #[dmV q c m, .int .i64 6]) (by simp [results, Try.results14, go_sem, b0, b1]) rfl (by rw [HR.out]; exact HG.out.1)
  | some i =>
    have HD := Lib.hid hd
    obtain ⟨y, hy, hφ, hs⟩ := idx_split hd
    have hi : idxF (ownD (k : Nat) te owner true) m.l = (i : Nat) := by unfold idxF; rw [hd]
    rw [hi]
    have hil := (List.getElem?_eq_some_iff.1 hy).1
    have i0 : (0 : Int) ≤ (i : Int) := by omega
    have i1 : (i : Int) < (m.l.length : Int) := by omega
    have i2 : (m.l.length : Int) ≤ 1000 := by have := HN.out; omega
    have HIL := Lib.hid hil
    have hcap := HH.out.cap
    have hs1 := dslice_to q m.l.length c i (by omega)
    obtain ⟨r', hs2, hr'⟩ := dslice_from q m.l.length c (i + 1) (by omega) hcap
    have HR' := Lib.hid hr'
    have HR : Hid (dCancel m (k : Nat) te owner = (⟨m.n, m.l.take i ++ m.l.drop (i + 1)⟩, 0)) := Lib.hid (by unfold dCancel; rw [if_neg (by rw [HL.out]; simp), HD.out])
    have HTK := Lib.hid (show (m.l.take i).length = i by rw [List.length_take]; omega)
    have HDR := Lib.hid (show (m.l.drop (i + 1)).length = m.l.length - (i + 1) from List.length_drop)
    have HTL := Lib.hid (show (m.l.take i ++ m.l.drop (i + 1)).length = i + (m.l.length - (i + 1)) by rw [List.length_append, HTK.out, HDR.out])
    rw [show (((i + 1 : Nat)) : Int) = (i : Int) + 1 by omega] at hs2
    have HWR : Hid (IntKind.i64.wrap ((i : Int) + 1) = (i : Int) + 1) := Lib.hid (IntWalk.i64_in _ (by omega))
    clear hd hi hs hφ hy hil hr' hcap
    go_upto_region 6 with (fail)
    clear b0 b1 lb
    refine wp_flowG [28, 29, 30, 31, 32, 33, 34, 35, 36, 37] [eqV (.pointer (some ⟨w.heap.size, 1, none⟩)), eqV (.slice q m.l.length c), eqV (.int .i64 (i : Nat)), eqV (.slice q i c), (fun u W => ∃ r d, u = .slice r i d ∧ Cut2 47 14 (w.heap.size + 2) W r i d (cellsOf rtL (m.l.take i))), eqV (.pointer (some ⟨w.heap.size, 1, none⟩)), eqV (.slice q m.l.length c), eqV (.int .i64 (i : Nat)), eqV (.int .i64 ((i : Int) + 1)), eqV (.slice r' (m.l.length - (i + 1)) (c - (i + 1)))] (by kernel_rfl) (by kernel_rfl) (by kernel_rfl) (by kernel_rfl) (by rfl)
      (by simp only [List.mem_cons, List.not_mem_nil, or_false, forall_eq_or_imp, forall_eq]; refine ⟨?_, ?_, ?_, ?_, ?_, ?_, ?_, ?_, ?_, ?_⟩ <;> (first | exact eqV_mono _ | exact rowV_mono _ _ _ | exact cutW_mono _ _ _)) ?_ ?_
    · intro i o hi ho A W hW hk he
      simp only [List.length_cons, List.length_nil, Nat.zero_add, Nat.reduceAdd] at hi
      obtain rfl | rfl | rfl | rfl | rfl | rfl | rfl | rfl | rfl | rfl : i = 0 ∨ i = 1 ∨ i = 2 ∨ i = 3 ∨ i = 4 ∨ i = 5 ∨ i = 6 ∨ i = 7 ∨ i = 8 ∨ i = 9 := by omega
      · injection ho with ho; subst ho
        refine .inl ⟨wanted_free rfl, ?_⟩
        have h4 : A.tmps[4]?.getD undef = .pointer (some ⟨w.heap.size, 0, none⟩) := hk 4 (by rfl)
        go_simp
        exact ⟨rfl, Below.refl _ _⟩
      · injection ho with ho; subst ho
        refine .inl ⟨wanted_free rfl, ?_⟩
        have h28 : A.tmps[28]?.getD undef = .pointer (some ⟨w.heap.size, 1, none⟩) := he 0 (by kernel_rfl)
        have c0 := ((H1.out.grown hW).at4).cell 1
        go_simp
        exact ⟨rfl, Below.refl _ _⟩
      · injection ho with ho; subst ho
        refine .inl ⟨wanted_free rfl, ?_⟩
        have h10 : A.tmps[10]?.getD undef = .int .i64 (i : Nat) := hk 10 (by rfl)
        go_simp
        exact ⟨rfl, Below.refl _ _⟩
      · injection ho with ho; subst ho
        refine .inl ⟨wanted_free rfl, ?_⟩
        have h29 : A.tmps[29]?.getD undef = .slice q m.l.length c := he 1 (by kernel_rfl)
        have h30 : A.tmps[30]?.getD undef = .int .i64 (i : Nat) := he 2 (by kernel_rfl)
        go_simp
        exact ⟨rfl, Below.refl _ _⟩
      · injection ho with ho; subst ho
        refine .inl ⟨wanted_free rfl, ?_⟩
        have h31 : A.tmps[31]?.getD undef = .slice q i c := he 3 (by kernel_rfl)
        obtain ⟨r2, d2, W2, hr, _, hb2, hc2⟩ := run_append_cut2 rowRt 35 (nil_cut 47 14 W.heap.size W) (Nat.le_refl _) q i c (cellsOf rtL (m.l.take i)) (by rw [cells_len rtL_len, HTK.out]) ((HH.out.below (H1.out.grown hW).low).row.upto i).lay (rts_one _) (by unfold maxLen; have := HN.out; have := HIL.out; omega) (by have := HN.out; have := HIL.out; omega)
        have e1 : A.eval (.tmp 31) = .slice q i c := (eval_form A 31).trans h31
        have e0 : A.eval (.const (.slice none 0 0)) = .slice none 0 0 := rfl
        have hz := (H1.out.grown hW).at8.lt
        simp only [Nat.zero_add] at hr hc2
        simp only [execOp, resolve, invoke, builtin, Sem.run_bind, Sem.run_pure, Result.andThen_ok, List.map_toArray, List.map_cons, List.map_nil, e0, e1, hr]
        exact ⟨⟨r2, d2, rfl, by have hc3 := hc2.low (B := w.heap.size + 2) (by omega); exact hc3⟩, hb2⟩
      · injection ho with ho; subst ho
        refine .inl ⟨wanted_free rfl, ?_⟩
        have h4 : A.tmps[4]?.getD undef = .pointer (some ⟨w.heap.size, 0, none⟩) := hk 4 (by rfl)
        go_simp
        exact ⟨rfl, Below.refl _ _⟩
      · injection ho with ho; subst ho
        refine .inl ⟨wanted_free rfl, ?_⟩
        have h33 : A.tmps[33]?.getD undef = .pointer (some ⟨w.heap.size, 1, none⟩) := he 5 (by kernel_rfl)
        have c0 := ((H1.out.grown hW).at4).cell 1
        go_simp
        exact ⟨rfl, Below.refl _ _⟩
      · injection ho with ho; subst ho
        refine .inl ⟨wanted_free rfl, ?_⟩
        have h10 : A.tmps[10]?.getD undef = .int .i64 (i : Nat) := hk 10 (by rfl)
        go_simp
        exact ⟨rfl, Below.refl _ _⟩
      · injection ho with ho; subst ho
        refine .inl ⟨wanted_free rfl, ?_⟩
        have h35 : A.tmps[35]?.getD undef = .int .i64 (i : Nat) := he 7 (by kernel_rfl)
        have hwr := HWR.out
        go_simp
        exact ⟨rfl, Below.refl _ _⟩
      · injection ho with ho; subst ho
        refine .inl ⟨wanted_free rfl, ?_⟩
        have h34 : A.tmps[34]?.getD undef = .slice q m.l.length c := he 6 (by kernel_rfl)
        have h36 : A.tmps[36]?.getD undef = .int .i64 ((i : Int) + 1) := he 8 (by kernel_rfl)
        go_simp
        exact ⟨rfl, Below.refl _ _⟩
    · intro xs W hW hV
      have e37 : xs 9 = .slice r' (m.l.length - (i + 1)) (c - (i + 1)) := hV 9 (by simp)
      obtain ⟨r3, d3, e32, hcut⟩ : ∃ r d, xs 4 = .slice r i d ∧ Cut2 47 14 (w.heap.size + 2) W r i d (cellsOf rtL (m.l.take i)) := hV 4 (by simp)
      simp only [List.length_cons, List.length_nil, Nat.zero_add, Nat.reduceAdd, List.drop_succ_cons, List.drop_zero, putL, Act.put, List.setIfInBounds_toArray, List.set_cons_zero, List.set_cons_succ, e32, e37]
      clear hV e32 e37
      have H2 := Lib.hid (H1.out.grown hW)
      have HOL := Lib.hid (HH.out.below H2.out.low)
      clear hW
      have HCU := Lib.hid hcut
      have HZ : Hid (w.heap.size + 2 ≤ W.heap.size) := Lib.hid H2.out.at8.lt
      have HN2 := Lib.hid (show i + (m.l.length - (i + 1)) ≤ 1000 by have := HN.out; have := HIL.out; omega)
      clear hcut i0 i1 i2 hs1 hs2
      go_wp2_with (at_builtin; refine wpList_append_cut2 rowRt rfl _ _ rfl (B := w.heap.size + 2) (r := r3) (n := i) (d := d3) (xs := cellsOf rtL (m.l.take i)) rfl HCU.out HZ.out r' (m.l.length - (i + 1)) (c - (i + 1)) (cellsOf rtL (m.l.drop (i + 1))) rfl (by rw [cells_len rtL_len, HDR.out]) (HR'.out W m.l rfl HOL.out.row).lay (rts_one _) (by unfold maxLen; have := HN2.out; omega) (by have := HN2.out; omega) ?_)
      intro r4 d4 W4 _ _ hb4 hc4
      rw [← HTL.out, ← cells_append] at hc4
      have HA := Lib.hid (H2.out.anew (m' := ⟨m.n, m.l.take i ++ m.l.drop (i + 1)⟩) hb4 rfl hc4)
      have l2 := (H2.out.at4.below hb4 (by omega)).lt
      have f1 := (H2.out.at4.below hb4 (by omega)).free 1
      have c1 : W4.cell? ⟨w.heap.size, 1, none⟩ = some (.slice q m.l.length c) := (H2.out.at4.below hb4 (by omega)).cell 1
      clear hb4 hc4 HCU H2 HOL
      simp only [HTL.out] at HA
      go_upto_region 7 with (fail)
      generalize W4.setCell ⟨w.heap.size, 1, none⟩ (.slice r4 (i + (m.l.length - (i + 1))) d4) = W5 at HA ⊢
      clear l2 f1 c1
      have lb := HA.out.1.at4.lt
      have HEQ : Hid (dmCells r4 d4 ⟨m.n, m.l.take i ++ m.l.drop (i + 1)⟩ = #[.int .i64 (m.n : Nat), .slice r4 (i + (m.l.length - (i + 1))) d4]) := Lib.hid (by simp only [dmCells, HTL.out])
      have b0 : W5.cell? ⟨w.heap.size, 0, none⟩ = some (.int .i64 (m.n : Nat)) := HA.out.1.at4.cell 0
      have b1 : W5.cell? ⟨w.heap.size, 1, none⟩ = some (.slice r4 (i + (m.l.length - (i + 1))) d4) := by have := HA.out.1.at4.cell 1; rw [HEQ.out] at this; exact this
      have HG := Lib.hid (HA.out.1.out HA.out.2 0)
      rw [HEQ.out] at HG
      go_wp2_with (refine wpList_store_row rfl 37 _ _ rfl (w.heap.size + 1) #[.int .i64 (m.n : Nat), .slice r4 (i + (m.l.length - (i + 1))) d4] rfl rfl 37 _ HA.out.1.at8 dmSize rfl (by simp [Value.oneCell']) ?_)
      generalize W5.setRow (w.heap.size + 1) #[.int .i64 (m.n : Nat), .slice r4 (i + (m.l.length - (i + 1))) d4] = W6 at HG ⊢
      clear b0 b1 lb
      have s := HG.out.2
      have b0 : W6.cell? ⟨w.heap.size + 1, 0, none⟩ = some (.int .i64 (m.n : Nat)) := s.cell 0
      have b1 : W6.cell? ⟨w.heap.size + 1, 1, none⟩ = some (.slice r4 (i + (m.l.length - (i + 1))) d4) := s.cell 1
      clear s
      exact bodyPost_ret (v := .tuple #[.agg #[.int .i64 (m.n : Nat), .slice r4 (i + (m.l.length - (i + 1))) d4], .int .i64 0]) (by simp [results, Try.results14, go_sem, b0, b1]) rfl (by rw [HR.out, show Value.agg #[.int .i64 (m.n : Nat), .slice r4 (i + (m.l.length - (i + 1))) d4] = dmV r4 d4 ⟨m.n, m.l.take i ++ m.l.drop (i + 1)⟩ from (congrArg Value.agg HEQ.out).symm]; exact HG.out.1)
end Go.Proofs.Ytokkcbhmmhmfmaa.Mmr
