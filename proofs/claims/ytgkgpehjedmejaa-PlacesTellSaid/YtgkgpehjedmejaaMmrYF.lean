/- Layer 11 (memory): the document's Begin. -/
import Derived.Test.YtgkgpehjedmejaaMmrYD
namespace Go.Proofs.Ytgkgpehjedmejaa.Mmr
open Go.RowKit Go.Proofs.Ytgkgpehjedmejaa.Mem Go.Proofs.Ytgkgpehjedmejaa.Flow

theorem rowV_monoR (t : TypeId) (n : Nat) (cs : Array Value) : MonoR (fun w w' => Below w.heap.size w w') (rowV t n cs) := fun _ _ _ ⟨g, hu, hs⟩ hb => ⟨g, hu, hs.below hb hs.lt⟩
theorem Cut2.far {e : TypeId} {size B : Nat} {w : World} {r : Option Addr} {n d : Nat} {xs : List Value} (h : Cut2 e size B w r n d xs) {g : Nat} (hg : g < B) (i : Nat) (u : Value) : Cut2 e size B (w.setCell ⟨g, i, none⟩ u) r n d xs :=
  cut2_of ⟨h.own.1, h.own.2.imp id fun ⟨g', cap, cur, e1, e2, e3, e4⟩ => ⟨g', cap, cur, e1, e2, (Below.heap_setCell w ⟨g, i, none⟩ u g' (by show g' ≠ g; omega)).trans e3, e4⟩⟩
/-- An append onto one's own row, as one operation. -/
theorem oper_append_cut2 {P : Program} {t e : TypeId} {size bytes : Nat} (T : RowT P t e size bytes) {o : Oper} {a : Act} {K : Act → World → Prop} {Q : Exit → Act → World → Prop} (s x : Operand)
    (ho : o.op = .call { callee := .builtin .append, args := #[s, x], argTypes := #[t, t] }) {B : Nat} {w : World} {r : Option Addr} {n d : Nat} {xs : List Value} (hs : a.eval s = .slice r n d) (h : Cut2 e size B w r n d xs) (hB : B ≤ w.heap.size)
    (q : Option Addr) (m c : Nat) (ys : List Value) (hx : a.eval x = .slice q m c) (hy : ys.length = m * size) (hq : Lay w q ys) (h1 : ∀ u ∈ ys, u.oneCell' = true) (h63 : n + m ≤ maxLen) (hb : (n + m) * bytes ≤ 140737488355328)
    (hk : ∀ r' d' w', (w.grownBy w' (Value.slice r n d).ownBlock ∧ (∀ g o s, r' = some ⟨g, o, s⟩ → (Value.slice r n d).ownBlock = some g ∨ w.heap.size ≤ g)) → Below B w w' → Cut2 e size B w' r' (n + m) d' (xs ++ ys) → K (a.put o.dst (.slice r' (n + m) d')) w') : o.wp P a w K Q := by
  obtain ⟨r', d', w', hr, hgr, hbl, hc⟩ := run_append_cut2 T o.type h hB q m c ys hy hq h1 h63 hb
  unfold Oper.wp execOp
  simp only [ho, resolve, invoke, builtin, Sem.run_bind, Sem.run_pure, Result.andThen_ok, List.map_toArray, List.map_cons, List.map_nil, hs, hx, hr]
  exact hk r' d' w' hgr hbl hc
def firstD (k : Nat) (x : Int) : It := ⟨(k : Nat), 0, 0, x, Vew.zeroF, false, -1⟩
/-- The document's row, with so many locations laid. -/
def bgL (l : List Int) (k : Nat) : List It := (List.range k).map fun i => firstD i (l.getD i 0)
theorem bgL_succ {l : List Int} {k : Nat} {x : Int} (h : l[k]? = some x) : bgL l (k + 1) = bgL l k ++ [firstD k x] := by
  unfold bgL
  rw [List.range_succ, List.map_append, List.map_singleton, List.getD_eq_getElem?_getD, h]; rfl
theorem bgL_len (l : List Int) (k : Nat) : (bgL l k).length = k := by simp [bgL]
theorem bgL_all (l : List Int) : (⟨l.length, bgL l l.length⟩ : Dm) = dBegin l := rfl
def dBeginE (l : List Int) : Dm × Int := if l.length < 1 ∨ 4 < l.length then (⟨0, []⟩, 1) else (dBegin l, 0)
structure DBg (w : World) (r : Option Addr) (d : Nat) (n : Nat) (L : List It) (W : World) : Prop where
  at2 : Sits W w.heap.size 30 zeroDm
  at4 : Sits W (w.heap.size + 1) 30 #[.int .i64 (n : Nat), .slice r L.length d]
  cut : Cut2 60 14 (w.heap.size + 2) W r L.length d (cellsOf rtL L)
  low : Below w.heap.size w W
theorem DBg.grown {w W W' : World} {r : Option Addr} {d n : Nat} {L : List It} (h : DBg w r d n L W) (hb : Below W.heap.size W W') : DBg w r d n L W' :=
  ⟨h.at2.below hb h.at2.lt, h.at4.below hb h.at4.lt, h.cut.below hb, h.low.trans (hb.mono h.low.size)⟩
/-- Behind an append, and the store of what it made. -/
theorem DBg.put {w W W' : World} {r r' : Option Addr} {d d' n : Nat} {L L' : List It} (h : DBg w r d n L W) (hb : Below (w.heap.size + 2) W W') (hc : Cut2 60 14 (w.heap.size + 2) W' r' L'.length d' (cellsOf rtL L')) :
    DBg w r' d' n L' (W'.setCell ⟨w.heap.size + 1, 1, none⟩ (.slice r' L'.length d')) :=
  ⟨(h.at2.below hb (by omega)).far (by show w.heap.size ≠ w.heap.size + 1; omega) _, (h.at4.below hb (by omega)).put 1 _, hc.far (by omega) _ _, set_low (h.low.trans (hb.mono (by omega))) (by omega) _ _⟩
set_option maxRecDepth 100000 in
set_option maxHeartbeats 4000000 in
theorem dbegin_any (p : Option Addr) (c : Nat) (l : List Int) (hl : l.length ≤ 9223372036854775807) (w : World) (hN : Nums w p l) :
    Calls Try.prog 13 #[.slice p l.length c] w (GivesDE (dBeginE l) w) := by
  have HN := Lib.hid hN
  have i1 : (l.length : Int) ≤ 9223372036854775807 := by omega
  have S2 := Lib.hid (Sits.new w 30 zeroDm)
  have HB := Lib.hid (one_low w (.cells zeroDm 30))
  have HSZ : Hid ((w.alloc (.cells zeroDm 30)).heap.size = w.heap.size + 1) := Lib.hid (by simp)
  clear hN hl
  go_enter Try.func13, Try.ntmps13
  go_upto_region 1 with (fail)
  by_cases h1 : l.length < 1 ∨ 4 < l.length
  · have HR : Hid (dBeginE l = (⟨0, []⟩, 1)) := Lib.hid (by unfold dBeginE; rw [if_pos h1])
    generalize w.alloc (.cells zeroDm 30) = w0 at S2 HB HSZ ⊢
    have HG : Hid (GivesDE (⟨0, []⟩, 1) w (.returned (.tuple #[.agg zeroDm, .int .i64 1])) (w0.setRow w.heap.size zeroDm)) := Lib.hid
      ⟨none, 0, rfl, ⟨Rts.nil _ _, Nat.le_refl _⟩, row_low HB.out (Nat.le_refl _) _⟩
    have s2 : Sits (w0.setRow w.heap.size zeroDm) w.heap.size 30 zeroDm := setRow_heap w0 _ _ _ _ _ S2.out
    have fin : ∀ (T : Array Value), T.size = 36 → slot T 2 = .pointer (some ⟨w.heap.size, 0, none⟩) → slot T 3 = .int .i64 1 → bodyPost Try.prog Try.f13 (GivesDE (dBeginE l) w) Exit.ret ⟨T, []⟩ (w0.setRow w.heap.size zeroDm) := fun T hT q2 q3 => by
      have b0 : (w0.setRow w.heap.size zeroDm).cell? ⟨w.heap.size, 0, none⟩ = some (.int .i64 0) := s2.cell 0
      have b1 : (w0.setRow w.heap.size zeroDm).cell? ⟨w.heap.size, 1, none⟩ = some (.slice none 0 0) := s2.cell 1
      have hsp := spread T 36 hT
      simp only [List.range, List.range.loop, List.map_cons, List.map_nil, q2, q3] at hsp
      rw [hsp]
      exact bodyPost_ret (v := .tuple #[.agg zeroDm, .int .i64 1]) (by simp [results, Try.results13, go_sem, b0, b1]) rfl (by rw [HR.out]; exact HG.out)
    have FIN := Lib.hid fin
    clear fin HG s2
    rcases h1 with h1 | h1
    · have k1 : ((l.length : Int) == 0) = true := by have : (l.length : Int) = 0 := by omega
                                                     simp [this]
      clear h1
      go_wp2_with (refine wpList_store_row rfl 30 _ _ rfl w.heap.size zeroDm rfl rfl 30 _ S2.out dmSize rfl (dm_one none 0 ⟨0, []⟩) ?_)
      exact FIN.out _ rfl rfl rfl
    · have k1 : ((l.length : Int) == 0) = false := by
        have : ¬ (l.length : Int) = 0 := by omega
        simpa using this
      have k2 : (4 : Int) < (l.length : Int) := by omega
      clear h1
      go_wp2_with (refine wpList_store_row rfl 30 _ _ rfl w.heap.size zeroDm rfl rfl 30 _ S2.out dmSize rfl (dm_one none 0 ⟨0, []⟩) ?_)
      exact FIN.out _ rfl rfl rfl
  · have HLL := Lib.hid (show 1 ≤ l.length ∧ l.length ≤ 4 by omega)
    have k1 : ((l.length : Int) == 0) = false := by
      have : ¬ (l.length : Int) = 0 := by omega
      simpa using this
    have k2 : ¬ (4 : Int) < (l.length : Int) := by omega
    have i2 : (l.length : Int) ≤ 4 := by omega
    have HR : Hid (dBeginE l = (dBegin l, 0)) := Lib.hid (by unfold dBeginE; rw [if_neg h1])
    clear h1
    generalize w.alloc (.cells zeroDm 30) = w0 at S2 HB HSZ ⊢
    have hz := HSZ.out
    go_upto_region 4 with (fail)
    have H0 : Hid (DBg w none 0 l.length (bgL l 0) (w0.alloc (.cells #[.int .i64 (l.length : Nat), .slice none 0 0] 30))) := Lib.hid
      ⟨S2.out.alloc _, Sits.made HSZ.out.symm _ _, nil_cut _ _ _ _, (HB.out).trans ((one_low w0 _).mono (by have := HSZ.out; omega))⟩
    clear hz k1 k2
    generalize w0.alloc (.cells #[.int .i64 (l.length : Nat), .slice none 0 0] 30) = w1 at H0 ⊢
    clear S2 HB HSZ
    go_wp2_with fail
    go_loopg [5] l.length (fun gg v5 wx => ∃ k r d, k ≤ l.length ∧ gg = l.length - k ∧ v5 = .int .i64 (k : Nat) ∧ Hid (DBg w r d l.length (bgL l k) wx))
    case atStart => exact ⟨0, none, 0, by omega, by omega, rfl, H0⟩
    case round =>
      obtain ⟨k, r, d, hk, rfl, rfl, H4⟩ := hrel
      by_cases hlt : k < l.length
      · have hx : l[k]? = some l[k] := List.getElem?_eq_getElem hlt
        obtain ⟨g, o, rfl, lg, cx⟩ := (HN.out.below H4.out.low) k _ hx
        have HXS := Lib.hid (bgL_succ hx)
        generalize l[k] = x at hx cx HXS
        have HK := Lib.hid hlt
        have j1 : (k : Int) < (l.length : Int) := by omega
        have j0 : (0 : Int) ≤ (k : Int) := by omega
        have j2 : k ≤ 4 := by have := HLL.out; omega
        clear hx hlt hk
        go_upto_region 7 with (fail)
        refine wp_flowA rel_below [24, 25, 26, 27, 28, 29, 30, 31, 32, 33, 34] [eqV (.pointer (some ⟨w.heap.size + 1, 1, none⟩)), eqV (.slice r (bgL l k).length d), eqV (.int .i64 (k : Nat)), eqV (.slice (some ⟨g, o, none⟩) l.length c), eqV (.int .i64 (k : Nat)), eqV (.pointer (some ⟨g, o + k, none⟩)), eqV (.int .u64 x), eqV (.agg #[.int .i64 (k : Nat), .int .i64 0, .int .i64 0, .int .u64 x, .int .i64 0, .int .i64 0, .int .i64 0, .int .i64 0, .int .i64 0, .int .i64 0, .int .i64 0, .int .i64 0, .bool false, .int .i64 (-1)]), rowV 60 1 #[.int .i64 (k : Nat), .int .i64 0, .int .i64 0, .int .u64 x, .int .i64 0, .int .i64 0, .int .i64 0, .int .i64 0, .int .i64 0, .int .i64 0, .int .i64 0, .int .i64 0, .bool false, .int .i64 (-1)], fun _ _ => True, eqV (.pointer (some ⟨w.heap.size + 1, 1, none⟩))] 9 [(10, .pointer (some ⟨w.heap.size + 1, 1, none⟩))]
          (fun u W2 => ∃ r2 d2, u = .slice r2 (bgL l (k + 1)).length d2 ∧ Cut2 60 14 (w.heap.size + 2) W2 r2 (bgL l (k + 1)).length d2 (cellsOf rtL (bgL l (k + 1))) ∧ Below (w.heap.size + 2) wr W2) (fun _ _ => False)
          (by kernel_rfl) (by kernel_rfl) (by kernel_rfl) (by kernel_rfl) (by rfl)
          (by simp only [List.mem_cons, List.not_mem_nil, or_false, forall_eq_or_imp, forall_eq]; refine ⟨?_, ?_, ?_, ?_, ?_, ?_, ?_, ?_, ?_, ?_, ?_⟩ <;> (first | exact eqV_monoR _ | exact rowV_monoR _ _ _ | exact fun _ _ _ _ _ => trivial)) ?_ ?_ ?_ (fun _ _ _ h => h.elim) ?_
        · intro i o hi hia ho A W hW hk he
          simp only [List.length_cons, List.length_nil, Nat.zero_add, Nat.reduceAdd] at hi
          obtain rfl | rfl | rfl | rfl | rfl | rfl | rfl | rfl | rfl | rfl | rfl : i = 0 ∨ i = 1 ∨ i = 2 ∨ i = 3 ∨ i = 4 ∨ i = 5 ∨ i = 6 ∨ i = 7 ∨ i = 8 ∨ i = 9 ∨ i = 10 := by omega
          · injection ho with ho; subst ho
            refine .inl ⟨wanted_free rfl, ?_⟩
            have h4 : A.tmps[4]?.getD undef = .pointer (some ⟨w.heap.size + 1, 0, none⟩) := hk 4 (by rfl)
            go_simp
            exact ⟨rfl, Below.refl _ _⟩
          · injection ho with ho; subst ho
            refine .inl ⟨wanted_free rfl, ?_⟩
            have h24 : A.tmps[24]?.getD undef = .pointer (some ⟨w.heap.size + 1, 1, none⟩) := he 0 (by kernel_rfl)
            have c0 := ((H4.out.grown hW).at4).cell 1
            go_simp
            exact ⟨rfl, Below.refl _ _⟩
          · injection ho with ho; subst ho
            refine .inl ⟨wanted_free rfl, ?_⟩
            have h5 : A.tmps[5]?.getD undef = .int .i64 (k : Nat) := hk 5 (by rfl)
            go_simp
            exact ⟨rfl, Below.refl _ _⟩
          · injection ho with ho; subst ho
            refine .inl ⟨wanted_free rfl, ?_⟩
            have h0 : A.tmps[0]?.getD undef = .slice (some ⟨g, o, none⟩) l.length c := hk 0 (by rfl)
            go_simp
            exact ⟨rfl, Below.refl _ _⟩
          · injection ho with ho; subst ho
            refine .inl ⟨wanted_free rfl, ?_⟩
            have h5 : A.tmps[5]?.getD undef = .int .i64 (k : Nat) := hk 5 (by rfl)
            go_simp
            exact ⟨rfl, Below.refl _ _⟩
          · injection ho with ho; subst ho
            refine .inl ⟨wanted_free rfl, ?_⟩
            have h27 : A.tmps[27]?.getD undef = .slice (some ⟨g, o, none⟩) l.length c := he 3 (by kernel_rfl)
            have h28 : A.tmps[28]?.getD undef = .int .i64 (k : Nat) := he 4 (by kernel_rfl)
            go_simp
            exact ⟨rfl, Below.refl _ _⟩
          · injection ho with ho; subst ho
            refine .inl ⟨wanted_free rfl, ?_⟩
            have h29 : A.tmps[29]?.getD undef = .pointer (some ⟨g, o + k, none⟩) := he 5 (by kernel_rfl)
            have c0 := (hW.cell (p := ⟨g, o + k, none⟩) lg).trans cx
            go_simp
            exact ⟨rfl, Below.refl _ _⟩
          · injection ho with ho; subst ho
            refine .inl ⟨wanted_free rfl, ?_⟩
            have h26 : A.tmps[26]?.getD undef = .int .i64 (k : Nat) := he 2 (by kernel_rfl)
            have h30 : A.tmps[30]?.getD undef = .int .u64 x := he 6 (by kernel_rfl)
            go_simp
            exact ⟨rfl, Below.refl _ _⟩
          · injection ho with ho; subst ho
            refine .inl ⟨wanted_free rfl, ?_⟩
            have h31 : A.tmps[31]?.getD undef = .agg #[.int .i64 (k : Nat), .int .i64 0, .int .i64 0, .int .u64 x, .int .i64 0, .int .i64 0, .int .i64 0, .int .i64 0, .int .i64 0, .int .i64 0, .int .i64 0, .int .i64 0, .bool false, .int .i64 (-1)] := he 7 (by kernel_rfl)
            go_simp
            exact ⟨⟨_, rfl, Sits.new _ _ _⟩, (Below.refl _ _).alloc (Nat.le_refl _) _⟩
          · exact absurd rfl hia
          · injection ho with ho; subst ho
            refine .inl ⟨wanted_free rfl, ?_⟩
            have h4 : A.tmps[4]?.getD undef = .pointer (some ⟨w.heap.size + 1, 0, none⟩) := hk 4 (by rfl)
            go_simp
            exact ⟨rfl, Below.refl _ _⟩
        · intro o _ ho A W hW hk he
          injection ho with ho; subst ho
          have h25 : A.tmps[25]?.getD undef = .slice r (bgL l k).length d := he 1 (by kernel_rfl)
          obtain ⟨gr32, h32, hr32⟩ : rowV 60 1 #[.int .i64 (k : Nat), .int .i64 0, .int .i64 0, .int .u64 x, .int .i64 0, .int .i64 0, .int .i64 0, .int .i64 0, .int .i64 0, .int .i64 0, .int .i64 0, .int .i64 0, .bool false, .int .i64 (-1)] (A.tmps[32]?.getD undef) W := he 8 (by kernel_rfl)
          have hC := (H4.out.grown hW).cut
          have hz : w.heap.size + 2 ≤ wr.heap.size := H4.out.at4.lt
          refine ⟨by rfl, oper_append_cut2 rowRt (.tmp 25) (.tmp 32) rfl ((eval_form A 25).trans h25) hC (by have := hW.size; omega) (some ⟨gr32, 0, none⟩) 1 1 (cellsOf rtL [firstD k x]) ((eval_form A 32).trans h32) rfl (rts_new (x := firstD k x) hr32).lay (rts_one _) (by rw [bgL_len]; unfold maxLen; omega) (by rw [bgL_len]; omega) ?_⟩
          intro r2 d2 W2 _ hb2 hc2
          have hl : (bgL l (k + 1)).length = (bgL l k).length + 1 := by rw [bgL_len, bgL_len]
          refine ⟨_, rfl, r2, d2, by rw [hl], ?_, (hW.mono hz).trans hb2⟩
          rw [hl, HXS.out, cells_append]; exact hc2
        · intro q hq hlt o ho
          simp only [List.mem_cons, List.not_mem_nil, or_false] at hq
          obtain rfl := hq
          · injection ho with ho; subst ho
            refine ⟨fun u w h => h, fun A W hk => ⟨by rfl, ?_⟩⟩
            have h4 : A.tmps[4]?.getD undef = .pointer (some ⟨w.heap.size + 1, 0, none⟩) := hk 4 (by rfl)
            go_simp
        · intro xs W _ hJ hP
          obtain ⟨r2, d2, e9, hc2, hb2⟩ := hJ (by decide)
          have e10 := hP (10, .pointer (some ⟨w.heap.size + 1, 1, none⟩)) (List.mem_singleton.2 rfl) (show 10 < 11 by decide)
          simp only at e10
          have HN4 := Lib.hid (H4.out.put hb2 hc2)
          have hg4 := H4.out.at4.below hb2 (by omega)
          have c1 : W.cell? ⟨w.heap.size + 1, 1, none⟩ = some (.slice r (bgL l k).length d) := hg4.cell 1
          have f1 := hg4.free 1
          have l1 := hg4.lt
          simp only [List.length_cons, List.length_nil, Nat.zero_add, Nat.reduceAdd, List.drop_succ_cons, List.drop_zero, putL, Act.put, List.setIfInBounds_toArray, List.set_cons_zero, List.set_cons_succ, e9, e10]
          clear hJ hP hb2 hc2 hg4 e9 e10
          go_wp2_with fail
          go_roundg (l.length - (k + 1))
          case measure => have := HK.out; omega
          case rel => exact ⟨k + 1, r2, d2, by have := HK.out; omega, rfl, by go_num, HN4⟩
      · obtain rfl : k = l.length := by omega
        clear hlt hk
        have lb := H4.out.at4.lt
        have b0 : wr.cell? ⟨w.heap.size + 1, 0, none⟩ = some (.int .i64 (l.length : Nat)) := H4.out.at4.cell 0
        have b1 : wr.cell? ⟨w.heap.size + 1, 1, none⟩ = some (.slice r (bgL l l.length).length d) := H4.out.at4.cell 1
        have HDM : Hid (dmV r d (dBegin l) = .agg #[.int .i64 (l.length : Nat), .slice r (bgL l l.length).length d]) := Lib.hid rfl
        go_wp2_with (refine wpList_store_row rfl 30 _ _ rfl w.heap.size (dmCells r d (dBegin l)) rfl rfl 30 _ H4.out.at2 dmSize rfl (dm_one _ _ _) ?_)
        have s2 : Sits (wr.setRow w.heap.size (dmCells r d (dBegin l))) w.heap.size 30 (dmCells r d (dBegin l)) := setRow_heap wr _ _ _ _ _ H4.out.at2
        have HG : Hid (GivesDE (dBegin l, 0) w (.returned (.tuple #[dmV r d (dBegin l), .int .i64 0])) (wr.setRow w.heap.size (dmCells r d (dBegin l)))) := Lib.hid
          ⟨r, d, rfl, ⟨rts_row (H4.out.cut.lay.rts) (rts_far H4.out.cut.lay.rts H4.out.at2 zeroDm_plain) _, H4.out.cut.room⟩, row_low H4.out.low (Nat.le_refl _) _⟩
        generalize wr.setRow w.heap.size (dmCells r d (dBegin l)) = W2 at s2 HG ⊢
        clear b0 b1 lb
        have b0 : W2.cell? ⟨w.heap.size, 0, none⟩ = some (.int .i64 (l.length : Nat)) := s2.cell 0
        have b1 : W2.cell? ⟨w.heap.size, 1, none⟩ = some (.slice r (bgL l l.length).length d) := s2.cell 1
        exact bodyPost_ret (v := .tuple #[.agg #[.int .i64 (l.length : Nat), .slice r (bgL l l.length).length d], .int .i64 0]) (by simp [results, Try.results13, go_sem, b0, b1]) rfl (by rw [HR.out]; exact HG.out)
end Go.Proofs.Ytgkgpehjedmejaa.Mmr
