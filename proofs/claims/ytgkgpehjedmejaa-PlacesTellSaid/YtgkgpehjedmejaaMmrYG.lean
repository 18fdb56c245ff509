/- Layer 11 (memory): the document's Add. -/
import Derived.Test.YtgkgpehjedmejaaMmrYF
namespace Go.Proofs.Ytgkgpehjedmejaa.Mmr
open Go.RowKit Go.Proofs.Ytgkgpehjedmejaa.Mem Go.Proofs.Ytgkgpehjedmejaa.Flow

theorem structRV : Try.prog.underlying 58 = some (.struct (Try.prog.fieldsOf 58)) := by kernel_rfl
theorem heldRV : Try.prog.stoodInHeld 58 = false := by kernel_rfl
theorem eq_rvw (f g : Nat → Int) (W : World) : (Op.equalIn 10000 58 (Vew.vewV f) (Vew.vewV g)).run Try.prog W = .ok (Vew.sameF 8 f g) W := by
  have e1 : ∀ W, (Op.equalIn 9999 48 (Vew.arr f) (Vew.arr g)).run Try.prog W = .ok (Vew.sameF 4 f g) W := fun W => Vew.eq_arr 9997 f g W
  have e2 : ∀ W, (Op.equalIn 9999 48 (Vew.arr (Vew.from_ 4 f)) (Vew.arr (Vew.from_ 4 g))).run Try.prog W = .ok (Vew.sameF 4 (Vew.from_ 4 f) (Vew.from_ 4 g)) W := fun W => Vew.eq_arr 9997 (Vew.from_ 4 f) (Vew.from_ 4 g) W
  simp only [Vew.arr, Vew.from_] at e1 e2
  rw [Vew.same8, show (10000 : Nat) = 9999 + 1 from rfl, run_equalIn_agg W 9999 58 _ _ structRV heldRV]
  simp only [Program.fieldsOf, Try.underlying58]
  have a4 := Try.isAgg48
  have z4 := Try.sizeOf48
  generalize Vew.sameF 4 f g = b1 at e1 ⊢
  generalize Vew.sameF 4 (Vew.from_ 4 f) (Vew.from_ 4 g) = b2 at e2 ⊢
  go_simp
  cases b1 <;> cases b2 <;> rfl
theorem neq_rvw (f g : Nat → Int) (W : World) : (binOp .neq 58 (Vew.vewV f) (Vew.vewV g)).run Try.prog W = .ok (.bool (!Vew.sameF 8 f g)) W := by
  rw [run_neq_struct, eq_rvw]; rfl
theorem guard_rvw (op : BinOp) (x y : Operand) (f g : Nat → Int) (W : World) : (eqGuard op 58 x y (Vew.vewV f) (Vew.vewV g)).run Try.prog W = .ok () W :=
  run_eqGuard_agg W op 58 x y _ _ (by kernel_rfl)
theorem dmay_no {m : Dm} {x : It} (h : x.loc < 0 ∨ (m.n : Int) ≤ x.loc ∨ x.owner < -1 ∨ 3 < x.owner ∨ Spn.mayF x.a x.b = false ∨ x.b = 0 ∨ rightF x.v = false ∨ (x.res = true ∧ x.n ≠ 0) ∨ (x.res = true ∧ Vew.sameF 8 x.v Vew.zeroF = false)) : Value.bool true = .bool (!dMay m x) := by
  have : dMay m x = false := by
    unfold dMay dHas bareI
    rcases h with h | h | h | h | h | h | h | ⟨h, h'⟩ | ⟨h, h'⟩
    · rw [show decide (0 ≤ x.loc ∧ x.loc < (m.n : Nat)) = false from decide_eq_false (by omega)]; simp
    · rw [show decide (0 ≤ x.loc ∧ x.loc < (m.n : Nat)) = false from decide_eq_false (by omega)]; simp
    · rw [show decide (-1 ≤ x.owner) = false from decide_eq_false (by omega)]; simp
    · rw [show decide (x.owner ≤ 3) = false from decide_eq_false (by omega)]; simp
    · simp [h]
    · simp [h]
    · simp [h]
    · simp [h, h']
    · simp [h, h']
  rw [this]; rfl
theorem dmay_yes {m : Dm} {x : It} (h1 : ¬ x.loc < 0) (h2 : ¬ (m.n : Int) ≤ x.loc) (h3 : ¬ x.owner < -1) (h4 : ¬ 3 < x.owner) (h5 : Spn.mayF x.a x.b = true) (h6 : ¬ x.b = 0) (h7 : rightF x.v = true) (h8 : bareI x = true) : Value.bool false = .bool (!dMay m x) := by
  have : dMay m x = true := by
    unfold dMay dHas
    rw [show decide (0 ≤ x.loc ∧ x.loc < (m.n : Nat)) = true from decide_eq_true (by omega), show decide (-1 ≤ x.owner) = true from decide_eq_true (by omega), show decide (x.owner ≤ 3) = true from decide_eq_true (by omega), h5, h7, h8]
    simp [h6]
  rw [this]; rfl
abbrev zeroVw : Array Value := #[.int .i64 0, .int .i64 0, .int .i64 0, .int .i64 0, .int .i64 0, .int .i64 0, .int .i64 0, .int .i64 0]
theorem cutW_mono (B n : Nat) (xs : List Value) : Mono (fun u W => ∃ r d, u = .slice r n d ∧ Cut2 60 14 B W r n d xs) := fun _ _ _ ⟨r, d, e, h⟩ hb => ⟨r, d, e, h.below hb⟩
structure DAd (w : World) (q : Option Addr) (c : Nat) (m : Dm) (x : It) (z : Array Value) (W : World) : Prop where
  at2 : Sits W w.heap.size 30 (dmCells q c m)
  at3 : Sits W (w.heap.size + 1) 60 (rtCells x)
  at4 : Sits W (w.heap.size + 1 + 1) 30 z
  hold : HoldD W q c m
  low : Below w.heap.size w W
theorem DAd.grown {w W W' : World} {q : Option Addr} {c : Nat} {m : Dm} {x : It} {z : Array Value} (h : DAd w q c m x z W) (hb : Below W.heap.size W W') : DAd w q c m x z W' :=
  ⟨h.at2.below hb h.at2.lt, h.at3.below hb h.at3.lt, h.at4.below hb h.at4.lt, h.hold.below hb, h.low.trans (hb.mono h.low.size)⟩
theorem DAd.out {w W : World} {q : Option Addr} {c : Nat} {m : Dm} {x : It} (h : DAd w q c m x zeroDm W) (a : Int) :
    GivesDE (m, a) w (.returned (.tuple #[dmV q c m, .int .i64 a])) (W.setRow (w.heap.size + 1 + 1) (dmCells q c m)) ∧ Sits (W.setRow (w.heap.size + 1 + 1) (dmCells q c m)) (w.heap.size + 1 + 1) 30 (dmCells q c m) :=
  ⟨⟨q, c, rfl, ⟨rts_row h.hold.row (rts_far h.hold.row h.at4 zeroDm_plain) _, h.hold.cap⟩, row_low h.low (by omega) _⟩, setRow_heap W _ _ _ _ _ h.at4⟩
theorem DAd.added {w W W4 : World} {q r4 : Option Addr} {c d4 : Nat} {m : Dm} {x : It} (h : DAd w q c m x zeroDm W) (hb : Below (w.heap.size + 1 + 1 + 1) W W4) (hc : Cut2 60 14 (w.heap.size + 1 + 1 + 1) W4 r4 (m.l.length + 1) d4 (cellsOf rtL m.l ++ cellsOf rtL [x])) :
    DAd w r4 d4 ⟨m.n, m.l ++ [x]⟩ x zeroDm (W4.setCell ⟨w.heap.size, 1, none⟩ (.slice r4 (m.l.length + 1) d4)) := by
  have e : (m.l ++ [x]).length = m.l.length + 1 := by simp
  refine ⟨?_, (h.at3.below hb (by omega)).far (by show w.heap.size + 1 ≠ w.heap.size; omega) _, (h.at4.below hb (by omega)).far (by show w.heap.size + 1 + 1 ≠ w.heap.size; omega) _, ⟨?_, ?_⟩, set_low (h.low.trans (hb.mono (by omega))) (Nat.le_refl _) _ _⟩
  · have := (h.at2.below hb (by omega)).put 1 (.slice r4 (m.l.length + 1) d4)
    simp only [dmCells, e]
    exact this
  · have := (hc.far (g := w.heap.size) (by omega) 1 (.slice r4 (m.l.length + 1) d4)).lay
    rw [← cells_append] at this
    exact this.rts
  · show (m.l ++ [x]).length ≤ d4
    rw [e]; exact hc.room
set_option maxRecDepth 100000 in
set_option maxHeartbeats 4000000 in
theorem dadd_any (q : Option Addr) (c : Nat) (m : Dm) (hn : m.l.length ≤ 1000) (hM : ∀ y ∈ m.l, Spn.mayF y.a y.b = true) (x : It) (w : World) (hH : HoldD w q c m) :
    Calls Try.prog 14 #[dmV q c m, rtV x] w (GivesDE (dAdd m x) w) := by
  have H0 : Hid (DAd w q c m x zeroDm (((w.alloc (.cells (dmCells q c m) 30)).alloc (.cells (rtCells x) 60)).alloc (.cells zeroDm 30))) := Lib.hid
    ⟨((Sits.new _ _ _).alloc _).alloc _, (Sits.made (by simp) _ _).alloc _, Sits.made (by simp) _ _, hH.below (Vew.below3 _ _ _ _), Vew.below3 _ _ _ _⟩
  have HN := Lib.hid hn
  have HM := Lib.hid hM
  clear hn hM hH
  go_enter Try.func14, Try.ntmps14
  go_upto_region 1 with (fail)
  generalize (((w.alloc (.cells (dmCells q c m) 30)).alloc (.cells (rtCells x) 60)).alloc (.cells zeroDm 30)) = w0 at H0 ⊢
  refine wp_cut (fun A W => Fr 102 [(2, .pointer (some ⟨w.heap.size, 0, none⟩)), (3, .pointer (some ⟨w.heap.size + 1, 0, none⟩)), (4, .pointer (some ⟨w.heap.size + 1 + 1, 0, none⟩)), (5, .int .i64 0), (60, .bool (!dMay m x))] A ∧ DAd w q c m x zeroDm W) ?rest ?first
  case first =>
    intro J K hJ hK
    have lb := H0.out.at2.lt
    have b0 : w0.cell? ⟨w.heap.size, 0, none⟩ = some (.int .i64 (m.n : Nat)) := H0.out.at2.cell 0
    have lr := H0.out.at3.lt
    obtain ⟨c0, c1, c2, c3, c4, c5, c6, c7, c8, c9, c10, c11, c12, c13⟩ := rtAt_sits H0.out.at3
    rw [Nat.zero_add] at c1 c2 c3 c4 c5 c6 c7 c8 c9 c10 c11 c12 c13
    by_cases h1 : x.loc < 0
    · go_wp2_with fail
      refine Met.intro ?_
      go_step
      exact ⟨⟨rfl, rfl, by simp only [List.mem_cons, List.not_mem_nil, or_false, forall_eq_or_imp, forall_eq]; exact ⟨rfl, rfl, rfl, rfl, dmay_no (.inl h1)⟩⟩, H0.out⟩
    by_cases h2 : (m.n : Int) ≤ x.loc
    · go_wp2_with fail
      refine Met.intro ?_
      go_step
      exact ⟨⟨rfl, rfl, by simp only [List.mem_cons, List.not_mem_nil, or_false, forall_eq_or_imp, forall_eq]; exact ⟨rfl, rfl, rfl, rfl, dmay_no (.inr (.inl h2))⟩⟩, H0.out⟩
    by_cases h3 : x.owner < -1
    · go_wp2_with fail
      refine Met.intro ?_
      go_step
      exact ⟨⟨rfl, rfl, by simp only [List.mem_cons, List.not_mem_nil, or_false, forall_eq_or_imp, forall_eq]; exact ⟨rfl, rfl, rfl, rfl, dmay_no (.inr (.inr (.inl h3)))⟩⟩, H0.out⟩
    by_cases h4 : 3 < x.owner
    · go_wp2_with fail
      refine Met.intro ?_
      go_step
      exact ⟨⟨rfl, rfl, by simp only [List.mem_cons, List.not_mem_nil, or_false, forall_eq_or_imp, forall_eq]; exact ⟨rfl, rfl, rfl, rfl, dmay_no (.inr (.inr (.inr (.inl h4))))⟩⟩, H0.out⟩
    go_wp2_with fail
    refine (Spn.rmay_any x.a x.b w0).mono ?_
    rintro e w1 ⟨rfl, hb⟩
    have H1 := Lib.hid (H0.out.grown hb)
    clear hb H0 lb b0 lr c0 c1 c2 c3 c4 c5 c6 c7 c8 c9 c10 c11 c12 c13
    have lr := H1.out.at3.lt
    obtain ⟨c0, c1, c2, c3, c4, c5, c6, c7, c8, c9, c10, c11, c12, c13⟩ := rtAt_sits H1.out.at3
    rw [Nat.zero_add] at c1 c2 c3 c4 c5 c6 c7 c8 c9 c10 c11 c12 c13
    cases h5 : Spn.mayF x.a x.b
    · go_wp2_with fail
      refine Met.intro ?_
      go_step
      exact ⟨⟨rfl, rfl, by simp only [List.mem_cons, List.not_mem_nil, or_false, forall_eq_or_imp, forall_eq]; exact ⟨rfl, rfl, rfl, rfl, dmay_no (.inr (.inr (.inr (.inr (.inl h5)))))⟩⟩, H1.out⟩
    by_cases h6 : x.b = 0
    · go_wp2_with fail
      refine Met.intro ?_
      go_step
      exact ⟨⟨rfl, rfl, by simp only [List.mem_cons, List.not_mem_nil, or_false, forall_eq_or_imp, forall_eq]; exact ⟨rfl, rfl, rfl, rfl, dmay_no (.inr (.inr (.inr (.inr (.inr (.inl h6))))))⟩⟩, H1.out⟩
    have h6' : (x.b == 0) = false := by simpa using h6
    go_wp2_with fail
    refine (right_any x.v w1).mono ?_
    rintro e w2 ⟨rfl, hb⟩
    have H2 := Lib.hid (H1.out.grown hb)
    clear hb H1 lr c0 c1 c2 c3 c4 c5 c6 c7 c8 c9 c10 c11 c12 c13
    have lr := H2.out.at3.lt
    obtain ⟨c0, c1, c2, c3, c4, c5, c6, c7, c8, c9, c10, c11, c12, c13⟩ := rtAt_sits H2.out.at3
    rw [Nat.zero_add] at c1 c2 c3 c4 c5 c6 c7 c8 c9 c10 c11 c12 c13
    cases h7 : rightF x.v
    · go_wp2_with fail
      refine Met.intro ?_
      go_step
      exact ⟨⟨rfl, rfl, by simp only [List.mem_cons, List.not_mem_nil, or_false, forall_eq_or_imp, forall_eq]; exact ⟨rfl, rfl, rfl, rfl, dmay_no (.inr (.inr (.inr (.inr (.inr (.inr (.inl h7)))))))⟩⟩, H2.out⟩
    cases h8 : x.res
    · rw [h8] at c12
      go_wp2_with fail
      refine Met.intro ?_
      go_step
      exact ⟨⟨rfl, rfl, by simp only [List.mem_cons, List.not_mem_nil, or_false, forall_eq_or_imp, forall_eq]; exact ⟨rfl, rfl, rfl, rfl, dmay_yes (m := m) (x := x) (by omega) (by omega) (by omega) (by omega) h5 (by omega) h7 (by unfold bareI; rw [h8]; rfl)⟩⟩, H2.out⟩
    rw [h8] at c12
    by_cases h9 : x.n ≠ 0
    · go_wp2_with fail
      refine Met.intro ?_
      go_step
      exact ⟨⟨rfl, rfl, by simp only [List.mem_cons, List.not_mem_nil, or_false, forall_eq_or_imp, forall_eq]; exact ⟨rfl, rfl, rfl, rfl, dmay_no (.inr (.inr (.inr (.inr (.inr (.inr (.inr (.inl ⟨h8, h9⟩))))))))⟩⟩, H2.out⟩
    have hq : ∀ W, (binOp .neq 58 (.agg (Vew.vewCells x.v)) (.agg zeroVw)).run Try.prog W = .ok (.bool (!Vew.sameF 8 x.v Vew.zeroF)) W := fun W => neq_rvw x.v Vew.zeroF W
    have hgd : ∀ u v W, (eqGuard .neq 58 u v (.agg (Vew.vewCells x.v)) (.agg zeroVw)).run Try.prog W = .ok () W := fun u v W => guard_rvw .neq u v x.v Vew.zeroF W
    cases h10 : Vew.sameF 8 x.v Vew.zeroF
    · rw [h10] at hq
      go_wp2_with fail
      refine Met.intro ?_
      go_step
      exact ⟨⟨rfl, rfl, by simp only [List.mem_cons, List.not_mem_nil, or_false, forall_eq_or_imp, forall_eq]; exact ⟨rfl, rfl, rfl, rfl, dmay_no (.inr (.inr (.inr (.inr (.inr (.inr (.inr (.inr ⟨h8, h10⟩))))))))⟩⟩, H2.out⟩
    · rw [h10] at hq
      go_wp2_with fail
      refine Met.intro ?_
      go_step
      exact ⟨⟨rfl, rfl, by simp only [List.mem_cons, List.not_mem_nil, or_false, forall_eq_or_imp, forall_eq]; exact ⟨rfl, rfl, rfl, rfl, dmay_yes (m := m) (x := x) (by omega) (by omega) (by omega) (by omega) h5 (by omega) h7 (by unfold bareI; have : x.n = 0 := Classical.not_not.1 h9; simp [h10, this])⟩⟩, H2.out⟩
  case rest =>
    rintro ⟨T, D⟩ w1 ⟨hF, hW⟩
    obtain ⟨hsz, hdf, hat⟩ := hF
    simp only [List.mem_cons, List.not_mem_nil, or_false, forall_eq_or_imp, forall_eq] at hsz hdf hat
    obtain ⟨q2, q3, q4, q5, q60⟩ := hat
    subst hdf
    have hsp := spread T 102 hsz
    simp only [List.range, List.range.loop, List.map_cons, List.map_nil, q2, q3, q4, q5, q60] at hsp
    rw [hsp]
    clear hsp hsz q2 q3 q4 q5 q60
    have H1 := Lib.hid hW
    clear hW H0
    have lb := H1.out.at2.lt
    have b0 : w1.cell? ⟨w.heap.size, 0, none⟩ = some (.int .i64 (m.n : Nat)) := H1.out.at2.cell 0
    have b1 : w1.cell? ⟨w.heap.size, 1, none⟩ = some (.slice q m.l.length c) := H1.out.at2.cell 1
    cases hd : dMay m x
    · have HR : Hid (dAdd m x = (m, 1)) := Lib.hid (by unfold dAdd; rw [if_pos hd])
      clear hd
      go_wp2_with (refine wpList_store_row rfl 30 _ _ rfl (w.heap.size + 1 + 1) (dmCells q c m) rfl rfl 30 _ H1.out.at4 dmSize rfl (dm_one _ _ _) ?_)
      have HG := Lib.hid (H1.out.out 1)
      generalize w1.setRow (w.heap.size + 1 + 1) (dmCells q c m) = W3 at HG ⊢
      clear b0 b1 lb
      have s := HG.out.2
      have b0 : W3.cell? ⟨w.heap.size + 1 + 1, 0, none⟩ = some (.int .i64 (m.n : Nat)) := s.cell 0
      have b1 : W3.cell? ⟨w.heap.size + 1 + 1, 1, none⟩ = some (.slice q m.l.length c) := s.cell 1
      clear s
      exact bodyPost_ret (v := .tuple #[dmV q c m, .int .i64 1]) (by simp [results, Try.results14, go_sem, b0, b1]) rfl (by rw [HR.out]; exact HG.out.1)
    have HD := Lib.hid hd
    have HXM : Hid (Spn.mayF x.a x.b = true) := Lib.hid (by unfold dMay at hd; simp only [Bool.and_eq_true] at hd; exact hd.1.1.1.2)
    clear hd
    go_wp2_with fail
    go_loopg [6, 7] m.l.length (fun gg v6 v7 wx => ∃ k, k ≤ m.l.length ∧ gg = m.l.length - k ∧ v6 = .int .i64 ((atL (m.l.take k) x.loc).length : Nat) ∧ v7 = .int .i64 (k : Nat) ∧ Hid (∀ y ∈ atL (m.l.take k) x.loc, apartI y x = true) ∧ Hid (DAd w q c m x zeroDm wx))
    case atStart => exact ⟨0, by omega, by omega, rfl, rfl, Lib.hid (fun y hy => by simp [atL] at hy), H1⟩
    case round =>
      obtain ⟨k, hk, rfl, rfl, rfl, HF, HW⟩ := hrel
      clear lb b0 b1
      have lb := HW.out.at2.lt
      have b0 : wr.cell? ⟨w.heap.size, 0, none⟩ = some (.int .i64 (m.n : Nat)) := HW.out.at2.cell 0
      have b1 : wr.cell? ⟨w.heap.size, 1, none⟩ = some (.slice q m.l.length c) := HW.out.at2.cell 1
      have lr := HW.out.at3.lt
      obtain ⟨c0, c1, c2, c3, c4, c5, c6, c7, c8, c9, c10, c11, c12, c13⟩ := rtAt_sits HW.out.at3
      rw [Nat.zero_add] at c1 c2 c3 c4 c5 c6 c7 c8 c9 c10 c11 c12 c13
      have HTL := Lib.hid (show (atL (m.l.take k) x.loc).length ≤ k by
        refine Nat.le_trans (List.length_filter_le _ _) ?_
        rw [List.length_take]; omega)
      by_cases hlt : k < m.l.length
      · have hx : m.l[k]? = some m.l[k] := List.getElem?_eq_getElem hlt
        have HX := Lib.hid hx
        have HMY := Lib.hid (HM.out _ (List.getElem_mem hlt))
        obtain ⟨g, o, rfl, lg, hc⟩ := HW.out.hold.row.there hx
        generalize m.l[k] = y at hx hc HX HMY
        obtain ⟨d0, d1, d2, d3, d4, d5, d6, d7, d8, d9, d10, d11, d12, d13⟩ := hc
        have j1 : (k : Int) < (m.l.length : Int) := by omega
        have j0 : (0 : Int) ≤ (k : Int) := by omega
        have j2 : (m.l.length : Int) ≤ 1000 := by have := HN.out; omega
        have HK := Lib.hid hlt
        clear hx hlt hk
        by_cases hl : y.loc = x.loc
        · have hl' : (y.loc != x.loc) = false := by simpa using hl
          have HY : Hid (atL (m.l.take (k + 1)) x.loc = atL (m.l.take k) x.loc ++ [y]) := Lib.hid (by
            rw [List.take_add_one, HX.out, Option.toList_some, atL_append, atL_yes hl]; rfl)
          have HL := Lib.hid hl
          clear hl
          have i3 : ((atL (m.l.take k) x.loc).length : Int) ≤ 1000 := by have := HTL.out; have := HN.out; have := HK.out; omega
          generalize hat : atL (m.l.take k) x.loc = al at HF HTL HY i3 ⊢
          clear hat
          go_wp2_with fail
          go_quiet (fail)
          go_upto_region 9 with (fail)
          have HW3 : Hid (DAd w (some ⟨g, o, none⟩) c m x zeroDm (wr.drewN nq)) := Lib.hid (HW.out.grown (drewN_below (Below.refl _ wr) nq))
          clear b0 b1 lb lr c0 c1 c2 c3 c4 c5 c6 c7 c8 c9 c10 c11 c12 c13 d0 d1 d2 d3 d4 d5 d6 d7 d8 d9 d10 d11 d12 d13 lg hl' HW
          generalize wr.drewN nq = w3 at HW3 ⊢
          have HAP := Lib.hid (fun W => Spn.rapart_any HMY.out HXM.out W)
          obtain ⟨g', o', e', lg, hc⟩ := HW3.out.hold.row.there HX.out
          injection e' with e'; injection e' with e1 e2; subst e1 e2
          obtain ⟨d0, d1, d2, _⟩ := hc
          have L2 := HW3.out.at2.lt
          have L3 := HW3.out.at3.lt
          have X1 : ∀ y : Within (Under w3), y.now.cell? ⟨w.heap.size, 1, none⟩ = some (.slice (some ⟨g, o, none⟩) m.l.length c) := fun y => (HW3.out.at2.below y.ok L2).cell 1
          have X2 : ∀ y : Within (Under w3), y.now.cell? ⟨w.heap.size + 1, 1, none⟩ = some (.int .i64 x.a) := fun y => (HW3.out.at3.below y.ok L3).cell 1
          have X3 : ∀ y : Within (Under w3), y.now.cell? ⟨w.heap.size + 1, 2, none⟩ = some (.int .i64 x.b) := fun y => (HW3.out.at3.below y.ok L3).cell 2
          have Y1 : ∀ z : Within (Under w3), z.now.cell? ⟨g, o + k * 14 + 1, none⟩ = some (.int .i64 y.a) := fun z => (Below.cell z.ok (p := ⟨g, o + k * 14 + 1, none⟩) lg).trans d1
          have Y2 : ∀ z : Within (Under w3), z.now.cell? ⟨g, o + k * 14 + 2, none⟩ = some (.int .i64 y.b) := fun z => (Below.cell z.ok (p := ⟨g, o + k * 14 + 2, none⟩) lg).trans d2
          clear d0 d1 d2 L2 L3
          have ne : Nonempty (Within (Under w3)) := ⟨⟨_, Under.refl w3⟩⟩
          refine wp_region_within (Under w3) (Under.refl w3) (by kernel_rfl) (by kernel_rfl) ?_
          repeat (go_big_quiet_step (first | (go_at_call 35; exact under_made (HAP.out _))))
          refine wpQuiet_nil ?_
          intro w4 hw4
          have HW4 : Hid (DAd w (some ⟨g, o, none⟩) c m x zeroDm w4) := Lib.hid (by obtain ⟨z, rfl⟩ := hw4; exact HW3.out.grown z.ok)
          clear hw4 X1 X2 X3 Y1 Y2 ne HW3 lg
          have hae : Spn.apartF y.a y.b x.a x.b = apartI y x := rfl
          rw [hae]
          clear hae
          have HLL : Hid (((atL (m.l.take (k + 1)) x.loc).length : Int) = (al.length : Int) + 1) := Lib.hid (by rw [HY.out]; simp)
          cases hap : apartI y x
          · have HR : Hid (dAdd m x = (m, 5)) := Lib.hid (by
              unfold dAdd
              rw [if_neg (by rw [HD.out]; simp), if_pos (List.any_eq_true.2 ⟨y, mem_atL.2 ⟨List.mem_of_getElem? HX.out, HL.out⟩, by rw [hap]; rfl⟩)])
            clear hap
            have lb := HW4.out.at2.lt
            have b0 : w4.cell? ⟨w.heap.size, 0, none⟩ = some (.int .i64 (m.n : Nat)) := HW4.out.at2.cell 0
            have b1 : w4.cell? ⟨w.heap.size, 1, none⟩ = some (.slice (some ⟨g, o, none⟩) m.l.length c) := HW4.out.at2.cell 1
            go_wp2_with (refine wpList_store_row rfl 30 _ _ rfl (w.heap.size + 1 + 1) (dmCells (some ⟨g, o, none⟩) c m) rfl rfl 30 _ HW4.out.at4 dmSize rfl (dm_one _ _ _) ?_)
            have HG := Lib.hid (HW4.out.out 5)
            generalize w4.setRow (w.heap.size + 1 + 1) (dmCells (some ⟨g, o, none⟩) c m) = W3 at HG ⊢
            clear b0 b1 lb
            have s := HG.out.2
            have b0 : W3.cell? ⟨w.heap.size + 1 + 1, 0, none⟩ = some (.int .i64 (m.n : Nat)) := s.cell 0
            have b1 : W3.cell? ⟨w.heap.size + 1 + 1, 1, none⟩ = some (.slice (some ⟨g, o, none⟩) m.l.length c) := s.cell 1
            clear s
            exact bodyPost_ret (v := .tuple #[dmV (some ⟨g, o, none⟩) c m, .int .i64 5]) (by simp [results, Try.results14, go_sem, b0, b1]) rfl (by rw [HR.out]; exact HG.out.1)
          · have HF2 : Hid (∀ z ∈ atL (m.l.take (k + 1)) x.loc, apartI z x = true) := Lib.hid (fun z hz => by
              rw [HY.out] at hz
              rcases List.mem_append.1 hz with hz | hz
              · exact HF.out z hz
              · rw [List.mem_singleton.1 hz]; exact hap)
            clear hap
            go_wp2_with fail
            go_roundg (m.l.length - (k + 1))
            case measure => have := HK.out; omega
            case rel => exact ⟨k + 1, by have := HK.out; omega, rfl, by rw [HLL.out], by go_num, HF2, HW4⟩
        · have hl' : (y.loc != x.loc) = true := by simpa using hl
          have HY : Hid (atL (m.l.take (k + 1)) x.loc = atL (m.l.take k) x.loc) := Lib.hid (by
            rw [List.take_add_one, HX.out, Option.toList_some, atL_append, atL_no hl]; simp [atL])
          clear hl
          rw [← HY.out] at HF ⊢
          go_wp2_with fail
          go_quiet (fail)
          go_wp2_with fail
          have HW3 := Lib.hid (HW.out.grown (drewN_below (Below.refl _ wr) nq))
          go_roundg (m.l.length - (k + 1))
          case measure => have := HK.out; omega
          case rel => exact ⟨k + 1, by have := HK.out; omega, rfl, rfl, by go_num, HF, HW3⟩
      · obtain rfl : k = m.l.length := by omega
        rw [List.take_length] at HF HTL ⊢
        clear hlt hk
        by_cases h40 : 40 ≤ (atL m.l x.loc).length
        · have HR : Hid (dAdd m x = (m, 4)) := Lib.hid (by
            unfold dAdd
            rw [if_neg (by rw [HD.out]; simp), if_neg (by simp; exact HF.out), if_pos h40])
          have k1 : (40 : Int) ≤ ((atL m.l x.loc).length : Int) := by omega
          clear h40
          go_wp2_with (refine wpList_store_row rfl 30 _ _ rfl (w.heap.size + 1 + 1) (dmCells q c m) rfl rfl 30 _ HW.out.at4 dmSize rfl (dm_one _ _ _) ?_)
          have HG := Lib.hid (HW.out.out 4)
          generalize wr.setRow (w.heap.size + 1 + 1) (dmCells q c m) = W3 at HG ⊢
          clear b0 b1 lb
          have s := HG.out.2
          have b0 : W3.cell? ⟨w.heap.size + 1 + 1, 0, none⟩ = some (.int .i64 (m.n : Nat)) := s.cell 0
          have b1 : W3.cell? ⟨w.heap.size + 1 + 1, 1, none⟩ = some (.slice q m.l.length c) := s.cell 1
          clear s
          exact bodyPost_ret (v := .tuple #[dmV q c m, .int .i64 4]) (by simp [results, Try.results14, go_sem, b0, b1]) rfl (by rw [HR.out]; exact HG.out.1)
        have HR : Hid (dAdd m x = (⟨m.n, m.l ++ [x]⟩, 0)) := Lib.hid (by
          unfold dAdd
          rw [if_neg (by rw [HD.out]; simp), if_neg (by simp; exact HF.out), if_neg h40])
        have k1 : ¬ (40 : Int) ≤ ((atL m.l x.loc).length : Int) := by omega
        have i3 : ((atL m.l x.loc).length : Int) ≤ 1000 := by omega
        clear h40
        go_upto_region 13 with (fail)
        clear b0 b1 lb lr c0 c1 c2 c3 c4 c5 c6 c7 c8 c9 c10 c11 c12 c13
        refine wp_flowG [94, 95, 96, 97, 98] [eqV (.pointer (some ⟨w.heap.size, 1, none⟩)), eqV (.slice q m.l.length c), (fun u W => ∃ r d, u = .slice r m.l.length d ∧ Cut2 60 14 (w.heap.size + 1 + 1 + 1) W r m.l.length d (cellsOf rtL m.l)), eqV (.agg #[.int .i64 x.loc, .int .i64 x.a, .int .i64 x.b, .int .u64 x.n, .int .i64 (x.v 0), .int .i64 (x.v 1), .int .i64 (x.v 2), .int .i64 (x.v 3), .int .i64 (x.v 4), .int .i64 (x.v 5), .int .i64 (x.v 6), .int .i64 (x.v 7), .bool x.res, .int .i64 x.owner]), rowV 60 1 #[.int .i64 x.loc, .int .i64 x.a, .int .i64 x.b, .int .u64 x.n, .int .i64 (x.v 0), .int .i64 (x.v 1), .int .i64 (x.v 2), .int .i64 (x.v 3), .int .i64 (x.v 4), .int .i64 (x.v 5), .int .i64 (x.v 6), .int .i64 (x.v 7), .bool x.res, .int .i64 x.owner]] (by kernel_rfl) (by kernel_rfl) (by kernel_rfl) (by kernel_rfl) (by rfl)
          (by simp only [List.mem_cons, List.not_mem_nil, or_false, forall_eq_or_imp, forall_eq]; refine ⟨?_, ?_, ?_, ?_, ?_⟩ <;> (first | exact eqV_mono _ | exact rowV_mono _ _ _ | exact cutW_mono _ _ _)) ?_ ?_
        · intro i o hi ho A W hW hk he
          simp only [List.length_cons, List.length_nil, Nat.zero_add, Nat.reduceAdd] at hi
          obtain rfl | rfl | rfl | rfl | rfl : i = 0 ∨ i = 1 ∨ i = 2 ∨ i = 3 ∨ i = 4 := by omega
          · injection ho with ho; subst ho
            refine .inl ⟨wanted_free rfl, ?_⟩
            have h2 : A.tmps[2]?.getD undef = .pointer (some ⟨w.heap.size, 0, none⟩) := hk 2 (by rfl)
            go_simp
            exact ⟨rfl, Below.refl _ _⟩
          · injection ho with ho; subst ho
            refine .inl ⟨wanted_free rfl, ?_⟩
            have h94 : A.tmps[94]?.getD undef = .pointer (some ⟨w.heap.size, 1, none⟩) := he 0 (by kernel_rfl)
            have c0 := ((HW.out.grown hW).at2).cell 1
            go_simp
            exact ⟨rfl, Below.refl _ _⟩
          · injection ho with ho; subst ho
            refine .inl ⟨wanted_free rfl, ?_⟩
            have h95 : A.tmps[95]?.getD undef = .slice q m.l.length c := he 1 (by kernel_rfl)
            obtain ⟨r2, d2, W2, hr, _, hb2, hc2⟩ := run_append_cut2 rowRt 23 (nil_cut 60 14 W.heap.size W) (Nat.le_refl _) q m.l.length c (cellsOf rtL m.l) (cells_len rtL_len m.l) (HW.out.grown hW).hold.row.lay (rts_one _) (by unfold maxLen; have := HN.out; omega) (by have := HN.out; omega)
            have e1 : A.eval (.tmp 95) = .slice q m.l.length c := (eval_form A 95).trans h95
            have e0 : A.eval (.const (.slice none 0 0)) = .slice none 0 0 := rfl
            have hz := (HW.out.grown hW).at4.lt
            simp only [Nat.zero_add] at hr hc2
            simp only [execOp, resolve, invoke, builtin, Sem.run_bind, Sem.run_pure, Result.andThen_ok, List.map_toArray, List.map_cons, List.map_nil, e0, e1, hr]
            exact ⟨⟨r2, d2, rfl, by have hc3 := hc2.low (B := w.heap.size + 1 + 1 + 1) (by omega); exact hc3⟩, hb2⟩
          · injection ho with ho; subst ho
            refine .inl ⟨wanted_free rfl, ?_⟩
            have h3 : A.tmps[3]?.getD undef = .pointer (some ⟨w.heap.size + 1, 0, none⟩) := hk 3 (by rfl)
            have c0 := ((HW.out.grown hW).at3).cell 0
            have c1 := ((HW.out.grown hW).at3).cell 1
            have c2 := ((HW.out.grown hW).at3).cell 2
            have c3 := ((HW.out.grown hW).at3).cell 3
            have c4 := ((HW.out.grown hW).at3).cell 4
            have c5 := ((HW.out.grown hW).at3).cell 5
            have c6 := ((HW.out.grown hW).at3).cell 6
            have c7 := ((HW.out.grown hW).at3).cell 7
            have c8 := ((HW.out.grown hW).at3).cell 8
            have c9 := ((HW.out.grown hW).at3).cell 9
            have c10 := ((HW.out.grown hW).at3).cell 10
            have c11 := ((HW.out.grown hW).at3).cell 11
            have c12 := ((HW.out.grown hW).at3).cell 12
            have c13 := ((HW.out.grown hW).at3).cell 13
            go_simp
            exact ⟨rfl, Below.refl _ _⟩
          · injection ho with ho; subst ho
            refine .inl ⟨wanted_free rfl, ?_⟩
            have h97 : A.tmps[97]?.getD undef = .agg #[.int .i64 x.loc, .int .i64 x.a, .int .i64 x.b, .int .u64 x.n, .int .i64 (x.v 0), .int .i64 (x.v 1), .int .i64 (x.v 2), .int .i64 (x.v 3), .int .i64 (x.v 4), .int .i64 (x.v 5), .int .i64 (x.v 6), .int .i64 (x.v 7), .bool x.res, .int .i64 x.owner] := he 3 (by kernel_rfl)
            go_simp
            exact ⟨⟨_, rfl, Sits.new _ _ _⟩, (Below.refl _ _).alloc (Nat.le_refl _) _⟩
        · intro xs W hW hV
          obtain ⟨gr98, e98, hr98⟩ : rowV 60 1 #[.int .i64 x.loc, .int .i64 x.a, .int .i64 x.b, .int .u64 x.n, .int .i64 (x.v 0), .int .i64 (x.v 1), .int .i64 (x.v 2), .int .i64 (x.v 3), .int .i64 (x.v 4), .int .i64 (x.v 5), .int .i64 (x.v 6), .int .i64 (x.v 7), .bool x.res, .int .i64 x.owner] (xs 4) W := hV 4 (by simp)
          obtain ⟨r3, d3, e96, hcut⟩ : ∃ r d, xs 2 = .slice r m.l.length d ∧ Cut2 60 14 (w.heap.size + 1 + 1 + 1) W r m.l.length d (cellsOf rtL m.l) := hV 2 (by simp)
          simp only [List.length_cons, List.length_nil, Nat.zero_add, Nat.reduceAdd, List.drop_succ_cons, List.drop_zero, putL, Act.put, List.setIfInBounds_toArray, List.set_cons_zero, List.set_cons_succ, e98, e96]
          clear hV e98 e96
          have HW2 := Lib.hid (HW.out.grown hW)
          clear hW
          have HXL := Lib.hid (rts_new (x := x) hr98)
          have HCU := Lib.hid hcut
          have HN2 := Lib.hid (show m.l.length + 1 ≤ 1001 by have := HN.out; omega)
          clear hcut hr98
          go_wp2_with (at_builtin; refine wpList_append_cut2 rowRt rfl _ _ rfl (B := w.heap.size + 1 + 1 + 1) (r := r3) (n := m.l.length) (d := d3) (xs := cellsOf rtL m.l) rfl HCU.out (by have := HW2.out.at4.lt; omega) (some ⟨gr98, 0, none⟩) 1 1 (cellsOf rtL [x]) rfl rfl HXL.out.lay (rts_one [x]) (by unfold maxLen; have := HN2.out; omega) (by have := HN2.out; omega) ?_)
          intro r4 d4 W4 _ _ hb4 hc4
          have HW5 := Lib.hid (HW2.out.added hb4 hc4)
          have l2 := (HW2.out.at2.below hb4 (by omega)).lt
          have f1 := (HW2.out.at2.below hb4 (by omega)).free 1
          have c1 : W4.cell? ⟨w.heap.size, 1, none⟩ = some (.slice q m.l.length c) := (HW2.out.at2.below hb4 (by omega)).cell 1
          clear hb4 hc4 HCU HXL HW2
          go_upto_region 14 with (fail)
          generalize W4.setCell ⟨w.heap.size, 1, none⟩ (.slice r4 (m.l.length + 1) d4) = W5 at HW5 ⊢
          clear l2 f1 c1
          have lb := HW5.out.at2.lt
          have HEQ : Hid (dmCells r4 d4 ⟨m.n, m.l ++ [x]⟩ = #[.int .i64 (m.n : Nat), .slice r4 (m.l.length + 1) d4]) := Lib.hid (by simp)
          have b0 : W5.cell? ⟨w.heap.size, 0, none⟩ = some (.int .i64 (m.n : Nat)) := HW5.out.at2.cell 0
          have b1 : W5.cell? ⟨w.heap.size, 1, none⟩ = some (.slice r4 (m.l.length + 1) d4) := by have := HW5.out.at2.cell 1; rw [HEQ.out] at this; exact this
          have HG := Lib.hid (HW5.out.out 0)
          rw [HEQ.out] at HG
          go_wp2_with (refine wpList_store_row rfl 30 _ _ rfl (w.heap.size + 1 + 1) #[.int .i64 (m.n : Nat), .slice r4 (m.l.length + 1) d4] rfl rfl 30 _ HW5.out.at4 dmSize rfl (by simp [Value.oneCell']) ?_)
          generalize W5.setRow (w.heap.size + 1 + 1) #[.int .i64 (m.n : Nat), .slice r4 (m.l.length + 1) d4] = W6 at HG ⊢
          clear b0 b1 lb
          have s := HG.out.2
          have b0 : W6.cell? ⟨w.heap.size + 1 + 1, 0, none⟩ = some (.int .i64 (m.n : Nat)) := s.cell 0
          have b1 : W6.cell? ⟨w.heap.size + 1 + 1, 1, none⟩ = some (.slice r4 (m.l.length + 1) d4) := s.cell 1
          clear s
          exact bodyPost_ret (v := .tuple #[.agg #[.int .i64 (m.n : Nat), .slice r4 (m.l.length + 1) d4], .int .i64 0]) (by simp [results, Try.results14, go_sem, b0, b1]) rfl (by rw [HR.out, show Value.agg #[.int .i64 (m.n : Nat), .slice r4 (m.l.length + 1) d4] = dmV r4 d4 ⟨m.n, m.l ++ [x]⟩ from (congrArg Value.agg HEQ.out).symm]; exact HG.out.1)
end Go.Proofs.Ytgkgpehjedmejaa.Mmr
