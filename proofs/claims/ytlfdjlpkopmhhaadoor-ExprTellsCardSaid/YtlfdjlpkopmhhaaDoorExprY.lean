/- Layer 3 (expr): what is told of each leaf in ExprTells. -/
import Derived.Test.YtlfdjlpkopmhhaaDoorExprH
import Derived.Test.YtlfdjlpkopmhhaaDoorExprD
import Derived.Deep.DeepCutAuto
namespace Go.Proofs.YtlfdjlpkopmhhaaDoor.Expr
open Go.RowKit Go.Proofs.YtlfdjlpkopmhhaaDoor.Mem Go.Lib

/-- While leaves are told: how many were, all of them right; nothing else has turned. -/
structure Chk (W1 : World) (aB oB : Nat) (j : Nat) (w : World) : Prop where
  all : Sits w aB 3 #[.int .i64 (j : Nat)]
  ok : Sits w oB 4 #[.bool true]
  keep : Keeps (fun b => b = aB ∨ b = oB) W1 w
section
variable {W1 w w' : World} {aB oB j : Nat}
theorem Chk.grown (h : Chk W1 aB oB j w) (hb : Below w.heap.size w w') : Chk W1 aB oB j w' := ⟨h.all.below hb h.all.lt, h.ok.below hb h.ok.lt, h.keep.trans (Keeps.of_below hb)⟩
theorem Chk.drew (h : Chk W1 aB oB j w) : Chk W1 aB oB j w.drew := h.grown (Below.refl _ _).drew
/-- Told right, and counted. -/
theorem Chk.next (h : Chk W1 aB oB j w) (hne : aB ≠ oB) : Chk W1 aB oB (j + 1) ((w.setCell ⟨oB, 0, none⟩ (.bool true)).setCell ⟨aB, 0, none⟩ (.int .i64 ((j : Int) + 1))) ∧ Stable 38 w ((w.setCell ⟨oB, 0, none⟩ (.bool true)).setCell ⟨aB, 0, none⟩ (.int .i64 ((j : Int) + 1))) := by
  have ha := h.all.far (p := ⟨oB, 0, none⟩) hne (.bool true)
  have h1 := ha.put 0 (.int .i64 ((j : Int) + 1))
  have h2 := (h.ok.put 0 (.bool true)).far (p := ⟨aB, 0, none⟩) (Ne.symm hne) (.int .i64 ((j : Int) + 1))
  refine ⟨⟨by simpa using h1, by simpa using h2, (h.keep.put (p := ⟨oB, 0, none⟩) (.inl (.inr rfl)) _).put (p := ⟨aB, 0, none⟩) (.inl (.inl rfl)) _⟩, ?_⟩
  exact (Stable.put h.ok (by decide) 0 _).trans (Stable.put ha (by decide) 0 _)
end
theorem leaf_item {a : It} (h : leafOk a = true) : leafT a = .node (leafIt (leafE a)) .nil .nil ∧ (leafIt (leafE a)).kind = a.kind := by
  have hk := leafOk_kind h
  have he : (leafE a).isLeaf = true := by
    unfold leafE
    repeat' split
    all_goals rfl
  obtain ⟨h1, _⟩ := leaf_tree he
  rw [treeOf_leafE h] at h1
  refine ⟨h1, ?_⟩
  unfold leafT at h1
  injection h1 with h1
  rw [← h1]
theorem self_eq (b : It) (W : World) : (binOp .eql 38 (.agg (exprCells b (.pointer none) (.pointer none))) (.agg (exprCells b (.pointer none) (.pointer none)))).run Tryd.prog W = .ok (.bool true) W := by
  have := eq_expr b b none none none none _ _ (ptr_same none) (ptr_same none) W
  rw [this]
  simp [eqIt]
set_option maxRecDepth 100000 in
set_option maxHeartbeats 1000000 in
theorem check_one (W1 : World) (aB oB rB : Nat) (rv : Value) (its : List It) (hrB : Sits W1 rB 30 #[rv]) (hra : rB ≠ aB) (hro : rB ≠ oB) (hao : aB ≠ oB)
    (HR : ∀ w, Keeps (fun b => b = aB ∨ b = oB) W1 w → Row w rv its) (hlen : its.length ≤ 60) (j : Nat) (a : It) (haj : its[j]? = some a) (hlo : leafOk a = true) (w : World) (h : Chk W1 aB oB j w) :
    Calls Tryd.prog 29 #[leafVal (leafE a), .pointer (some ⟨aB, 0, none⟩), .pointer (some ⟨rB, 0, none⟩), .pointer (some ⟨oB, 0, none⟩)] w (Done (Chk W1 aB oB (j + 1)) w) := by
  obtain ⟨hT, hk⟩ := leaf_item hlo
  have hjl := (List.getElem?_eq_some_iff.1 haj).1
  have hof : ofF its 2 j = (leafT a, j + 1) := ofF_leaf 1 haj (by have := leafOk_kind hlo; omega) (by have := leafOk_kind hlo; omega)
  have HOF := Lib.hid (fun W (hW : Row W rv its) => (show Calls _ _ #[rv, .int .i64 (j : Nat), .int .i64 2] W (OfMade its 2 j W) from of_any its 2 j rv W (by omega) hW))
  unfold OfMade at HOF
  rw [hof, hT] at HOF
  have hrow := HR w h.keep
  obtain ⟨g, o, cap, rfl, _, _, hat⟩ := hrow.item haj
  have c0 := hat.1
  unfold leafVal
  generalize leafIt (leafE a) = b at HOF hk
  obtain ⟨q, op, n, t, i, x⟩ := b
  simp only at hk
  rw [← hk] at c0
  have hq := self_eq ⟨q, op, n, t, i, x⟩
  have sr := hrB.keep h.keep (by rintro (e | e); exact hra e; exact hro e)
  have ca := h.all.cell 0
  have la := h.all.lt
  have cr := sr.cell 0
  have lr := sr.lt
  have i1 : (j : Int) < (its.length : Int) := by omega
  have i2 : (0 : Int) ≤ j := by omega
  have i3 : (its.length : Int) ≤ 60 := by omega
  have i4 : decide ((its.length : Int) ≤ (j : Int)) = false := decide_eq_false (by omega)
  have lg := hat.lt
  have H0 := Lib.hid h
  have HRB := Lib.hid hrB
  have HRR := Lib.hid HR
  unfold exprCells at hq ⊢
  simp only at hq ca cr ⊢
  clear hat hrow h hrB HR hof hT haj hlo hk hjl sr hlen
  go_enter Tryd.func29, Tryd.ntmps29
  go_upto_region 1 with fail
  go_quiet (fail)
  go_wp2_with fail
  have hlw : Below w.heap.size w ((w.alloc (.cells #[.int .u8 q, .int .u8 op, .int .u64 n, .int .u8 t, .int .u8 i, .int .u8 x, .pointer none, .pointer none] 38)).drewN nq) := drewN_below ((Below.refl _ w).alloc (Nat.le_refl _) _) nq
  have hnew := Sits.new w 38 (exprCells ⟨q, op, n, t, i, x⟩ (.pointer none) (.pointer none))
  have hbx : Sits ((w.alloc (.cells #[.int .u8 q, .int .u8 op, .int .u64 n, .int .u8 t, .int .u8 i, .int .u8 x, .pointer none, .pointer none] 38)).drewN nq) w.heap.size 38 (exprCells ⟨q, op, n, t, i, x⟩ (.pointer none) (.pointer none)) := hnew.below (drewN_below (Below.refl _ _) nq) hnew.lt
  refine (HOF.out _ ((HRR.out w H0.out.keep).below hlw)).mono ?_
  rintro e w2 ⟨p, rfl, ht, hb⟩
  obtain ⟨g', lv, rv', rfl, _, hs, rfl, rfl⟩ := ht
  obtain ⟨d0, d1, d2, d3, d4, d5, d6, d7⟩ := Sits.all8 hs
  obtain ⟨b0, b1, b2, b3, b4, b5, b6, b7⟩ := Sits.all8 (hbx.below hb hbx.lt)
  simp only at d0 d1 d2 d3 d4 d5 b0 b1 b2 b3 b4 b5
  have h2 := H0.out.grown (hlw.trans (hb.mono hlw.size))
  have co := h2.ok.cell 0
  have fo := h2.ok.free 0
  have lo := h2.ok.lt
  have ca2 := h2.all.cell 0
  have fa := h2.all.free 0
  have la2 := h2.all.lt
  have lx : w.heap.size < w2.heap.size := Nat.lt_of_lt_of_le hbx.lt hb.size
  have lg' := hs.lt
  have H2 := Lib.hid h2
  have HST := Lib.hid (Stable.below (t := 38) (hlw.trans (hb.mono hlw.size)))
  have ho1 : oB ≠ aB := Ne.symm hao
  clear hbx hnew hb hs h2 ca cr c0 la lr lg
  go_wp2_with fail
  go_region
  all_goals
    go_wp2_with fail
    go_end0
    obtain ⟨n1, n2⟩ := H2.out.next hao
    exact ⟨rfl, n1.drew, HST.out.trans (n2.trans (Stable.below (Below.refl _ _).drew))⟩
end Go.Proofs.YtlfdjlpkopmhhaaDoor.Expr
