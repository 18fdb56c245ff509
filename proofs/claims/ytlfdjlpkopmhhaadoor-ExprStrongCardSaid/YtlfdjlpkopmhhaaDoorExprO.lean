/- Layer 3 (expr): the statement of strengths, and of what may not be. -/
import Derived.Test.YtlfdjlpkopmhhaaDoorExprN
import Derived.Deep.CutBlock
namespace Go.Proofs.YtlfdjlpkopmhhaaDoor.Expr
open Go.RowKit Go.Proofs.YtlfdjlpkopmhhaaDoor.Mem Go.Lib

/-- Objects that are made one behind the other. -/
def pile (w : World) : List Obj → World
  | [] => w
  | o :: os => pile (w.alloc o) os
theorem pile_low (w : World) (os : List Obj) : Below w.heap.size w (pile w os) := by
  induction os generalizing w with
  | nil => exact Below.refl _ _
  | cons o os ih => exact ((Below.refl _ w).alloc (Nat.le_refl _) o).trans ((ih (w.alloc o)).mono (by simp))
theorem pile_size (w : World) (os : List Obj) : (pile w os).heap.size = w.heap.size + os.length := by
  induction os generalizing w with
  | nil => rfl
  | cons o os ih => rw [pile, ih]; simp; omega
theorem pile_at (w : World) (os : List Obj) (i : Nat) (o : Obj) (h : os[i]? = some o) : (pile w os).heap[w.heap.size + i]? = some o := by
  induction os generalizing w i with
  | nil => simp at h
  | cons p os ih =>
    cases i with
    | zero =>
      simp only [List.getElem?_cons_zero, Option.some.injEq] at h
      subst h
      have hb := pile_low (w.alloc p) os
      have := hb.block w.heap.size (by simp)
      rw [Nat.add_zero]
      show (pile (w.alloc p) os).heap[w.heap.size]? = some p
      rw [this]
      exact heap_alloc_new w p
    | succ i =>
      have := ih (w.alloc p) i (by simpa using h)
      rw [show w.heap.size + (i + 1) = (w.alloc p).heap.size + i by simp; omega]
      exact this

def nl : Value := .pointer none
def badIt (op n y : Nat) : Nat → It
  | 1 => ⟨4, op, 0, 0, 0, 0⟩
  | 2 => ⟨5, op, 0, 0, 0, 0⟩
  | 3 => ⟨5, op, 0, 0, 0, 0⟩
  | 4 => ⟨0, 0, n, 0, 0, 0⟩
  | 5 => ⟨1, 0, 0, 0, 0, 1⟩
  | 6 => ⟨4, op, 0, 0, 0, 0⟩
  | 7 => ⟨6, 0, 0, 0, 0, 0⟩
  | 8 => ⟨3, 0, 0, 0, 0, 114⟩
  | _ => ⟨3, 0, 0, 0, 0, y⟩
def leafTr (n : Nat) : Tr := .node ⟨0, 0, n, 0, 0, 0⟩ .nil .nil
/-- Which parts they have. -/
def badL (i : Nat) : Bool := i == 2 || i == 4 || i == 6
def badR (i : Nat) : Bool := i == 3 || i == 6
def badT (op n y : Nat) (i : Nat) : Tr := if i = 0 then .nil else .node (badIt op n y i) (if badL i then leafTr n else .nil) (if badR i then leafTr n else .nil)
def badV (b i : Nat) : Value := if i = 0 then nl else at_ (b + i)
def badObjs (b op n y : Nat) : List Obj :=
  [box ⟨0, 0, n, 0, 0, 0⟩ nl nl, box (badIt op n y 1) nl nl, box (badIt op n y 2) (at_ b) nl, box (badIt op n y 3) nl (at_ b), box (badIt op n y 4) (at_ b) nl, box (badIt op n y 5) nl nl,
    box (badIt op n y 6) (at_ b) (at_ b), box (badIt op n y 7) nl nl, box (badIt op n y 8) nl nl, box (badIt op n y 9) nl nl,
    .cells #[nl, at_ (b + 1), at_ (b + 2), at_ (b + 3), at_ (b + 4), at_ (b + 5), at_ (b + 6), at_ (b + 7), at_ (b + 8), at_ (b + 9)] 32]
def badW (w : World) (op n y : Nat) : World := pile w (badObjs w.heap.size op n y)
theorem bad_sits (w : World) (op n y i : Nat) (a : It) (l r : Value) (h : (badObjs w.heap.size op n y)[i]? = some (box a l r)) : Sits (badW w op n y) (w.heap.size + i) 38 (exprCells a l r) := pile_at w _ i _ h
theorem bad_leaf (w : World) (op n y : Nat) : Tree (badW w op n y) (leafTr n) (at_ w.heap.size) := ⟨_, _, _, rfl, bad_sits w op n y 0 _ nl nl rfl, rfl, rfl⟩
theorem bad_tree (w : World) (op n y i : Nat) (hi : i < 10) : Tree (badW w op n y) (badT op n y i) (badV w.heap.size i) := by
  have hl := bad_leaf w op n y
  have h : i = 0 ∨ i = 1 ∨ i = 2 ∨ i = 3 ∨ i = 4 ∨ i = 5 ∨ i = 6 ∨ i = 7 ∨ i = 8 ∨ i = 9 := by omega
  rcases h with rfl | rfl | rfl | rfl | rfl | rfl | rfl | rfl | rfl | rfl
  · exact rfl
  · exact ⟨_, _, _, rfl, bad_sits w op n y 1 _ nl nl rfl, rfl, rfl⟩
  · exact ⟨_, _, _, rfl, bad_sits w op n y 2 _ _ nl rfl, hl, rfl⟩
  · exact ⟨_, _, _, rfl, bad_sits w op n y 3 _ nl _ rfl, rfl, hl⟩
  · exact ⟨_, _, _, rfl, bad_sits w op n y 4 _ _ nl rfl, hl, rfl⟩
  · exact ⟨_, _, _, rfl, bad_sits w op n y 5 _ nl nl rfl, rfl, rfl⟩
  · exact ⟨_, _, _, rfl, bad_sits w op n y 6 _ _ _ rfl, hl, hl⟩
  · exact ⟨_, _, _, rfl, bad_sits w op n y 7 _ nl nl rfl, rfl, rfl⟩
  · exact ⟨_, _, _, rfl, bad_sits w op n y 8 _ nl nl rfl, rfl, rfl⟩
  · exact ⟨_, _, _, rfl, bad_sits w op n y 9 _ nl nl rfl, rfl, rfl⟩
theorem bad_fits (op n y i : Nat) (hi : i < 10) (hy : 128 ≤ y) : fitsF (badT op n y i) 12 = false := by
  have h : i = 0 ∨ i = 1 ∨ i = 2 ∨ i = 3 ∨ i = 4 ∨ i = 5 ∨ i = 6 ∨ i = 7 ∨ i = 8 ∨ i = 9 := by omega
  rcases h with rfl | rfl | rfl | rfl | rfl | rfl | rfl | rfl | rfl | rfl
  all_goals simp [badT, badIt, badL, badR, fitsF, leafTr, leafOk, bare, Tr.isNil]
  all_goals omega
theorem bad_row (w : World) (op n y i : Nat) (hi : i < 10) : (badW w op n y).cell? ⟨w.heap.size + 10, i, none⟩ = some (badV w.heap.size i) := by
  have hs : Sits (badW w op n y) (w.heap.size + 10) 32 #[nl, at_ (w.heap.size + 1), at_ (w.heap.size + 2), at_ (w.heap.size + 3), at_ (w.heap.size + 4), at_ (w.heap.size + 5), at_ (w.heap.size + 6), at_ (w.heap.size + 7), at_ (w.heap.size + 8), at_ (w.heap.size + 9)] := pile_at w _ 10 _ rfl
  rw [hs.cell i]
  have h : i = 0 ∨ i = 1 ∨ i = 2 ∨ i = 3 ∨ i = 4 ∨ i = 5 ∨ i = 6 ∨ i = 7 ∨ i = 8 ∨ i = 9 := by omega
  rcases h with rfl | rfl | rfl | rfl | rfl | rfl | rfl | rfl | rfl | rfl
  all_goals rfl

theorem op_beq (op k : Nat) : ((op : Int) == (k : Int)) = decide (op = k) := by
  by_cases h : op = k
  · subst h; simp
  · rw [decide_eq_false h]; exact beq_eq_false_iff_ne.2 (by omega)
set_option maxRecDepth 100000 in
set_option maxHeartbeats 2000000 in
theorem strong_any (op n x : Nat) (hop : op < 256) (hx : x < 256) (w : World) (hX : Tabs w) : Calls Tryd.prog 7 #[.int .u8 op, .int .u64 n, .int .u8 x] w fun e w' => Made (.returned (.bool true)) w e w' := by
  have hor : bits .or .u8 (x : Int) 128 = ((x ||| 128 : Nat) : Int) := u8_or_nat x 128 (by omega) (by omega)
  have hy : 128 ≤ x ||| 128 := Nat.right_le_or
  generalize x ||| 128 = y at hor hy
  have hz : (badW w op n y).heap.size = w.heap.size + 11 := pile_size w _
  have HM := Lib.hid (fun W (h : Below (w.heap.size + 11) (badW w op n y) W) i (hi : i < 10) => (show Calls _ _ _ _ fun e' w' => Made (.returned (.bool false)) W e' w' from bad_fits op n y i hi hy ▸ may_any (badT op n y i) _ W ((bad_tree w op n y i hi).below (hz ▸ h))))
  have HT := Lib.hid (fun W (h : Below (w.heap.size + 11) (badW w op n y) W) i (hi : i < 10) => text_not (badT op n y i) _ W ((bad_tree w op n y i hi).below (hz ▸ h)) (bad_fits op n y i hi hy))
  have HC := Lib.hid (fun W (h : Below (w.heap.size + 11) (badW w op n y) W) i (hi : i < 10) => (show W.cell? ⟨w.heap.size + 10, i, none⟩ = some (badV w.heap.size i) from (h.cell (p := ⟨w.heap.size + 10, i, none⟩) (by show w.heap.size + 10 < w.heap.size + 11; omega)).trans (bad_row w op n y i hi)))
  have HD := Lib.hid (fun W (h : Below (w.heap.size + 11) (badW w op n y) W) => (show Calls _ _ _ _ fun e' w' => Made (.returned (.int .i64 1)) W e' w' from Depth_any (leafTr n) _ W ((bad_leaf w op n y).below (hz ▸ h))))
  have HN := Lib.hid (fun W => (show Calls _ _ _ _ fun e' w' => Made (.returned (.int .i64 0)) W e' w' from Depth_any .nil (.pointer none) W rfl))
  have HK := Lib.hid (fun W (h : Below (w.heap.size + 11) (badW w op n y) W) => (show Below w.heap.size w W from (pile_low w _).trans (h.mono (by omega))))
  have HL := Lib.hid (fun (W W' : World) (h : Below (w.heap.size + 11) (badW w op n y) W) (h' : Below W.heap.size W W') => (show Below (w.heap.size + 11) (badW w op n y) W' from h.trans (h'.mono (by have := h.size; omega))))
  have HW := Lib.hid (fun W (h : Below (w.heap.size + 11) (badW w op n y) W) => wakes_any W (hX.below (HK.out W h)))
  have HST := Lib.hid (fun W => strength_any op W)
  unfold at_ at HD
  have hso : (strongOp op = if 1 ≤ op ∧ op ≤ 4 then 1 else if 5 ≤ op ∧ op ≤ 8 then 2 else if 9 ≤ op ∧ op ≤ 12 then 3 else if op = 13 ∨ op = 14 then 4 else 0) := rfl
  have HSO := Lib.hid hso
  clear hX hz hy hso
  go_enter Tryd.func7, Tryd.ntmps7
  go_upto_block 0 with fail
  go_cut [7, 12, 19, 26, 33] (fun s7 s12 s19 s26 s33 wx => s7 = .int .i64 (strongOp op : Nat) ∧ wx = w)
  case first =>
    rcases Bool.eq_false_or_eq_true ((op : Int) == 13) with h13 | h13
    all_goals rcases Bool.eq_false_or_eq_true ((op : Int) == 14) with h14 | h14
    all_goals
      have q13 : Hid (((op : Int) == 13) = decide (op = 13)) := Lib.hid (op_beq op _)
      have q14 : Hid (((op : Int) == 14) = decide (op = 14)) := Lib.hid (op_beq op _)
      go_wp2_with fail
    all_goals
      go_meet
      refine ⟨?_, rfl⟩
      have k13 := h13.symm.trans q13.out
      have k14 := h14.symm.trans q14.out
      simp only [Bool.true_eq, Bool.false_eq, decide_eq_true_eq, decide_eq_false_iff_not] at k13 k14
      rw [HSO.out]
      repeat' split
      all_goals first | rfl | omega
  case rest =>
    obtain ⟨rfl, rfl⟩ := hcut
    clear HSO
    generalize hso : strongOp op = so at HST
    have HEQ := Lib.hid hso
    clear hso
    go_wp2_with fail
    change Code.wp _ _ _ _ (badW wc op n y)
    generalize hB : wc.heap.size + 1 + 1 + 1 + 1 + 1 + 1 + 1 + 1 + 1 + 1 = B
    have hB' : wc.heap.size + 10 = B := by omega
    rw [hB'] at HC
    have H0 := Lib.hid (Below.refl (wc.heap.size + 11) (badW wc op n y))
    generalize badW wc op n y = W at HM HT HC HD HK HL HW H0 ⊢
    clear hB hB'
    go_loopg [11] 10 (fun g v11 wx => ∃ i, i ≤ 10 ∧ g = 10 - i ∧ v11 = .int .i64 (i : Nat) ∧ Below (wc.heap.size + 11) W wx)
    case atStart => exact ⟨0, by omega, rfl, rfl, H0.out⟩
    case round =>
      obtain ⟨i, hi, rfl, rfl, hb0⟩ := hrel
      by_cases hlt : i < 10
      · have hc := HC.out _ hb0 i hlt
        have HM1 := Lib.hid (HM.out _ hb0 i hlt)
        have HB0 := Lib.hid hb0
        clear hb0
        go_wp2_with fail
        refine HM1.out.mono ?_
        rintro e w1 ⟨rfl, hb⟩
        have HB1 := Lib.hid (HL.out _ _ HB0.out hb)
        clear hb hc HB0 HM1
        have hc := HC.out _ HB1.out i hlt
        have HT1 := Lib.hid (HT.out _ HB1.out i hlt)
        go_wp2_with fail
        refine HT1.out.mono ?_
        rintro e w2 ⟨rfl, hb⟩
        have HB2 := Lib.hid (HL.out _ _ HB1.out hb)
        clear hb hc HT1
        go_wp2_with fail
        go_roundg (10 - (i + 1))
        case measure => omega
        case rel => exact ⟨i + 1, by omega, rfl, by go_num, HB2.out⟩
      · obtain rfl : i = 10 := by omega
        have HB0 := Lib.hid hb0
        clear hb0 HM HT HC
        go_wp2_with fail
        refine (HST.out _).mono ?_
        rintro e w1 ⟨rfl, rfl⟩
        go_wp2_with fail
        refine (HN.out _).mono ?_
        rintro e w2 ⟨rfl, hb⟩
        have HB2 := Lib.hid (HL.out _ _ HB0.out hb)
        clear hb HN
        go_wp2_with fail
        refine (HD.out _ HB2.out).mono ?_
        rintro e w3 ⟨rfl, hb⟩
        have HB3 := Lib.hid (HL.out _ _ HB2.out hb)
        clear hb HD
        go_wp2_with fail
        refine (HW.out _ HB3.out).mono ?_
        rintro e w4 ⟨rfl, hb⟩
        have HB4 := Lib.hid (HL.out _ _ HB3.out hb)
        clear hb HW
        go_wp2_with fail
        go_ret
        exact ⟨rfl, HK.out _ HB4.out⟩
end Go.Proofs.YtlfdjlpkopmhhaaDoor.Expr
