/- Layer 3 (expr): the walk of ExprSame. -/
import Derived.Test.YtlfdjlpkopmhhaaDoorExprR
namespace Go.Proofs.YtlfdjlpkopmhhaaDoor.Expr
open Go.RowKit Go.Proofs.YtlfdjlpkopmhhaaDoor.Mem Go.Lib

theorem decide_same {p q : Prop} [Decidable p] [Decidable q] (h : p ↔ q) : decide p = decide q := by
  by_cases hp : p
  · rw [decide_eq_true hp, decide_eq_true (h.1 hp)]
  · rw [decide_eq_false hp, decide_eq_false (fun hq => hp (h.2 hq))]
theorem text_eq (x y : Ex) (ox : x.ok) (oy : y.ok) : (str x.text).toList = (str y.text).toList ↔ x = y := by
  have e : ∀ l, (str l).toList = l := fun l => by simp [str]
  rw [e, e]
  exact ⟨fun h => text_inj ox oy h, fun h => by rw [h]⟩
theorem same_ex (x y : Ex) (ox : x.ok) (dx : x.depth ≤ 12) (u v : Value) (w : World) (hu : Tree w (treeOf x) u) (hv : Tree w (treeOf y) v) : Calls Tryd.prog 24 #[u, v] w fun e w' => Made (.returned (.bool (decide (x = y)))) w e w' := by
  have h := Same_any (treeOf x) (treeOf y) u v w hu hv
  rw [fits_of x ox 12 dx, Bool.true_and, decide_same (⟨fun h => treeOf_inj _ _ h, fun h => by rw [h]⟩ : treeOf x = treeOf y ↔ x = y)] at h
  exact h
theorem ItemAt.allIn {W : World} {g o : Nat} {a : It} (h : ItemAt W g o a) (x : Within (Under W)) : x.now.cell? ⟨g, o, none⟩ = some (.int .u8 a.kind) ∧ x.now.cell? ⟨g, o + 1, none⟩ = some (.int .u8 a.op) ∧ x.now.cell? ⟨g, o + 2, none⟩ = some (.int .u64 a.n) ∧
    x.now.cell? ⟨g, o + 3, none⟩ = some (.int .u8 a.t) ∧ x.now.cell? ⟨g, o + 4, none⟩ = some (.int .u8 a.i) ∧ x.now.cell? ⟨g, o + 5, none⟩ = some (.int .u8 a.x) := h.below x.ok
/-- Rows that are too long: what is known answers. -/
theorem same_long (p q : Option Addr) (la lb cap cap' : Nat) (w : World) (hX : Tabs w) (h : 60 < la ∨ 60 < lb) : Calls Tryd.prog 6 #[.slice p la cap, .slice q lb cap'] w fun e w' => Made (.returned (.bool true)) w e w' := by
  have HW := Lib.hid (wakes_any w hX)
  clear hX
  by_cases h1 : 60 < la
  · have i1 : (60 : Int) < (la : Int) := by omega
    clear h
    go_enter Tryd.func6, Tryd.ntmps6
    go_wp2_with fail
    refine HW.out.mono ?_
    rintro e w1 ⟨rfl, hb⟩
    have HB := Lib.hid hb; clear hb
    go_wp2_with fail
    go_ret
    exact ⟨rfl, HB.out⟩
  · have i1 : (la : Int) ≤ 60 := by omega
    have i2 : (60 : Int) < (lb : Int) := by omega
    clear h
    go_enter Tryd.func6, Tryd.ntmps6
    go_wp2_with fail
    refine HW.out.mono ?_
    rintro e w1 ⟨rfl, hb⟩
    have HB := Lib.hid hb; clear hb
    go_wp2_with fail
    go_ret
    exact ⟨rfl, HB.out⟩
theorem same_bad (a b : List It) (va vb : Value) (w : World) (hA : Row w va a) (hB : Row w vb b) (hX : Tabs w) (h1 : a.length ≤ 60) (h2 : b.length ≤ 60) (z z' : Int) (is too : Bool)
    (ea : goodV (endOf a) = .tuple #[.int .i64 z, .bool is]) (eb : goodV (endOf b) = .tuple #[.int .i64 z', .bool too]) (hn : (is && too) = false) : Calls Tryd.prog 6 #[va, vb] w fun e w' => Made (.returned (.bool true)) w e w' := by
  have HG := Lib.hid (ea ▸ good_any a va w hA)
  have HH := Lib.hid (fun W (hb : Below w.heap.size w W) => eb ▸ good_any b vb W (hB.below hb))
  have HW := Lib.hid (fun W (hb : Below w.heap.size w W) => wakes_any W (hX.below hb))
  obtain ⟨p, cap, rfl, hl⟩ := hA.len
  obtain ⟨q, cap', rfl, hl'⟩ := hB.len
  have i1 : (a.length : Int) ≤ 60 := by omega
  have i2 : (b.length : Int) ≤ 60 := by omega
  clear hA hB hX ea eb
  cases is
  all_goals cases too
  all_goals first | (exfalso; exact Bool.noConfusion hn) | skip
  all_goals
    clear hn
    go_enter Tryd.func6, Tryd.ntmps6
    go_wp2_with fail
    refine HG.out.mono ?_
    rintro e w1 ⟨rfl, hb⟩
    have HB1 := Lib.hid hb; clear hb
    go_wp2_with fail
    refine (HH.out _ HB1.out).mono ?_
    rintro e w2 ⟨rfl, hb⟩
    have HB2 := Lib.hid (HB1.out.trans (hb.mono HB1.out.size)); clear hb
    go_wp2_with fail
    refine (HW.out _ HB2.out).mono ?_
    rintro e w3 ⟨rfl, hb⟩
    have HB3 := Lib.hid (HB2.out.trans (hb.mono HB2.out.size)); clear hb
    go_wp2_with fail
    go_ret
    exact ⟨rfl, HB3.out⟩
set_option maxRecDepth 100000 in
set_option maxHeartbeats 2000000 in
theorem same_good (a b : List It) (va vb : Value) (w : World) (hA : Row w va a) (hB : Row w vb b) (hX : Tabs w) (h1 : a.length ≤ 60) (h2 : b.length ≤ 60) (m n : Nat) (x y : Ex) (oa : x.ok) (ob : y.ok) (ha : Sp a 0 x m) (hb : Sp b 0 y n) (da : x.depth ≤ 12) (db : y.depth ≤ 12)
    (ea : goodV (endOf a) = .tuple #[.int .i64 (m : Nat), .bool true]) (eb : goodV (endOf b) = .tuple #[.int .i64 (n : Nat), .bool true]) : Calls Tryd.prog 6 #[va, vb] w fun e w' => Made (.returned (.bool true)) w e w' := by
  have HG := Lib.hid (ea ▸ good_any a va w hA)
  have HH := Lib.hid (fun W (h : Below w.heap.size w W) => eb ▸ good_any b vb W (hB.below h))
  have HW := Lib.hid (fun W (h : Below w.heap.size w W) => wakes_any W (hX.below h))
  have HO := Lib.hid (fun W (h : Below w.heap.size w W) => of_good ha da va W (hA.below h))
  have HP := Lib.hid (fun W (h : Below w.heap.size w W) => of_good hb db vb W (hB.below h))
  have HRA := Lib.hid (fun W (h : Below w.heap.size w W) => hA.below h)
  have HRB := Lib.hid (fun W (h : Below w.heap.size w W) => hB.below h)
  have HSX := Lib.hid (fun u v W (hu : Tree W (treeOf x) u) (hv : Tree W (treeOf y) v) => same_ex x y oa da u v W hu hv)
  have HTX := Lib.hid (fun u W (hW : Below w.heap.size w W) (hu : Tree W (treeOf x) u) => text_any x oa da u W (hX.below hW) hu)
  have HTY := Lib.hid (fun u W (hW : Below w.heap.size w W) (hu : Tree W (treeOf y) u) => text_any y ob db u W (hX.below hW) hu)
  have hte := Lib.hid (text_eq x y oa ob)
  have HE := Lib.hid (⟨fun h => same_of ha hb h, fun h => by subst h; exact same_not ha hb⟩ : (((∀ j, j < m → AlikeAt a b j j) → x = y) ∧ (x = y → m = n ∧ ∀ j, j < m → AlikeAt a b j j)))
  have HM := Lib.hid ha.le.2
  have HN := Lib.hid hb.le.2
  have hmn : ((m : Int) == (n : Int)) = decide (m = n) := nat_beq m n
  obtain ⟨p, cap, rfl, hl⟩ := hA.len
  obtain ⟨q, cap', rfl, hl'⟩ := hB.len
  have i1 : (a.length : Int) ≤ 60 := by omega
  have i2 : (b.length : Int) ≤ 60 := by omega
  clear hA hB hX ea eb ha hb da db oa ob
  go_enter Tryd.func6, Tryd.ntmps6
  go_wp2_with fail
  refine HG.out.mono ?_
  rintro e w1 ⟨rfl, hb⟩
  have HB1 := Lib.hid hb; clear hb
  go_wp2_with fail
  refine (HH.out _ HB1.out).mono ?_
  rintro e w2 ⟨rfl, hb⟩
  have HB2 := Lib.hid (HB1.out.trans (hb.mono HB1.out.size)); clear hb
  go_wp2_with fail
  refine (HO.out _ HB2.out).mono ?_
  rintro e w3 ⟨px, rfl, ht, hb⟩
  have HB3 := Lib.hid (HB2.out.trans (hb.mono HB2.out.size))
  have HTr3 := Lib.hid ht
  clear hb ht
  go_wp2_with fail
  refine (HP.out _ HB3.out).mono ?_
  rintro e w4 ⟨py, rfl, ht, hb⟩
  have HB4 := Lib.hid (HB3.out.trans (hb.mono HB3.out.size))
  have HTX4 := Lib.hid (HTr3.out.below hb)
  have HTY4 := Lib.hid ht
  clear hb ht HB1 HB2 HB3 HTr3 HG HH HO HP
  go_wp2_with fail
  go_loopg [13, 14] m (fun g v13 v14 w' => ∃ i σ wx, wx = w' ∧ i ≤ m ∧ g = m - i ∧ v13 = .bool σ ∧ v14 = .int .i64 (i : Nat) ∧ Hid (σ = true → m = n ∧ ∀ j, j < i → AlikeAt a b j j) ∧ Hid (σ = false → x ≠ y) ∧
    Hid (Below w.heap.size w wx) ∧ Hid (Tree wx (treeOf x) (.pointer px)) ∧ Hid (Tree wx (treeOf y) (.pointer py)))
  case atStart => exact ⟨0, decide (m = n), _, rfl, by omega, rfl, rfl, rfl, Lib.hid fun h => ⟨of_decide_eq_true h, fun j hj => by omega⟩, Lib.hid fun h h' => of_decide_eq_false h (HE.out.2 h').1, HB4, HTX4, HTY4⟩
  case round =>
    obtain ⟨i, σ, wx, rfl, hi, rfl, rfl, rfl, HS1, HS0, HB, HX, HY⟩ := hrel
    by_cases hgo : σ = true ∧ i < m
    · obtain ⟨rfl, hlt⟩ := hgo
      obtain ⟨hmn', hal⟩ := HS1.out rfl
      have hla := HM.out
      have hlb := HN.out
      obtain ⟨xi, hxi⟩ : ∃ xi, a[i]? = some xi := ⟨_, List.getElem?_eq_getElem (by omega)⟩
      obtain ⟨yi, hyi⟩ : ∃ yi, b[i]? = some yi := ⟨_, List.getElem?_eq_getElem (by omega)⟩
      have HAL := Lib.hid (fun W => alike_any xi yi W)
      have HNEXT : Hid ((alikeB xi yi = true → m = n ∧ ∀ j, j < i + 1 → AlikeAt a b j j) ∧ (alikeB xi yi = false → x ≠ y)) := Lib.hid ⟨fun h => ⟨hmn', fun j hj => by
        by_cases hj' : j < i
        · exact hal j hj'
        · obtain rfl : j = i := by omega
          exact ⟨xi, yi, hxi, hyi, h⟩⟩, fun h h' => by
        obtain ⟨x', y', h1, h2, h3⟩ := (HE.out.2 h').2 i hlt
        rw [hxi] at h1; rw [hyi] at h2
        cases h1; cases h2
        rw [h] at h3; cases h3⟩
      obtain ⟨g1, o1, c1, e1, _, hia, hat⟩ := (HRA.out _ HB.out).item hxi
      obtain ⟨g2, o2, c2, e2, _, hib, hbt⟩ := (HRB.out _ HB.out).item hyi
      injection e1 with e1 _ ec1
      injection e2 with e2 _ ec2
      subst e1 e2 ec1 ec2
      obtain ⟨k1, p1, n1, t1, j1, l1⟩ := xi
      obtain ⟨k2, p2, n2, t2, j2, l2⟩ := yi
      have cA := ItemAt.allIn hat
      have cB := ItemAt.allIn hbt
      simp only at cA cB
      generalize alikeB ⟨k1, p1, n1, t1, j1, l1⟩ ⟨k2, p2, n2, t2, j2, l2⟩ = β at HAL HNEXT
      unfold itVal at HAL
      simp only at HAL
      have g1' : (i : Int) < (a.length : Int) := by omega
      have g2' : (i : Int) < (b.length : Int) := by omega
      have g3 : (0 : Int) ≤ i := by omega
      have g4 : (i : Int) < (m : Int) := by omega
      have g5 : (i : Int) ≤ 60 := by omega
      clear hat hbt hal hla hlb hxi hyi hmn hmn'
      go_upto_region 13 with fail
      have ne : Nonempty (Within (Under wx)) := ⟨⟨_, Under.refl wx⟩⟩
      refine wp_region_within (Under wx) (Under.refl wx) (by kernel_rfl) (by kernel_rfl) ?_
      repeat (go_big_quiet_step ((go_at_call 31; exact under_made (HAL.out _))))
      refine wpQuiet_nil ?_
      intro w' hw'
      obtain ⟨y', rfl⟩ := hw'
      have HK := Lib.hid y'.ok
      clear cA cB
      go_wp2_with fail
      go_roundg (m - (i + 1))
      case measure => omega
      case rel => exact ⟨i + 1, β, _, rfl, by omega, rfl, rfl, by go_num, Lib.hid HNEXT.out.1, Lib.hid HNEXT.out.2, Lib.hid (HB.out.trans (Below.mono HK.out HB.out.size)), Lib.hid (HX.out.below HK.out), Lib.hid (HY.out.below HK.out)⟩
    · have HRES : Hid (decide (x = y) = σ) := by
        cases σ with
        | false => exact Lib.hid (decide_eq_false (HS0.out rfl))
        | true =>
          obtain rfl : i = m := by
            have : ¬ i < m := fun h => hgo ⟨rfl, h⟩
            omega
          exact Lib.hid (decide_eq_true (HE.out.1 (HS1.out rfl).2))
      have HSS := Lib.hid (HSX.out _ _ wx HX.out HY.out)
      rw [HRES.out] at HSS
      have hte' : Hid ((str x.text).toList = (str y.text).toList ↔ σ = true) := Lib.hid (by rw [hte.out, ← HRES.out]; exact ⟨fun h => decide_eq_true h, fun h => of_decide_eq_true h⟩)
      have HTX1 := Lib.hid (fun W (hb : Below wx.heap.size wx W) => HTX.out _ W (HB.out.trans (hb.mono HB.out.size)) (HX.out.below hb))
      have HTY1 := Lib.hid (fun W (hb : Below wx.heap.size wx W) => HTY.out _ W (HB.out.trans (hb.mono HB.out.size)) (HY.out.below hb))
      have HW1 := Lib.hid (fun W (hb : Below wx.heap.size wx W) => HW.out W (HB.out.trans (hb.mono HB.out.size)))
      have g3 : (i : Int) ≤ m := by omega
      have g4 : (σ = true → (m : Int) ≤ (i : Int)) := fun h => by
        have : ¬ i < m := fun h' => hgo ⟨h, h'⟩
        omega
      clear HSX HTX HTY HW HX HY HS0 HS1 HRES HE hte hmn HTX4 HTY4 HB4
      generalize str x.text = tx at hte' HTX1
      generalize str y.text = ty at hte' HTY1
      cases σ
      · have hne : ¬ tx.toList = ty.toList := fun h => Bool.noConfusion (hte'.out.1 h)
        have hnb : (tx.toList == ty.toList) = false := beq_eq_false_iff_ne.2 hne
        clear g4 hte'
        by_cases hc : (i : Int) < (m : Int)
        all_goals
          go_wp2_with fail
          refine HSS.out.mono ?_
          rintro e w5 ⟨rfl, hb⟩
          have HB5 := Lib.hid hb; clear hb
          go_wp2_with fail
          refine (HTX1.out _ HB5.out).mono ?_
          rintro e w6 ⟨rfl, hb⟩
          have HB6 := Lib.hid (HB5.out.trans (hb.mono HB5.out.size)); clear hb
          go_wp2_with fail
          refine (HTY1.out _ HB6.out).mono ?_
          rintro e w7 ⟨rfl, hb⟩
          have HB7 := Lib.hid (HB6.out.trans (hb.mono HB6.out.size)); clear hb
          go_wp2_with fail
          refine (HW1.out _ HB7.out).mono ?_
          rintro e w8 ⟨rfl, hb⟩
          have HB8 := Lib.hid (HB7.out.trans (hb.mono HB7.out.size)); clear hb
          go_wp2_with fail
          go_ret
          exact ⟨rfl, HB.out.trans (HB8.out.mono HB.out.size)⟩
      · have g5 : (m : Int) ≤ (i : Int) := g4 rfl
        have heq : tx.toList = ty.toList := hte'.out.2 rfl
        clear hgo g4 hte'
        go_wp2_with fail
        refine HSS.out.mono ?_
        rintro e w5 ⟨rfl, hb⟩
        have HB5 := Lib.hid hb; clear hb
        go_wp2_with fail
        refine (HTX1.out _ HB5.out).mono ?_
        rintro e w6 ⟨rfl, hb⟩
        have HB6 := Lib.hid (HB5.out.trans (hb.mono HB5.out.size)); clear hb
        go_wp2_with fail
        refine (HTY1.out _ HB6.out).mono ?_
        rintro e w7 ⟨rfl, hb⟩
        have HB7 := Lib.hid (HB6.out.trans (hb.mono HB6.out.size)); clear hb
        go_wp2_with fail
        refine (HW1.out _ HB7.out).mono ?_
        rintro e w8 ⟨rfl, hb⟩
        have HB8 := Lib.hid (HB7.out.trans (hb.mono HB7.out.size)); clear hb
        go_wp2_with fail
        go_ret
        exact ⟨rfl, HB.out.trans (HB8.out.mono HB.out.size)⟩
theorem same_any_law (p q : Option Addr) (la lb cap cap' : Nat) (w : World) (hA : la ≤ 1000000 → ∃ l : List It, l.length = la ∧ (∀ a ∈ l, a.bd) ∧ Row w (.slice p la cap) l) (hB : lb ≤ 1000000 → ∃ l : List It, l.length = lb ∧ (∀ a ∈ l, a.bd) ∧ Row w (.slice q lb cap') l) (hX : Tabs w) :
    Calls Tryd.prog 6 #[.slice p la cap, .slice q lb cap'] w fun e w' => Made (.returned (.bool true)) w e w' := by
  by_cases h : 60 < la ∨ 60 < lb
  · exact same_long p q la lb cap cap' w hX h
  · obtain ⟨a, hla, ha, hA⟩ := hA (by omega)
    obtain ⟨b, hlb, hb, hB⟩ := hB (by omega)
    rcases good_view a with ⟨z, ea, _⟩ | ⟨x, m, hx, dx, ea⟩
    · rcases good_view b with ⟨z', eb, _⟩ | ⟨y, n, hy, dy, eb⟩
      · exact same_bad a b _ _ w hA hB hX (by omega) (by omega) z z' false false ea eb rfl
      · exact same_bad a b _ _ w hA hB hX (by omega) (by omega) z n false true ea eb rfl
    · rcases good_view b with ⟨z', eb, _⟩ | ⟨y, n, hy, dy, eb⟩
      · exact same_bad a b _ _ w hA hB hX (by omega) (by omega) m z' true false ea eb rfl
      · exact same_good a b _ _ w hA hB hX (by omega) (by omega) m n x y (hx.ok ha) (hy.ok hb) hx hy dx dy ea eb
end Go.Proofs.YtlfdjlpkopmhhaaDoor.Expr
