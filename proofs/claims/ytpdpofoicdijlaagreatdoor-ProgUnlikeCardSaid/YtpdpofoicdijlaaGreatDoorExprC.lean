/- Layer 3 (expr): how deep a tree is, whether two are alike. -/
import Derived.Test.YtpdpofoicdijlaaGreatDoorExprB
namespace Go.Proofs.YtpdpofoicdijlaaGreatDoor.Expr
open Go.RowKit Go.Proofs.YtpdpofoicdijlaaGreatDoor.Mem Go.Lib

/-- The calls of itself only read: but for draws the world is as it was. -/
def Reads (e0 : Ending) (w : World) (e : Ending) (w' : World) : Prop := e = e0 ∧ ∃ n, w' = w.drewN n
theorem Reads.below {e0 e : Ending} {w w' : World} (h : Reads e0 w e w') : Made e0 w e w' := by
  obtain ⟨he, n, rfl⟩ := h; exact ⟨he, drewN_below (Below.refl _ _) n⟩
theorem Tree.drewN {w : World} {t : Tr} {v : Value} (h : Tree w t v) (n : Nat) : Tree (w.drewN n) t v := h.below (drewN_below (Below.refl _ _) n)
theorem quiet_reads {P : Program} {f : FuncId} {args : Array Value} {w : World} {n : Nat} {v : Value}
    (h : Calls P f args (w.drewN n) fun e w' => Reads (.returned v) (w.drewN n) e w') : Calls P f args (w.drewN n) fun e w'' => e = .returned v ∧ ∃ m, w'' = w.drewN m :=
  Calls.quiet_of (h.mono fun _ _ h => h)

set_option maxRecDepth 100000 in
theorem depth_any (t : Tr) : ∀ (m : Nat) (v : Value) (w : World), m < 1000 → Tree w t v → Calls Tryz.prog 161 #[v, .int .i64 (m : Nat)] w fun e w' => Reads (.returned (.int .i64 (deepF t m : Nat))) w e w' := by
  induction t with
  | nil =>
    intro m v w _ h
    obtain rfl := h
    show Calls _ _ _ _ fun e w' => Reads (.returned (.int .i64 0)) w e w'
    go_enter Tryz.func161, Tryz.ntmps161
    go_wp2_with fail
    go_ret
    exact ⟨rfl, 0, (World.drewN_zero _).symm⟩
  | node a l r ihl ihr =>
    intro m v w hm h
    obtain ⟨g, lv, rv, rfl, hg, hl, hr⟩ := h
    obtain ⟨pl, rfl, hpl⟩ := hl.ptr
    obtain ⟨pr, rfl, hpr⟩ := hr.ptr
    clear hpl hpr
    cases m with
    | zero =>
      show Calls _ _ #[.pointer (some ⟨g, 0, none⟩), .int .i64 0] _ fun e w' => Reads (.returned (.int .i64 0)) w e w'
      clear hg hl hr ihl ihr
      go_enter Tryz.func161, Tryz.ntmps161
      go_wp2_with fail
      go_ret
      exact ⟨rfl, 0, (World.drewN_zero _).symm⟩
    | succ m =>
      have q6 : w.cell? ⟨g, 6, none⟩ = some (.pointer pl) := hg.cell 6
      have q7 : w.cell? ⟨g, 7, none⟩ = some (.pointer pr) := hg.cell 7
      have hlt := hg.lt
      have HL := Lib.hid (fun n => ihl m (.pointer pl) (w.drewN n) (by omega) (hl.drewN n))
      have HR := Lib.hid (fun n => ihr m (.pointer pr) (w.drewN n) (by omega) (hr.drewN n))
      have z0 : (((m + 1 : Nat) : Int) == 0) = false := beq_eq_false_iff_ne.2 (by omega)
      have d1 := deepF_le l m
      have d2 := deepF_le r m
      have E := Lib.hid (show deepF (.node a l r) (m + 1) = 1 + max (deepF l m) (deepF r m) from rfl)
      clear hg hl hr ihl ihr
      generalize deepF (.node a l r) (m + 1) = D at E ⊢
      generalize deepF l m = x at HL E d1 ⊢
      generalize deepF r m = y at HR E d2 ⊢
      have hw : IntKind.i64.wrap (((m + 1 : Nat) : Int) - 1) = (m : Int) := by rw [IntWalk.i64_in _ (by omega)]; omega
      have hw2 : IntKind.i64.wrap ((m : Int) + 1 - 1) = (m : Int) := by rw [IntWalk.i64_in _ (by omega)]; omega
      go_enter Tryz.func161, Tryz.ntmps161
      go_wp2_with fail
      go_quiet ((first | (go_at_call_of 161 (Value.pointer pl); exact quiet_reads (HL.out _)) | (go_at_call_of 161 (Value.pointer pr); exact quiet_reads (HR.out _))))
      go_wp2_with fail
      go_ret
      exact ⟨ret_int (by rw [E.out]; omega), nq, rfl⟩

/-- Two boxes one behind the other. -/
def twoBox (w : World) (a b : It) : World := ((w.alloc (.cells (exprCells a (.pointer none) (.pointer none)) 58)).alloc (.cells (exprCells b (.pointer none) (.pointer none)) 58)).drew
theorem twoBox_first (w : World) (a b : It) : Sits (twoBox w a b) w.heap.size 58 (exprCells a (.pointer none) (.pointer none)) := ((Sits.new w _ _).alloc _).drew
theorem twoBox_second (w : World) (a b : It) : Sits (twoBox w a b) (w.heap.size + 1) 58 (exprCells b (.pointer none) (.pointer none)) := (Sits.made (by simp) _ _).drew
theorem twoBox_low (w : World) (a b : It) : Below w.heap.size w (twoBox w a b) := (((Below.refl _ _).alloc (Nat.le_refl _) _).alloc (by simp) _).drew
theorem Sits.allIn {W : World} {g : Nat} {a : It} {lv rv : Value} (h : Sits W g 58 (exprCells a lv rv)) (x : Within (Under W)) :
    x.now.cell? ⟨g, 0, none⟩ = some (.int .u8 a.kind) ∧ x.now.cell? ⟨g, 1, none⟩ = some (.int .u8 a.op) ∧ x.now.cell? ⟨g, 2, none⟩ = some (.int .u64 a.n) ∧ x.now.cell? ⟨g, 3, none⟩ = some (.int .u8 a.t) ∧
    x.now.cell? ⟨g, 4, none⟩ = some (.int .u8 a.i) ∧ x.now.cell? ⟨g, 5, none⟩ = some (.int .u8 a.x) ∧ x.now.cell? ⟨g, 6, none⟩ = some lv ∧ x.now.cell? ⟨g, 7, none⟩ = some rv :=
  Sits.all8 (h.below x.ok h.lt)
set_option maxRecDepth 100000 in
set_option maxHeartbeats 2000000 in
theorem same_node (k op n t i x k' op' n' t' i' x' : Nat) (g g' : Nat) (pl pr pl' pr' : Option Addr) (bl br : Bool) (w : World)
    (hg : Sits w g 58 (exprCells ⟨k, op, n, t, i, x⟩ (.pointer pl) (.pointer pr))) (hg' : Sits w g' 58 (exprCells ⟨k', op', n', t', i', x'⟩ (.pointer pl') (.pointer pr')))
    (HL : Hid (∀ W : World, Below w.heap.size w W → Calls Tryz.prog 102 #[.pointer pl, .pointer pl'] W fun e w' => Made (.returned (.bool bl)) W e w'))
    (HR : Hid (∀ W : World, Below w.heap.size w W → Calls Tryz.prog 102 #[.pointer pr, .pointer pr'] W fun e w' => Made (.returned (.bool br)) W e w')) :
    Calls Tryz.prog 102 #[.pointer (some ⟨g, 0, none⟩), .pointer (some ⟨g', 0, none⟩)] w fun e w' => Made (.returned (.bool (eqIt ⟨k, op, n, t, i, x⟩ ⟨k', op', n', t', i', x'⟩ && bl && br))) w e w' := by
  obtain ⟨q0, q1, q2, q3, q4, q5, q6, q7⟩ := Sits.all8 hg
  obtain ⟨r0, r1, r2, r3, r4, r5, r6, r7⟩ := Sits.all8 hg'
  simp only at q0 q1 q2 q3 q4 q5 r0 r1 r2 r3 r4 r5
  have hlt := hg.lt
  have hlt' := hg'.lt
  have hq : ∀ W, (binOp .eql 58 (.agg #[.int .u8 k, .int .u8 op, .int .u64 n, .int .u8 t, .int .u8 i, .int .u8 x, .pointer none, .pointer none]) (.agg #[.int .u8 k', .int .u8 op', .int .u64 n', .int .u8 t', .int .u8 i', .int .u8 x', .pointer none, .pointer none])).run Tryz.prog W = .ok (.bool (eqIt ⟨k, op, n, t, i, x⟩ ⟨k', op', n', t', i', x'⟩ && true && true)) W :=
    fun W => eq_expr ⟨k, op, n, t, i, x⟩ ⟨k', op', n', t', i', x'⟩ none none none none _ _ (ptr_same none) (ptr_same none) W
  cases he : eqIt ⟨k, op, n, t, i, x⟩ ⟨k', op', n', t', i', x'⟩ with
  | false =>
    rw [he] at hq
    clear he HL HR
    go_enter Tryz.func102, Tryz.ntmps102
    go_wp2_with fail
    go_region
    all_goals
      go_wp2_with fail
      go_quiet (fail)
      go_wp2_with fail
      go_ret
      exact ⟨rfl, drewN_below (((Below.refl _ _).alloc (Nat.le_refl _) _).alloc (by simp) _).drew _⟩
  | true =>
    rw [he] at hq
    clear he
    cases bl with
    | false =>
      clear HR
      go_enter Tryz.func102, Tryz.ntmps102
      go_wp2_with fail
      go_region
      · go_wp2_with fail
        change Code.wp _ _ _ _ (twoBox w ⟨k, op, n, t, i, x⟩ ⟨k', op', n', t', i', x'⟩)
        have cA := Sits.allIn (twoBox_first w ⟨k, op, n, t, i, x⟩ ⟨k', op', n', t', i', x'⟩)
        have cB := Sits.allIn (twoBox_second w ⟨k, op, n, t, i, x⟩ ⟨k', op', n', t', i', x'⟩)
        have c1 := Sits.allIn (hg.below (twoBox_low w ⟨k, op, n, t, i, x⟩ ⟨k', op', n', t', i', x'⟩) hg.lt)
        have c2 := Sits.allIn (hg'.below (twoBox_low w ⟨k, op, n, t, i, x⟩ ⟨k', op', n', t', i', x'⟩) hg'.lt)
        have HLOW := Lib.hid (twoBox_low w ⟨k, op, n, t, i, x⟩ ⟨k', op', n', t', i', x'⟩)
        simp only at cA cB c1 c2
        generalize twoBox w ⟨k, op, n, t, i, x⟩ ⟨k', op', n', t', i', x'⟩ = W at cA cB c1 c2 HLOW ⊢
        have ne : Nonempty (Within (Under W)) := ⟨⟨_, Under.refl W⟩⟩
        refine wp_region_within (Under W) (Under.refl W) (by kernel_rfl) (by kernel_rfl) ?_
        repeat (go_big_quiet_step ((go_at_call 102; exact under_made (HL.out _ (HLOW.out.trans (Below.mono (Within.ok _) HLOW.out.size))))))
        refine wpQuiet_nil ?_
        intro w' hw'
        obtain ⟨y, rfl⟩ := hw'
        have HEND := Lib.hid (HLOW.out.trans (Below.mono y.ok HLOW.out.size))
        clear cA cB c1 c2
        go_wp2_with fail
        go_ret
        exact ⟨rfl, HEND.out⟩
      · go_wp2_with fail
        change Code.wp _ _ _ _ (twoBox w ⟨k', op', n', t', i', x'⟩ ⟨k, op, n, t, i, x⟩)
        have cA := Sits.allIn (twoBox_second w ⟨k', op', n', t', i', x'⟩ ⟨k, op, n, t, i, x⟩)
        have cB := Sits.allIn (twoBox_first w ⟨k', op', n', t', i', x'⟩ ⟨k, op, n, t, i, x⟩)
        have c1 := Sits.allIn (hg.below (twoBox_low w ⟨k', op', n', t', i', x'⟩ ⟨k, op, n, t, i, x⟩) hg.lt)
        have c2 := Sits.allIn (hg'.below (twoBox_low w ⟨k', op', n', t', i', x'⟩ ⟨k, op, n, t, i, x⟩) hg'.lt)
        have HLOW := Lib.hid (twoBox_low w ⟨k', op', n', t', i', x'⟩ ⟨k, op, n, t, i, x⟩)
        simp only at cA cB c1 c2
        generalize twoBox w ⟨k', op', n', t', i', x'⟩ ⟨k, op, n, t, i, x⟩ = W at cA cB c1 c2 HLOW ⊢
        have ne : Nonempty (Within (Under W)) := ⟨⟨_, Under.refl W⟩⟩
        refine wp_region_within (Under W) (Under.refl W) (by kernel_rfl) (by kernel_rfl) ?_
        repeat (go_big_quiet_step ((go_at_call 102; exact under_made (HL.out _ (HLOW.out.trans (Below.mono (Within.ok _) HLOW.out.size))))))
        refine wpQuiet_nil ?_
        intro w' hw'
        obtain ⟨y, rfl⟩ := hw'
        have HEND := Lib.hid (HLOW.out.trans (Below.mono y.ok HLOW.out.size))
        clear cA cB c1 c2
        go_wp2_with fail
        go_ret
        exact ⟨rfl, HEND.out⟩
    | true =>
      go_enter Tryz.func102, Tryz.ntmps102
      go_wp2_with fail
      go_region
      · go_wp2_with fail
        change Code.wp _ _ _ _ (twoBox w ⟨k, op, n, t, i, x⟩ ⟨k', op', n', t', i', x'⟩)
        have cA := Sits.allIn (twoBox_first w ⟨k, op, n, t, i, x⟩ ⟨k', op', n', t', i', x'⟩)
        have cB := Sits.allIn (twoBox_second w ⟨k, op, n, t, i, x⟩ ⟨k', op', n', t', i', x'⟩)
        have c1 := Sits.allIn (hg.below (twoBox_low w ⟨k, op, n, t, i, x⟩ ⟨k', op', n', t', i', x'⟩) hg.lt)
        have c2 := Sits.allIn (hg'.below (twoBox_low w ⟨k, op, n, t, i, x⟩ ⟨k', op', n', t', i', x'⟩) hg'.lt)
        have HLOW := Lib.hid (twoBox_low w ⟨k, op, n, t, i, x⟩ ⟨k', op', n', t', i', x'⟩)
        simp only at cA cB c1 c2
        generalize twoBox w ⟨k, op, n, t, i, x⟩ ⟨k', op', n', t', i', x'⟩ = W at cA cB c1 c2 HLOW ⊢
        have ne : Nonempty (Within (Under W)) := ⟨⟨_, Under.refl W⟩⟩
        refine wp_region_within (Under W) (Under.refl W) (by kernel_rfl) (by kernel_rfl) ?_
        repeat (go_big_quiet_step (first | (go_at_call_of 102 (Value.pointer pl); exact under_made (HL.out _ (HLOW.out.trans (Below.mono (Within.ok _) HLOW.out.size)))) | (go_at_call_of 102 (Value.pointer pr); exact under_made (HR.out _ (HLOW.out.trans (Below.mono (Within.ok _) HLOW.out.size))))))
        refine wpQuiet_nil ?_
        intro w' hw'
        obtain ⟨y, rfl⟩ := hw'
        have HEND := Lib.hid (HLOW.out.trans (Below.mono y.ok HLOW.out.size))
        clear cA cB c1 c2
        go_wp2_with fail
        go_ret
        exact ⟨rfl, HEND.out⟩
      · go_wp2_with fail
        change Code.wp _ _ _ _ (twoBox w ⟨k', op', n', t', i', x'⟩ ⟨k, op, n, t, i, x⟩)
        have cA := Sits.allIn (twoBox_second w ⟨k', op', n', t', i', x'⟩ ⟨k, op, n, t, i, x⟩)
        have cB := Sits.allIn (twoBox_first w ⟨k', op', n', t', i', x'⟩ ⟨k, op, n, t, i, x⟩)
        have c1 := Sits.allIn (hg.below (twoBox_low w ⟨k', op', n', t', i', x'⟩ ⟨k, op, n, t, i, x⟩) hg.lt)
        have c2 := Sits.allIn (hg'.below (twoBox_low w ⟨k', op', n', t', i', x'⟩ ⟨k, op, n, t, i, x⟩) hg'.lt)
        have HLOW := Lib.hid (twoBox_low w ⟨k', op', n', t', i', x'⟩ ⟨k, op, n, t, i, x⟩)
        simp only at cA cB c1 c2
        generalize twoBox w ⟨k', op', n', t', i', x'⟩ ⟨k, op, n, t, i, x⟩ = W at cA cB c1 c2 HLOW ⊢
        have ne : Nonempty (Within (Under W)) := ⟨⟨_, Under.refl W⟩⟩
        refine wp_region_within (Under W) (Under.refl W) (by kernel_rfl) (by kernel_rfl) ?_
        repeat (go_big_quiet_step (first | (go_at_call_of 102 (Value.pointer pl); exact under_made (HL.out _ (HLOW.out.trans (Below.mono (Within.ok _) HLOW.out.size)))) | (go_at_call_of 102 (Value.pointer pr); exact under_made (HR.out _ (HLOW.out.trans (Below.mono (Within.ok _) HLOW.out.size))))))
        refine wpQuiet_nil ?_
        intro w' hw'
        obtain ⟨y, rfl⟩ := hw'
        have HEND := Lib.hid (HLOW.out.trans (Below.mono y.ok HLOW.out.size))
        clear cA cB c1 c2
        go_wp2_with fail
        go_ret
        exact ⟨rfl, HEND.out⟩
theorem eq_node (a b : It) (l r l' r' : Tr) : decide (Tr.node a l r = Tr.node b l' r') = (eqIt a b && decide (l = l') && decide (r = r')) := by
  by_cases h1 : a = b <;> by_cases h2 : l = l' <;> by_cases h3 : r = r' <;> simp [eqIt, h1, h2, h3]
theorem nil_eq (a : Addr) (W : World) : (binOp .eql 31 (.pointer none) (.pointer (some a))).run Tryz.prog W = .ok (.bool false) W := by
  have h : ∀ d : Nat, (Op.equalIn (d + 1) 31 (.pointer none) (.pointer (some a))).run Tryz.prog W = .ok false W := fun d => by
    simp [Op.equalIn, run_underlying Tryz.underlying31]
  simp only [binOp]
  simp [Op.equal, Op.maxDepth, h 9999]
set_option maxRecDepth 100000 in
theorem same_any (s : Tr) : ∀ (t : Tr) (u v : Value) (w : World), Tree w s u → Tree w t v → Calls Tryz.prog 102 #[u, v] w fun e w' => Made (.returned (.bool (decide (s = t)))) w e w' := by
  induction s with
  | nil =>
    intro t u v w hs ht
    obtain rfl := hs
    cases t with
    | nil =>
      obtain rfl := ht
      show Calls _ _ _ _ fun e w' => Made (.returned (.bool true)) w e w'
      go_enter Tryz.func102, Tryz.ntmps102
      go_wp2_with fail
      go_ret
      exact ⟨rfl, Below.refl _ _⟩
    | node b l r =>
      obtain ⟨g, lv, rv, rfl, _⟩ := ht
      show Calls _ _ _ _ fun e w' => Made (.returned (.bool false)) w e w'
      have hn := nil_eq ⟨g, 0, none⟩
      go_enter Tryz.func102, Tryz.ntmps102
      go_wp2_with fail
      go_ret
      exact ⟨rfl, Below.refl _ _⟩
  | node a l r ihl ihr =>
    intro t u v w hs ht
    obtain ⟨g, lv, rv, rfl, hg, hl, hr⟩ := hs
    cases t with
    | nil =>
      obtain rfl := ht
      show Calls _ _ _ _ fun e w' => Made (.returned (.bool false)) w e w'
      clear hg hl hr ihl ihr
      go_enter Tryz.func102, Tryz.ntmps102
      go_wp2_with fail
      go_ret
      exact ⟨rfl, Below.refl _ _⟩
    | node b l' r' =>
      obtain ⟨g', lv', rv', rfl, hg', hl', hr'⟩ := ht
      obtain ⟨pl, rfl, _⟩ := hl.ptr
      obtain ⟨pr, rfl, _⟩ := hr.ptr
      obtain ⟨pl', rfl, _⟩ := hl'.ptr
      obtain ⟨pr', rfl, _⟩ := hr'.ptr
      rw [eq_node]
      obtain ⟨k, op, n, t, i, x⟩ := a
      obtain ⟨k', op', n', t', i', x'⟩ := b
      exact same_node k op n t i x k' op' n' t' i' x' g g' pl pr pl' pr' _ _ w hg hg' (Lib.hid fun W hb => ihl l' _ _ W (hl.below hb) (hl'.below hb)) (Lib.hid fun W hb => ihr r' _ _ W (hr.below hb) (hr'.below hb))
theorem Same_any (s t : Tr) (u v : Value) (w : World) (hs : Tree w s u) (ht : Tree w t v) : Calls Tryz.prog 55 #[u, v] w fun e w' => Made (.returned (.bool (fitsF s 12 && decide (s = t)))) w e w' := by
  have HM := Lib.hid (may_any s u w hs)
  have HS := Lib.hid (fun (W : World) (hb : Below w.heap.size w W) => same_any s t u v W (hs.below hb) (ht.below hb))
  obtain ⟨p, rfl, _⟩ := hs.ptr
  obtain ⟨q, rfl, _⟩ := ht.ptr
  clear hs ht
  generalize decide (s = t) = b at HS ⊢
  cases hf : fitsF s 12
  · rw [hf] at HM
    clear hf HS
    go_enter Tryz.func55, Tryz.ntmps55
    go_wp2_with fail
    refine HM.out.mono ?_
    rintro e w1 ⟨rfl, hb⟩
    have HB := Lib.hid hb; clear hb
    go_wp2_with fail
    go_ret
    exact ⟨rfl, HB.out⟩
  · rw [hf] at HM
    clear hf
    go_enter Tryz.func55, Tryz.ntmps55
    go_wp2_with fail
    refine HM.out.mono ?_
    rintro e w1 ⟨rfl, hb⟩
    have HB := Lib.hid hb; clear hb
    go_wp2_with fail
    refine (HS.out _ HB.out).mono ?_
    rintro e w2 ⟨rfl, hb⟩
    have HB2 := Lib.hid (HB.out.trans (hb.mono HB.out.size)); clear hb
    go_wp2_with fail
    go_ret
    exact ⟨rfl, HB2.out⟩
theorem Depth_any (t : Tr) (v : Value) (w : World) (h : Tree w t v) : Calls Tryz.prog 129 #[v] w fun e w' => Made (.returned (.int .i64 (deepF t 13 : Nat))) w e w' := by
  have H := Lib.hid (depth_any t 13 v w (by omega) h)
  obtain ⟨p, rfl, _⟩ := h.ptr
  clear h
  go_enter Tryz.func129, Tryz.ntmps129
  go_wp2_with fail
  refine H.out.mono ?_
  rintro e w1 hr
  obtain ⟨rfl, hb⟩ := Reads.below hr
  have HB := Lib.hid hb; clear hb hr
  go_wp2_with fail
  go_ret
  exact ⟨rfl, HB.out⟩
end Go.Proofs.YtpdpofoicdijlaaGreatDoor.Expr
