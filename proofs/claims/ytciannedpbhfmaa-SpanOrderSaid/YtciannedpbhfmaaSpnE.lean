/- Layer 9 (span): the walk of SpanTells. -/
import Derived.Test.YtciannedpbhfmaaSpnD
import Derived.Test.YtciannedpbhfmaaFlowG
namespace Go.Proofs.Ytciannedpbhfmaa.Spn
open Go.RowKit Go.Proofs.Ytciannedpbhfmaa.Mem Go.Proofs.Ytciannedpbhfmaa.Flow

/-- Both pairs lie, and memory has only grown. -/
structure Two (w : World) (g h : Nat) (a b c d : Int) (W : World) : Prop where
  p : PairAt W g a b
  q : PairAt W h c d
  low : Below w.heap.size w W
theorem Two.grown {w W W' : World} {g h : Nat} {a b c d : Int} (t : Two w g h a b c d W) (hb : Below W.heap.size W W') : Two w g h a b c d W' :=
  ⟨t.p.below hb, t.q.below hb, t.low.trans (hb.mono t.low.size)⟩

theorem not_i64 {a : Int} (h : -9223372036854775808 ≤ a ∧ a ≤ 9223372036854775807) : a.natAbs ≤ 2 ^ 64 := by omega
theorem two_0 (w : World) (a b c d : Int) : Two w w.heap.size (w.heap.size + 1) a b c d ((w.alloc (.cells #[.int .i64 a, .int .i64 b] 23)).alloc (.cells #[.int .i64 c, .int .i64 d] 23)) :=
  ⟨(Sits.new w _ _).alloc _, Sits.made (by simp) _ _, below2 _ _ _⟩

theorem tells_no {a b c d : Int} (ha : a.natAbs ≤ 2 ^ 64) (hb : b.natAbs ≤ 2 ^ 64) (hc : c.natAbs ≤ 2 ^ 64) (hd : d.natAbs ≤ 2 ^ 64) (hp : mayF a b = false) (w : World) :
    Calls Try.prog 3 #[pairV a b, pairV c d] w fun e w' => e = .returned (.bool true) ∧ Below w.heap.size w w' := by
  have HT := Lib.hid (two_0 w a b c d)
  have wd0 : Wd 0 0 := .inl ⟨is_0, by decide⟩
  have o0 := order_eq is_0 is_0 rfl
  have m0 : mayF 0 0 = true := by decide
  cases hq : mayF c d
  all_goals
    go_enter Try.func3, Try.ntmps3
    go_wp2_with (go_at_call 5; first | (refine (of_no (by assumption) (by assumption) (by assumption) _).mono ?_; rintro e w' ⟨rfl, rfl⟩) | (refine (of_sp (by assumption) (by assumption) (by assumption) _).mono ?_; rintro e w' ⟨⟨x, y, rfl, hs⟩, rfl⟩; have wre := hs.wre; have wim := hs.wim))
    generalize ((w.alloc (Obj.cells #[.int .i64 a, .int .i64 b] 23)).alloc (.cells #[.int .i64 c, .int .i64 d] 23)) = w0 at HT ⊢
    go_at_call 6
    refine (rmay_any _ _ _).mono ?_
    rintro e w1 ⟨rfl, hb1⟩
    have HT1 := Lib.hid (HT.out.grown hb1)
    clear hb1 HT
    have c0 := HT1.out.p.fst
    have c1 := HT1.out.p.snd
    have c2 := HT1.out.q.fst
    have c3 := HT1.out.q.snd
    go_wp2_with (go_at_call 0)
    go_at_call 6
    refine (rmay_any _ _ _).mono ?_
    rintro e w2 ⟨rfl, hb2⟩
    have HT2 := Lib.hid (HT1.out.grown hb2)
    clear hb2 HT1 c0 c1 c2 c3
    go_wp2_with (go_at_call 7; refine (may_any (by assumption) (by assumption) _).mono ?_; rintro e w' ⟨rfl, rfl⟩)
    go_at_call 8
    refine (wakes_any _).mono ?_
    rintro e w3 ⟨rfl, hb3⟩
    have HT3 := Lib.hid (HT2.out.grown hb3)
    clear hb3 HT2
    go_wp2
    go_ret
    exact ⟨rfl, HT3.out.low⟩
theorem tells_half {a b c d : Int} (ha : a.natAbs ≤ 2 ^ 64) (hb : b.natAbs ≤ 2 ^ 64) (hc : c.natAbs ≤ 2 ^ 64) (hd : d.natAbs ≤ 2 ^ 64) (hp : mayF a b = true) (hq : mayF c d = false) (w : World) :
    Calls Try.prog 3 #[pairV a b, pairV c d] w fun e w' => e = .returned (.bool true) ∧ Below w.heap.size w w' := by
  have HT := Lib.hid (two_0 w a b c d)
  go_enter Try.func3, Try.ntmps3
  go_wp2_with (go_at_call 5; first | (refine (of_no (by assumption) (by assumption) (by assumption) _).mono ?_; rintro e w' ⟨rfl, rfl⟩) | (refine (of_sp (by assumption) (by assumption) (by assumption) _).mono ?_; rintro e w' ⟨⟨x, y, rfl, hs⟩, rfl⟩; have wre := hs.wre; have wim := hs.wim))
  generalize ((w.alloc (Obj.cells #[.int .i64 a, .int .i64 b] 23)).alloc (.cells #[.int .i64 c, .int .i64 d] 23)) = w0 at HT ⊢
  go_at_call 6
  refine (rmay_any _ _ _).mono ?_
  rintro e w1 ⟨rfl, hb1⟩
  have HT1 := Lib.hid (HT.out.grown hb1)
  clear hb1 HT
  have c0 := HT1.out.p.fst
  have c1 := HT1.out.p.snd
  have c2 := HT1.out.q.fst
  have c3 := HT1.out.q.snd
  go_wp2_with (go_at_call 0)
  go_at_call 6
  refine (rmay_any _ _ _).mono ?_
  rintro e w2 ⟨rfl, hb2⟩
  have HT2 := Lib.hid (HT1.out.grown hb2)
  clear hb2 HT1 c0 c1 c2 c3
  go_wp2_with (go_at_call 7; refine (may_any (by assumption) (by assumption) _).mono ?_; rintro e w' ⟨rfl, rfl⟩)
  go_at_call 8
  refine (wakes_any _).mono ?_
  rintro e w3 ⟨rfl, hb3⟩
  have HT3 := Lib.hid (HT2.out.grown hb3)
  clear hb3 HT2
  go_wp2
  go_ret
  exact ⟨rfl, HT3.out.low⟩
theorem cmp_less (a b c d : Int) : (lessF a b c d = true ∧ lessF c d a b = false ∧ cmpF a b c d = -1) ∨ (lessF a b c d = false ∧ lessF c d a b = true ∧ cmpF a b c d = 1) ∨ (lessF a b c d = false ∧ lessF c d a b = false ∧ cmpF a b c d = 0) := by
  unfold cmpF orF cmp1 lessF
  simp only [decide_eq_true_eq, decide_eq_false_iff_not]
  split <;> split <;> (try split) <;> (try split) <;> omega
set_option maxHeartbeats 2000000 in
theorem tells_both {a b c d : Int} (ha : a.natAbs ≤ 2 ^ 64) (hb : b.natAbs ≤ 2 ^ 64) (hc : c.natAbs ≤ 2 ^ 64) (hd : d.natAbs ≤ 2 ^ 64) (hp : mayF a b = true) (hq : mayF c d = true) (w : World) :
    Calls Try.prog 3 #[pairV a b, pairV c d] w fun e w' => e = .returned (.bool true) ∧ Below w.heap.size w w' := by
  have HT := Lib.hid (two_0 w a b c d)
  have hap : (decide (b = c) == (b == c)) = true := by by_cases h : b = c <;> simp [h]
  rcases cmp_less a b c d with ⟨l1, l2, lc⟩ | ⟨l1, l2, lc⟩ | ⟨l1, l2, lc⟩
  all_goals
    go_enter Try.func3, Try.ntmps3
    go_wp2_with (go_at_call 5; refine (of_sp (by assumption) (by assumption) (by assumption) _).mono ?_; rintro e w' ⟨⟨x, y, rfl, hs⟩, rfl⟩; have wre := hs.wre; have wim := hs.wim; have q1 := order_eq hs.re (is_fl _ (by have := hs.le; omega)) rfl; have q2 := order_eq hs.im (is_fl _ (by have := hs.le; omega)) rfl)
    generalize ((w.alloc (Obj.cells #[.int .i64 a, .int .i64 b] 23)).alloc (.cells #[.int .i64 c, .int .i64 d] 23)) = w0 at HT ⊢
    go_at_call 6
    refine (rmay_any _ _ _).mono ?_
    rintro e w1 ⟨rfl, hb1⟩
    have HT1 := Lib.hid (HT.out.grown hb1)
    clear hb1 HT
    have c0 := HT1.out.p.fst
    have c1 := HT1.out.p.snd
    have c2 := HT1.out.q.fst
    have c3 := HT1.out.q.snd
    go_wp2_with (go_at_call 0)
    go_at_call 6
    refine (rmay_any _ _ _).mono ?_
    rintro e w2 ⟨rfl, hb2⟩
    have HT2 := Lib.hid (HT1.out.grown hb2)
    clear hb2 HT1 c0 c1 c2 c3
    go_wp2_with (go_at_call 7; refine (may_any (by assumption) (by assumption) _).mono ?_; rintro e w' ⟨rfl, rfl⟩)
    have X0 : ∀ y : Within (Under w2), y.now.cell? ⟨w.heap.size, 0, none⟩ = some (.int .i64 a) := fun y => (HT2.out.grown y.ok).p.fst
    have X1 : ∀ y : Within (Under w2), y.now.cell? ⟨w.heap.size, 1, none⟩ = some (.int .i64 b) := fun y => (HT2.out.grown y.ok).p.snd
    have X2 : ∀ y : Within (Under w2), y.now.cell? ⟨w.heap.size + 1, 0, none⟩ = some (.int .i64 c) := fun y => (HT2.out.grown y.ok).q.fst
    have X3 : ∀ y : Within (Under w2), y.now.cell? ⟨w.heap.size + 1, 1, none⟩ = some (.int .i64 d) := fun y => (HT2.out.grown y.ok).q.snd
    have ne : Nonempty (Within (Under w2)) := ⟨⟨_, Under.refl w2⟩⟩
    refine wp_region_within (Under w2) (Under.refl w2) (by kernel_rfl) (by kernel_rfl) ?_
    repeat (go_big_quiet_step (first | (go_at_call 9; exact under_eq (from_any (by assumption) _)) | (go_at_call 10; exact under_eq (to_any (by assumption) _))))
    refine wpQuiet_nil ?_
    intro w3 hw3
    have hbu : Under w2 w3 := by obtain ⟨y, rfl⟩ := hw3; exact y.ok
    have HT3 := Lib.hid (HT2.out.grown hbu)
    clear hbu hw3 X0 X1 X2 X3 ne HT2
    have c0 := HT3.out.p.fst
    have c1 := HT3.out.p.snd
    have c2 := HT3.out.q.fst
    have c3 := HT3.out.q.snd
    go_wp2_with (go_at_call 0)
    go_at_call 11
    refine (less_any _ _ _ _ _).mono ?_
    rintro e w4 ⟨rfl, hbx⟩
    have HT4 := Lib.hid (HT3.out.grown hbx)
    clear hbx HT3 c0 c1 c2 c3
    have c0 := HT4.out.p.fst
    have c1 := HT4.out.p.snd
    have c2 := HT4.out.q.fst
    have c3 := HT4.out.q.snd
    go_wp2_with (go_at_call 0)
    go_at_call 11
    refine (less_any _ _ _ _ _).mono ?_
    rintro e w5 ⟨rfl, hbx⟩
    have HT5 := Lib.hid (HT4.out.grown hbx)
    clear hbx HT4 c0 c1 c2 c3
    go_wp2_with fail
    have X0 : ∀ y : Within (Under w5), y.now.cell? ⟨w.heap.size, 0, none⟩ = some (.int .i64 a) := fun y => (HT5.out.grown y.ok).p.fst
    have X1 : ∀ y : Within (Under w5), y.now.cell? ⟨w.heap.size, 1, none⟩ = some (.int .i64 b) := fun y => (HT5.out.grown y.ok).p.snd
    have X2 : ∀ y : Within (Under w5), y.now.cell? ⟨w.heap.size + 1, 0, none⟩ = some (.int .i64 c) := fun y => (HT5.out.grown y.ok).q.fst
    have X3 : ∀ y : Within (Under w5), y.now.cell? ⟨w.heap.size + 1, 1, none⟩ = some (.int .i64 d) := fun y => (HT5.out.grown y.ok).q.snd
    have ne : Nonempty (Within (Under w5)) := ⟨⟨_, Under.refl w5⟩⟩
    refine wp_region_within (Under w5) (Under.refl w5) (by kernel_rfl) (by kernel_rfl) ?_
    repeat (go_big_quiet_step (first | (go_at_call 12; exact under_eq (apart_any (by assumption) (by assumption) _)) | (go_at_call 13; exact under_made (rapart_any hp hq _)) | (go_at_call 14; exact under_eq (touches_any (by assumption) (by assumption) _)) | (go_at_call 15; exact under_made (compare_any (by assumption) (by assumption) _)) | (go_at_call 8; exact under_made (wakes_any _))))
    refine wpQuiet_nil ?_
    intro w6 hw6
    have hbu : Under w5 w6 := by obtain ⟨y, rfl⟩ := hw6; exact y.ok
    have HT6 := Lib.hid (HT5.out.grown hbu)
    clear hbu hw6 X0 X1 X2 X3 ne HT5
    go_wp2_with fail
    go_ret
    exact ⟨rfl, HT6.out.low⟩
end Go.Proofs.Ytciannedpbhfmaa.Spn
