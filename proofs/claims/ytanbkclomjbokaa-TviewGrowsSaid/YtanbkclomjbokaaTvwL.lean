/- Layer 13 (tview): the document's knows; View, Of. -/
import Derived.Test.YtanbkclomjbokaaTvwK
import Derived.Test.YtanbkclomjbokaaTvwG
namespace Go.Proofs.Ytanbkclomjbokaa.Tvw
open Go.RowKit Go.Proofs.Ytanbkclomjbokaa.Mem Go.Proofs.Ytanbkclomjbokaa.Flow Go.Proofs.Ytanbkclomjbokaa.Vew

structure KnAt (w : World) (c : Nat → Int) (W : World) : Prop where
  at2 : Sits W w.heap.size 30 (vwC c)
  at3 : Sits W (w.heap.size + 1) 30 zero8
  low : Below w.heap.size w W
section
variable {w W W' : World} {c : Nat → Int}
theorem KnAt.put (h : KnAt w c W) (i : Nat) (x : Int) (hi : i < 8) : KnAt w (put1 c i x) (W.setCell ⟨w.heap.size, i, none⟩ (.int .i64 x)) :=
  ⟨by rw [← vwC_put c i x hi]; exact h.at2.put i _, h.at3.far (by simp) _, h.low.trans ⟨rfl, rfl, rfl, by simp [World.setCell], fun b hb => Below.heap_setCell _ _ _ _ (by simp; omega)⟩⟩
theorem KnAt.cell (h : KnAt w c W) (i : Nat) (hi : i < 8) : W.cell? ⟨w.heap.size, i, none⟩ = some (.int .i64 (c i)) := by rw [h.at2.cell]; exact vwC_at c i hi
theorem knAt_new (w : World) (a : Nat → Int) : KnAt w a ((w.alloc (.cells (vwC a) 30)).alloc (.cells zero8 30)) :=
  ⟨(Sits.new _ _ _).alloc _, Sits.made (by simp) _ _, below_more (below_more (Below.refl _ w) (Nat.le_refl _) _) (by simp) _⟩
end
def know1 (f : Nat → Int) (l : Nat) (tt : Int) : Nat → Int := if f (l + 4) < tt then put1 f (l + 4) tt else f
def knowsF (f : Nat → Int) (l : Nat) (tt : Int) (p : Bool) : Nat → Int := if p && decide (f l < tt) then put1 (know1 f l tt) l tt else know1 f l tt
theorem know1_l (f : Nat → Int) (l : Nat) (tt : Int) : know1 f l tt l = f l := by
  unfold know1 put1
  split
  · show (if l = l + 4 then tt else f l) = f l
    rw [if_neg (by omega)]
  · rfl
set_option maxRecDepth 100000 in
set_option maxHeartbeats 2000000 in
theorem knows_any (f : Nat → Int) (l : Nat) (hl : l < 4) (tt : Int) (p : Bool) (w : World) :
    Calls Try.prog 30 #[.agg (vwC f), .int .i64 (l : Nat), .int .i64 tt, .bool p] w (Made (.returned (.agg (vwC (knowsF f l tt p)))) w) := by
  have HB := Lib.hid (knAt_new w f)
  have HL := Lib.hid hl
  have i0 : (0 : Int) ≤ (l : Int) := by omega
  have i4 : (l : Int) < 4 := by omega
  have hE : Hid (know1 f l tt l = f l) := Lib.hid (know1_l f l tt)
  clear hl
  by_cases g1 : f (l + 4) < tt
  ·
    cases p
    ·
      have HX : Hid (knowsF f l tt false = put1 f (l + 4) tt) := Lib.hid (by unfold knowsF know1; simp [g1])
      go_enter Try.func30, Try.ntmps30
      go_upto_region 1 with (fail)
      generalize (w.alloc (.cells (vwC f) 30)).alloc (.cells zero8 30) = w0 at HB ⊢
      have c0 : w0.cell? ⟨w.heap.size, 4 + l, none⟩ = some (.int .i64 (f (l + 4))) := by rw [Nat.add_comm 4 l]; exact HB.out.cell (l + 4) (by have := HL.out; omega)
      have c1 := HB.out.at2.free (4 + l)
      have c2 : w0.cell? ⟨w.heap.size, l, none⟩ = some (.int .i64 (f l)) := HB.out.cell l (by have := HL.out; omega)
      have c3 := HB.out.at2.free l
      go_upto_region 3 with (fail)
      have H1 : Hid (KnAt w (put1 f (l + 4) tt) (w0.setCell ⟨w.heap.size, 4 + l, none⟩ (.int .i64 tt))) := Lib.hid (by
        have h := HB.out.put (l + 4) tt (by have := HL.out; omega)
        rwa [show (⟨w.heap.size, l + 4, none⟩ : Addr) = ⟨w.heap.size, 4 + l, none⟩ by rw [Nat.add_comm]] at h)
      generalize w0.setCell ⟨w.heap.size, 4 + l, none⟩ (.int .i64 tt) = W1 at H1 ⊢
      clear c0 c1 c2 c3 HB
      have c2 : W1.cell? ⟨w.heap.size, l, none⟩ = some (.int .i64 (f l)) := by
        rw [H1.out.cell l (by have := HL.out; omega)]; unfold put1; rw [if_neg (by omega)]
      have c3 := H1.out.at2.free l
      go_upto_region 5 with (fail)
      have s2 := H1.out.at2
      go_wp2_with (first | refine wpList_load_row rfl 30 _ rfl _ rfl _ (vwC (put1 f (l + 4) tt)) (0, 0) _ s2 Try.underlying30 rfl rvSize ?_ | refine wpList_store_row rfl 30 _ _ rfl (w.heap.size + 1) (vwC (put1 f (l + 4) tt)) rfl rfl 30 zero8 H1.out.at3 rvSize rfl (vwC_one _) ?_)
      have HE := Lib.hid (H1.out.low.trans (below_row (B := w.heap.size) (W := W1) (g := w.heap.size + 1) (cs := vwC (put1 f (l + 4) tt)) (by omega)))
      have HS : Hid (Sits (W1.setRow (w.heap.size + 1) (vwC (put1 f (l + 4) tt))) (w.heap.size + 1) 30 (vwC (put1 f (l + 4) tt))) := Lib.hid (setRow_heap _ _ _ _ _ _ H1.out.at3)
      generalize W1.setRow (w.heap.size + 1) (vwC (put1 f (l + 4) tt)) = W4 at HE HS ⊢
      clear s2
      go_wp2_with fail
      exact bodyPost_ret (v := .agg (vwC (put1 f (l + 4) tt))) (result_rv Try.results30 rfl HS.out) rfl ⟨by rw [HX.out], HE.out⟩
    ·
      by_cases g2 : f l < tt
      rotate_left
      ·
        have HX : Hid (knowsF f l tt true = put1 f (l + 4) tt) := Lib.hid (by unfold knowsF know1; simp [g1, g2])
        go_enter Try.func30, Try.ntmps30
        go_upto_region 1 with (fail)
        generalize (w.alloc (.cells (vwC f) 30)).alloc (.cells zero8 30) = w0 at HB ⊢
        have c0 : w0.cell? ⟨w.heap.size, 4 + l, none⟩ = some (.int .i64 (f (l + 4))) := by rw [Nat.add_comm 4 l]; exact HB.out.cell (l + 4) (by have := HL.out; omega)
        have c1 := HB.out.at2.free (4 + l)
        have c2 : w0.cell? ⟨w.heap.size, l, none⟩ = some (.int .i64 (f l)) := HB.out.cell l (by have := HL.out; omega)
        have c3 := HB.out.at2.free l
        go_upto_region 3 with (fail)
        have H1 : Hid (KnAt w (put1 f (l + 4) tt) (w0.setCell ⟨w.heap.size, 4 + l, none⟩ (.int .i64 tt))) := Lib.hid (by
          have h := HB.out.put (l + 4) tt (by have := HL.out; omega)
          rwa [show (⟨w.heap.size, l + 4, none⟩ : Addr) = ⟨w.heap.size, 4 + l, none⟩ by rw [Nat.add_comm]] at h)
        generalize w0.setCell ⟨w.heap.size, 4 + l, none⟩ (.int .i64 tt) = W1 at H1 ⊢
        clear c0 c1 c2 c3 HB
        have c2 : W1.cell? ⟨w.heap.size, l, none⟩ = some (.int .i64 (f l)) := by
          rw [H1.out.cell l (by have := HL.out; omega)]; unfold put1; rw [if_neg (by omega)]
        have c3 := H1.out.at2.free l
        go_upto_region 5 with (fail)
        have s2 := H1.out.at2
        go_wp2_with (first | refine wpList_load_row rfl 30 _ rfl _ rfl _ (vwC (put1 f (l + 4) tt)) (0, 0) _ s2 Try.underlying30 rfl rvSize ?_ | refine wpList_store_row rfl 30 _ _ rfl (w.heap.size + 1) (vwC (put1 f (l + 4) tt)) rfl rfl 30 zero8 H1.out.at3 rvSize rfl (vwC_one _) ?_)
        have HE := Lib.hid (H1.out.low.trans (below_row (B := w.heap.size) (W := W1) (g := w.heap.size + 1) (cs := vwC (put1 f (l + 4) tt)) (by omega)))
        have HS : Hid (Sits (W1.setRow (w.heap.size + 1) (vwC (put1 f (l + 4) tt))) (w.heap.size + 1) 30 (vwC (put1 f (l + 4) tt))) := Lib.hid (setRow_heap _ _ _ _ _ _ H1.out.at3)
        generalize W1.setRow (w.heap.size + 1) (vwC (put1 f (l + 4) tt)) = W4 at HE HS ⊢
        clear s2
        go_wp2_with fail
        exact bodyPost_ret (v := .agg (vwC (put1 f (l + 4) tt))) (result_rv Try.results30 rfl HS.out) rfl ⟨by rw [HX.out], HE.out⟩
      ·
        have HX : Hid (knowsF f l tt true = put1 (put1 f (l + 4) tt) l tt) := Lib.hid (by unfold knowsF know1; simp [g1, g2])
        go_enter Try.func30, Try.ntmps30
        go_upto_region 1 with (fail)
        generalize (w.alloc (.cells (vwC f) 30)).alloc (.cells zero8 30) = w0 at HB ⊢
        have c0 : w0.cell? ⟨w.heap.size, 4 + l, none⟩ = some (.int .i64 (f (l + 4))) := by rw [Nat.add_comm 4 l]; exact HB.out.cell (l + 4) (by have := HL.out; omega)
        have c1 := HB.out.at2.free (4 + l)
        have c2 : w0.cell? ⟨w.heap.size, l, none⟩ = some (.int .i64 (f l)) := HB.out.cell l (by have := HL.out; omega)
        have c3 := HB.out.at2.free l
        go_upto_region 3 with (fail)
        have H1 : Hid (KnAt w (put1 f (l + 4) tt) (w0.setCell ⟨w.heap.size, 4 + l, none⟩ (.int .i64 tt))) := Lib.hid (by
          have h := HB.out.put (l + 4) tt (by have := HL.out; omega)
          rwa [show (⟨w.heap.size, l + 4, none⟩ : Addr) = ⟨w.heap.size, 4 + l, none⟩ by rw [Nat.add_comm]] at h)
        generalize w0.setCell ⟨w.heap.size, 4 + l, none⟩ (.int .i64 tt) = W1 at H1 ⊢
        clear c0 c1 c2 c3 HB
        have c2 : W1.cell? ⟨w.heap.size, l, none⟩ = some (.int .i64 (f l)) := by
          rw [H1.out.cell l (by have := HL.out; omega)]; unfold put1; rw [if_neg (by omega)]
        have c3 := H1.out.at2.free l
        go_upto_region 4 with (fail)
        go_upto_region 5 with (fail)
        have H2 : Hid (KnAt w (put1 (put1 f (l + 4) tt) l tt) (W1.setCell ⟨w.heap.size, l, none⟩ (.int .i64 tt))) := Lib.hid (H1.out.put l tt (by have := HL.out; omega))
        generalize W1.setCell ⟨w.heap.size, l, none⟩ (.int .i64 tt) = W2 at H2 ⊢
        clear c2 c3 H1
        have s2 := H2.out.at2
        go_wp2_with (first | refine wpList_load_row rfl 30 _ rfl _ rfl _ (vwC (put1 (put1 f (l + 4) tt) l tt)) (0, 0) _ s2 Try.underlying30 rfl rvSize ?_ | refine wpList_store_row rfl 30 _ _ rfl (w.heap.size + 1) (vwC (put1 (put1 f (l + 4) tt) l tt)) rfl rfl 30 zero8 H2.out.at3 rvSize rfl (vwC_one _) ?_)
        have HE := Lib.hid (H2.out.low.trans (below_row (B := w.heap.size) (W := W2) (g := w.heap.size + 1) (cs := vwC (put1 (put1 f (l + 4) tt) l tt)) (by omega)))
        have HS : Hid (Sits (W2.setRow (w.heap.size + 1) (vwC (put1 (put1 f (l + 4) tt) l tt))) (w.heap.size + 1) 30 (vwC (put1 (put1 f (l + 4) tt) l tt))) := Lib.hid (setRow_heap _ _ _ _ _ _ H2.out.at3)
        generalize W2.setRow (w.heap.size + 1) (vwC (put1 (put1 f (l + 4) tt) l tt)) = W4 at HE HS ⊢
        clear s2
        go_wp2_with fail
        exact bodyPost_ret (v := .agg (vwC (put1 (put1 f (l + 4) tt) l tt))) (result_rv Try.results30 rfl HS.out) rfl ⟨by rw [HX.out], HE.out⟩
  ·
    cases p
    ·
      have HX : Hid (knowsF f l tt false = f) := Lib.hid (by unfold knowsF know1; simp [g1])
      go_enter Try.func30, Try.ntmps30
      go_upto_region 1 with (fail)
      generalize (w.alloc (.cells (vwC f) 30)).alloc (.cells zero8 30) = w0 at HB ⊢
      have c0 : w0.cell? ⟨w.heap.size, 4 + l, none⟩ = some (.int .i64 (f (l + 4))) := by rw [Nat.add_comm 4 l]; exact HB.out.cell (l + 4) (by have := HL.out; omega)
      have c1 := HB.out.at2.free (4 + l)
      have c2 : w0.cell? ⟨w.heap.size, l, none⟩ = some (.int .i64 (f l)) := HB.out.cell l (by have := HL.out; omega)
      have c3 := HB.out.at2.free l
      go_upto_region 5 with (fail)
      have s2 := HB.out.at2
      go_wp2_with (first | refine wpList_load_row rfl 30 _ rfl _ rfl _ (vwC (f)) (0, 0) _ s2 Try.underlying30 rfl rvSize ?_ | refine wpList_store_row rfl 30 _ _ rfl (w.heap.size + 1) (vwC (f)) rfl rfl 30 zero8 HB.out.at3 rvSize rfl (vwC_one _) ?_)
      have HE := Lib.hid (HB.out.low.trans (below_row (B := w.heap.size) (W := w0) (g := w.heap.size + 1) (cs := vwC (f)) (by omega)))
      have HS : Hid (Sits (w0.setRow (w.heap.size + 1) (vwC (f))) (w.heap.size + 1) 30 (vwC (f))) := Lib.hid (setRow_heap _ _ _ _ _ _ HB.out.at3)
      generalize w0.setRow (w.heap.size + 1) (vwC (f)) = W4 at HE HS ⊢
      clear s2
      go_wp2_with fail
      exact bodyPost_ret (v := .agg (vwC (f))) (result_rv Try.results30 rfl HS.out) rfl ⟨by rw [HX.out], HE.out⟩
    ·
      by_cases g2 : f l < tt
      rotate_left
      ·
        have HX : Hid (knowsF f l tt true = f) := Lib.hid (by unfold knowsF know1; simp [g1, g2])
        go_enter Try.func30, Try.ntmps30
        go_upto_region 1 with (fail)
        generalize (w.alloc (.cells (vwC f) 30)).alloc (.cells zero8 30) = w0 at HB ⊢
        have c0 : w0.cell? ⟨w.heap.size, 4 + l, none⟩ = some (.int .i64 (f (l + 4))) := by rw [Nat.add_comm 4 l]; exact HB.out.cell (l + 4) (by have := HL.out; omega)
        have c1 := HB.out.at2.free (4 + l)
        have c2 : w0.cell? ⟨w.heap.size, l, none⟩ = some (.int .i64 (f l)) := HB.out.cell l (by have := HL.out; omega)
        have c3 := HB.out.at2.free l
        go_upto_region 5 with (fail)
        have s2 := HB.out.at2
        go_wp2_with (first | refine wpList_load_row rfl 30 _ rfl _ rfl _ (vwC (f)) (0, 0) _ s2 Try.underlying30 rfl rvSize ?_ | refine wpList_store_row rfl 30 _ _ rfl (w.heap.size + 1) (vwC (f)) rfl rfl 30 zero8 HB.out.at3 rvSize rfl (vwC_one _) ?_)
        have HE := Lib.hid (HB.out.low.trans (below_row (B := w.heap.size) (W := w0) (g := w.heap.size + 1) (cs := vwC (f)) (by omega)))
        have HS : Hid (Sits (w0.setRow (w.heap.size + 1) (vwC (f))) (w.heap.size + 1) 30 (vwC (f))) := Lib.hid (setRow_heap _ _ _ _ _ _ HB.out.at3)
        generalize w0.setRow (w.heap.size + 1) (vwC (f)) = W4 at HE HS ⊢
        clear s2
        go_wp2_with fail
        exact bodyPost_ret (v := .agg (vwC (f))) (result_rv Try.results30 rfl HS.out) rfl ⟨by rw [HX.out], HE.out⟩
      ·
        have HX : Hid (knowsF f l tt true = put1 (f) l tt) := Lib.hid (by unfold knowsF know1; simp [g1, g2])
        go_enter Try.func30, Try.ntmps30
        go_upto_region 1 with (fail)
        generalize (w.alloc (.cells (vwC f) 30)).alloc (.cells zero8 30) = w0 at HB ⊢
        have c0 : w0.cell? ⟨w.heap.size, 4 + l, none⟩ = some (.int .i64 (f (l + 4))) := by rw [Nat.add_comm 4 l]; exact HB.out.cell (l + 4) (by have := HL.out; omega)
        have c1 := HB.out.at2.free (4 + l)
        have c2 : w0.cell? ⟨w.heap.size, l, none⟩ = some (.int .i64 (f l)) := HB.out.cell l (by have := HL.out; omega)
        have c3 := HB.out.at2.free l
        go_upto_region 4 with (fail)
        go_upto_region 5 with (fail)
        have H2 : Hid (KnAt w (put1 (f) l tt) (w0.setCell ⟨w.heap.size, l, none⟩ (.int .i64 tt))) := Lib.hid (HB.out.put l tt (by have := HL.out; omega))
        generalize w0.setCell ⟨w.heap.size, l, none⟩ (.int .i64 tt) = W2 at H2 ⊢
        clear c2 c3 HB
        have s2 := H2.out.at2
        go_wp2_with (first | refine wpList_load_row rfl 30 _ rfl _ rfl _ (vwC (put1 (f) l tt)) (0, 0) _ s2 Try.underlying30 rfl rvSize ?_ | refine wpList_store_row rfl 30 _ _ rfl (w.heap.size + 1) (vwC (put1 (f) l tt)) rfl rfl 30 zero8 H2.out.at3 rvSize rfl (vwC_one _) ?_)
        have HE := Lib.hid (H2.out.low.trans (below_row (B := w.heap.size) (W := W2) (g := w.heap.size + 1) (cs := vwC (put1 (f) l tt)) (by omega)))
        have HS : Hid (Sits (W2.setRow (w.heap.size + 1) (vwC (put1 (f) l tt))) (w.heap.size + 1) 30 (vwC (put1 (f) l tt))) := Lib.hid (setRow_heap _ _ _ _ _ _ H2.out.at3)
        generalize W2.setRow (w.heap.size + 1) (vwC (put1 (f) l tt)) = W4 at HE HS ⊢
        clear s2
        go_wp2_with fail
        exact bodyPost_ret (v := .agg (vwC (put1 (f) l tt))) (result_rv Try.results30 rfl HS.out) rfl ⟨by rw [HX.out], HE.out⟩
set_option maxRecDepth 100000 in
theorem view_any (f : Nat → Int) (w : World) : Calls Try.prog 9 #[.agg (vwC f)] w (Made (.returned (.agg (vwC f))) w) := by
  have H1 : Hid (Sits ((w.alloc (.cells (vwC f) 30)).alloc (.cells zero8 26)) w.heap.size 30 (vwC f)) := Lib.hid ((Sits.new _ _ _).alloc _)
  have H2 : Hid (Sits ((w.alloc (.cells (vwC f) 30)).alloc (.cells zero8 26)) (w.heap.size + 1) 26 zero8) := Lib.hid (Sits.made (by simp) _ _)
  have H3 : Hid (Below w.heap.size w ((w.alloc (.cells (vwC f) 30)).alloc (.cells zero8 26))) := Lib.hid (below_more (below_more (Below.refl _ w) (Nat.le_refl _) _) (by simp) _)
  go_enter Try.func9, Try.ntmps9
  go_upto_region 1 with (fail)
  generalize (w.alloc (.cells (vwC f) 30)).alloc (.cells zero8 26) = w0 at H1 H2 H3 ⊢
  have c0 : w0.cell? ⟨w.heap.size, 0, none⟩ = some (.int .i64 (f 0)) := H1.out.cell 0
  have c1 : w0.cell? ⟨w.heap.size, 1, none⟩ = some (.int .i64 (f 1)) := H1.out.cell 1
  have c2 : w0.cell? ⟨w.heap.size, 2, none⟩ = some (.int .i64 (f 2)) := H1.out.cell 2
  have c3 : w0.cell? ⟨w.heap.size, 3, none⟩ = some (.int .i64 (f 3)) := H1.out.cell 3
  have c4 : w0.cell? ⟨w.heap.size, 4, none⟩ = some (.int .i64 (f 4)) := H1.out.cell 4
  have c5 : w0.cell? ⟨w.heap.size, 5, none⟩ = some (.int .i64 (f 5)) := H1.out.cell 5
  have c6 : w0.cell? ⟨w.heap.size, 6, none⟩ = some (.int .i64 (f 6)) := H1.out.cell 6
  have c7 : w0.cell? ⟨w.heap.size, 7, none⟩ = some (.int .i64 (f 7)) := H1.out.cell 7
  go_wp2_with (refine wpList_store_row rfl 26 _ _ rfl (w.heap.size + 1) (vwC f) rfl rfl 26 zero8 H2.out vewSize rfl (vwC_one _) ?_)
  have HE := Lib.hid (H3.out.trans (below_row (B := w.heap.size) (W := w0) (g := w.heap.size + 1) (cs := vwC f) (by omega)))
  have HS : Hid (Sits (w0.setRow (w.heap.size + 1) (vwC f)) (w.heap.size + 1) 26 (vwC f)) := Lib.hid (setRow_heap _ _ _ _ _ _ H2.out)
  generalize w0.setRow (w.heap.size + 1) (vwC f) = W4 at HE HS ⊢
  clear c0 c1 c2 c3 c4 c5 c6 c7
  go_wp2_with fail
  exact bodyPost_ret (v := .agg (vwC f)) (result_v Try.results9 rfl HS.out) rfl ⟨rfl, HE.out⟩

structure OfAt (w : World) (V : Nat → Nat → Int) (r : Array Value) (W : World) : Prop where
  at1 : Sits W w.heap.size 33 (vsC V)
  at2 : Sits W (w.heap.size + 1) 29 r
  low : Below w.heap.size w W
  grow : w.heap.size + 2 ≤ W.heap.size
structure OfBx (w : World) (V : Nat → Nat → Int) (r : Array Value) (g3 : Nat) (U : Nat → Nat → Int) (W : World) : Prop where
  at' : OfAt w V r W
  bx : Sits W g3 29 (vsC U)
  ge : w.heap.size + 2 ≤ g3
section
variable {w W W' : World} {V U : Nat → Nat → Int} {r : Array Value} {g3 : Nat}
theorem OfAt.grown (h : OfAt w V r W) (hb : Below W.heap.size W W') : OfAt w V r W' := ⟨h.at1.below hb h.at1.lt, h.at2.below hb h.at2.lt, h.low.trans (hb.mono h.low.size), by have := h.grow; have := hb.size; omega⟩
theorem OfBx.grown (h : OfBx w V r g3 U W) (hb : Below W.heap.size W W') : OfBx w V r g3 U W' := ⟨h.at'.grown hb, h.bx.below hb h.bx.lt, h.ge⟩
theorem OfAt.row (h : OfAt w V r W) (g : Nat) (hg : w.heap.size + 2 ≤ g) (u : Array Value) : OfAt w V r (W.setRow g u) :=
  ⟨(setRow_other _ _ _ _ (by omega)).trans h.at1, (setRow_other _ _ _ _ (by omega)).trans h.at2, h.low.trans (below_row (by omega)), by simpa [World.setRow] using h.grow⟩
theorem OfBx.setK (h : OfBx w V r g3 U W) (k o : Nat) (f : Nat → Int) (ho : o = 8 * k) : OfBx w V r g3 (setV U k f) (W.setCells g3 o (vwC f).toList) := by
  have g := h.ge
  exact ⟨⟨(setCells_other _ _ _ _ _ (by omega)).trans h.at'.at1, (setCells_other _ _ _ _ _ (by omega)).trans h.at'.at2, h.at'.low.trans (below_cells (by omega)), by rw [setCells_size]; exact h.at'.grow⟩, vs_set h.bx k o f ho, g⟩
theorem ofAt_new (w : World) (V : Nat → Nat → Int) : OfAt w V zero48 ((w.alloc (.cells (vsC V) 33)).alloc (.cells zero48 29)) :=
  ⟨(Sits.new _ _ _).alloc _, Sits.made (by simp) _ _, below_more (below_more (Below.refl _ w) (Nat.le_refl _) _) (by simp) _, by simp⟩
end
def ofK (V : Nat → Nat → Int) : Nat → Nat → Nat → Int
  | 0 => setV (setV (fun _ _ => 0) 0 (V 0)) 1 (V 1)
  | k + 1 => setV (ofK V k) (k + 2) (V (k + 2))
theorem ofK_4 (V : Nat → Nat → Int) : vsC (ofK V 4) = vsC V := vsC_congr fun j m hj _ => by
  simp only [ofK, setV]
  rcases (by omega : j = 0 ∨ j = 1 ∨ j = 2 ∨ j = 3 ∨ j = 4 ∨ j = 5) with rfl | rfl | rfl | rfl | rfl | rfl <;> simp
theorem of_built (V : Nat → Nat → Int) : Try.prog.built 29 [(0, .agg (vwC (V 0))), (1, .agg (vwC (V 1)))] = some (vsC (ofK V 0)) := by kernel_rfl
theorem y_build2 {o : Oper} {A : Act} {W : World} {t : TypeId} {i j k l : Nat} {u v : Value} {cs : Array Value} (ho : o.op = .build t #[(i, .tmp k), (j, .tmp l)]) (hk : A.tmps[k]?.getD undef = u) (hl : A.tmps[l]?.getD undef = v) (hb : Try.prog.built t [(i, u), (j, v)] = some cs) :
    Flow.Yields Try.prog (fun u w' => u = .agg cs ∧ Below W.heap.size W w') ((execOp A.eval o).run Try.prog W) := by
  unfold execOp
  simp only [ho, Sem.run_bind]
  rw [run_build W t _ cs (by simpa [Act.eval, hk, hl] using hb)]
  exact ⟨rfl, Below.refl _ _⟩
set_option maxRecDepth 100000 in
set_option maxHeartbeats 4000000 in
theorem of_any (V : Nat → Nat → Int) (w : World) : Calls Try.prog 13 #[.agg (vsC V)] w (Made (.returned (.agg (vsC V))) w) := by
  have HB := Lib.hid (ofAt_new w V)
  go_enter Try.func13, Try.ntmps13
  go_upto_region 1 with (fail)
  generalize (w.alloc (.cells (vsC V) 33)).alloc (.cells zero48 29) = w0 at HB ⊢
  refine wp_flowG [5, 6, 7, 8, 9, 10, 11, 3] [eqV (.pointer (some ⟨w.heap.size, 0, none⟩)), eqV (.agg (vwC (V 0))), eqV (.agg (vwC (V 0))), eqV (.pointer (some ⟨w.heap.size, 8, none⟩)), eqV (.agg (vwC (V 1))), eqV (.agg (vwC (V 1))), eqV (.agg (vsC (ofK V 0))), boxV w0.heap.size 29 zero48] (by kernel_rfl) (by kernel_rfl) (by kernel_rfl) (by kernel_rfl) (by rfl)
    (by simp only [List.mem_cons, List.not_mem_nil, or_false, forall_eq_or_imp, forall_eq]; refine ⟨?_, ?_, ?_, ?_, ?_, ?_, ?_, ?_⟩ <;> (first | exact eqV_mono _ | exact rowV_mono _ _ _ | exact boxV_mono _ _ _)) ?_ ?_
  · intro i o hi ho A W hW hk he
    simp only [List.length_cons, List.length_nil, Nat.zero_add, Nat.reduceAdd] at hi
    obtain rfl | rfl | rfl | rfl | rfl | rfl | rfl | rfl : i = 0 ∨ i = 1 ∨ i = 2 ∨ i = 3 ∨ i = 4 ∨ i = 5 ∨ i = 6 ∨ i = 7 := by omega
    · injection ho with ho; subst ho
      refine .inl ⟨wanted_free rfl, ?_⟩
      have h1 : A.tmps[1]?.getD undef = .pointer (some ⟨w.heap.size, 0, none⟩) := hk 1 (by rfl)
      go_simp
      exact ⟨rfl, Below.refl _ _⟩
    · injection ho with ho; subst ho
      refine .inl ⟨wanted_free rfl, ?_⟩
      have h5 : A.tmps[5]?.getD undef = .pointer (some ⟨w.heap.size, 0, none⟩) := he 0 (by kernel_rfl)
      exact y_load (cs := vwC (V 0)) rfl h5 (vs_range (V := V) ((HB.out.grown hW).at1) (0) _ (by omega) rfl) Try.underlying30 rfl rvSize
    · injection ho with ho; subst ho
      refine .inl ⟨wanted_free rfl, ?_⟩
      have h6 : A.tmps[6]?.getD undef = .agg (vwC (V 0)) := he 1 (by kernel_rfl)
      go_simp
      refine Calls.mono (view_any (V 0) W) ?_
      rintro e' w' ⟨rfl, hb⟩
      exact ⟨_, rfl, rfl, hb⟩
    · injection ho with ho; subst ho
      refine .inl ⟨wanted_free rfl, ?_⟩
      have h1 : A.tmps[1]?.getD undef = .pointer (some ⟨w.heap.size, 0, none⟩) := hk 1 (by rfl)
      go_simp
      exact ⟨rfl, Below.refl _ _⟩
    · injection ho with ho; subst ho
      refine .inl ⟨wanted_free rfl, ?_⟩
      have h8 : A.tmps[8]?.getD undef = .pointer (some ⟨w.heap.size, 8, none⟩) := he 3 (by kernel_rfl)
      exact y_load (cs := vwC (V 1)) rfl h8 (vs_range (V := V) ((HB.out.grown hW).at1) (1) _ (by omega) rfl) Try.underlying30 rfl rvSize
    · injection ho with ho; subst ho
      refine .inl ⟨wanted_free rfl, ?_⟩
      have h9 : A.tmps[9]?.getD undef = .agg (vwC (V 1)) := he 4 (by kernel_rfl)
      go_simp
      refine Calls.mono (view_any (V 1) W) ?_
      rintro e' w' ⟨rfl, hb⟩
      exact ⟨_, rfl, rfl, hb⟩
    · injection ho with ho; subst ho
      refine .inl ⟨wanted_free rfl, ?_⟩
      have h7 : A.tmps[7]?.getD undef = .agg (vwC (V 0)) := he 2 (by kernel_rfl)
      have h10 : A.tmps[10]?.getD undef = .agg (vwC (V 1)) := he 5 (by kernel_rfl)
      exact y_build2 rfl h7 h10 (of_built V)
    · injection ho with ho; subst ho
      refine .inl ⟨wanted_free rfl, ?_⟩
      go_simp
      exact ⟨⟨_, hW.size, Sits.new _ _ _, rfl⟩, (Below.refl _ _).alloc (Nat.le_refl _) _⟩
  · intro xs W hW hV
    obtain ⟨gx3, hB3, hs3, e3⟩ : boxV w0.heap.size 29 zero48 (xs 7) W := hV 7 (by simp)
    have e11 : xs 6 = .agg (vsC (ofK V 0)) := hV 6 (by simp)
    simp only [List.length_cons, List.length_nil, Nat.zero_add, Nat.reduceAdd, List.drop_succ_cons, List.drop_zero, putL, Act.put, List.setIfInBounds_toArray, List.set_cons_zero, List.set_cons_succ, e3, e11]
    clear hV e3 e11
    refine wpList_store_row rfl 29 _ _ rfl gx3 (vsC (ofK V 0)) rfl rfl 29 zero48 hs3 (by rw [vsC_size]; exact vsSize) (zero48_size.trans (vsC_size _).symm) (vsC_one _) ?_
    have HX0 : Hid (OfBx w V zero48 gx3 (ofK V 0) (W.setRow gx3 (vsC (ofK V 0)))) := Lib.hid ⟨(HB.out.grown hW).row gx3 (Nat.le_trans HB.out.grow hB3) _, setRow_heap _ _ _ _ _ _ hs3, Nat.le_trans HB.out.grow hB3⟩
    generalize W.setRow gx3 (vsC (ofK V 0)) = W0 at HX0 ⊢
    clear hW hs3 hB3 HB
    go_wp2_with fail
    refine wp_loop_rounds 5 ?_
    simp only [Code.rounds]
    go_upto_region 5 with (fail)
    refine wp_flowS1 [some 16, some 17, some 18, some 19, some 20, some 21, some 22, some 23, none] [8] [0, 0, 0, 0, 0, 0, 0, 0, 0] [eqV (.int .i64 (0)), eqV (.int .i64 (0)), eqV (.pointer (some ⟨w.heap.size, 16, none⟩)), eqV (.pointer (some ⟨w.heap.size, 16, none⟩)), eqV (.agg (vwC (V 2))), eqV (.agg (vwC (V 2))), eqV (.pointer (some ⟨gx3, 16, none⟩)), eqV (.pointer (some ⟨gx3, 16, none⟩)), fun _ _ => True] (fun j W => match j with | 0 => OfBx w V zero48 gx3 (ofK V 0) W | _ => OfBx w V zero48 gx3 (ofK V 1) W) (by kernel_rfl) (by kernel_rfl) (by kernel_rfl) (by rfl)
      (by simp only [List.mem_cons, List.not_mem_nil, or_false, forall_eq_or_imp, forall_eq]; refine ⟨?_, ?_, ?_, ?_, ?_, ?_, ?_, ?_, ?_⟩ <;> (first | exact eqV_monoB _ _ | exact rowB_mono _ _ _ _ | exact true_monoB _))
      (fun j W W' h hb => by rcases j with _ | j <;> first | exact (OfBx.grown h hb)) (HX0.out) ?_ ?_ ?_
    · intro i o hi ho hc j A W hj hz hMj hk he
      simp only [List.length_cons, List.length_nil, Nat.zero_add, Nat.reduceAdd] at hi
      obtain rfl | rfl | rfl | rfl | rfl | rfl | rfl | rfl | rfl : i = 0 ∨ i = 1 ∨ i = 2 ∨ i = 3 ∨ i = 4 ∨ i = 5 ∨ i = 6 ∨ i = 7 ∨ i = 8 := by omega
      · injection ho with ho; subst ho
        refine .inl ⟨wanted_free rfl, ?_⟩
        have h4 : A.tmps[4]?.getD undef = .int .i64 (0) := hk 4 (by rfl)
        go_simp
        exact ⟨rfl, Below.refl _ _⟩
      · injection ho with ho; subst ho
        refine .inl ⟨wanted_free rfl, ?_⟩
        have h4 : A.tmps[4]?.getD undef = .int .i64 (0) := hk 4 (by rfl)
        go_simp
        exact ⟨rfl, Below.refl _ _⟩
      · injection ho with ho; subst ho
        refine .inl ⟨wanted_free rfl, ?_⟩
        have h1 : A.tmps[1]?.getD undef = .pointer (some ⟨w.heap.size, 0, none⟩) := hk 1 (by rfl)
        go_simp
        exact ⟨rfl, Below.refl _ _⟩
      · injection ho with ho; subst ho
        refine .inl ⟨wanted_free rfl, ?_⟩
        have h18 : A.tmps[18]?.getD undef = .pointer (some ⟨w.heap.size, 16, none⟩) := he 2 (by kernel_rfl) (by rfl)
        have h17 : A.tmps[17]?.getD undef = .int .i64 (0) := he 1 (by kernel_rfl) (by rfl)
        go_simp
        exact ⟨rfl, Below.refl _ _⟩
      · obtain rfl : j = 0 := hj
        have hMs : OfBx w V zero48 gx3 (ofK V 0) W := hMj
        injection ho with ho; subst ho
        refine .inl ⟨wanted_free rfl, ?_⟩
        have h19 : A.tmps[19]?.getD undef = .pointer (some ⟨w.heap.size, 16, none⟩) := he 3 (by kernel_rfl) (by rfl)
        exact y_load (cs := vwC (V 2)) rfl h19 (vs_range (V := V) (hMs.at'.at1) (2) _ (by omega) rfl) Try.underlying30 rfl rvSize
      · obtain rfl : j = 0 := hj
        have hMs : OfBx w V zero48 gx3 (ofK V 0) W := hMj
        injection ho with ho; subst ho
        refine .inl ⟨wanted_free rfl, ?_⟩
        have h20 : A.tmps[20]?.getD undef = .agg (vwC (V 2)) := he 4 (by kernel_rfl) (by rfl)
        go_simp
        refine Calls.mono (view_any (V 2) W) ?_
        rintro e' w' ⟨rfl, hb⟩
        exact ⟨_, rfl, rfl, hb⟩
      · injection ho with ho; subst ho
        refine .inl ⟨wanted_free rfl, ?_⟩
        have h3 : A.tmps[3]?.getD undef = .pointer (some ⟨gx3, 0, none⟩) := hk 3 (by rfl)
        go_simp
        exact ⟨rfl, Below.refl _ _⟩
      · injection ho with ho; subst ho
        refine .inl ⟨wanted_free rfl, ?_⟩
        have h22 : A.tmps[22]?.getD undef = .pointer (some ⟨gx3, 16, none⟩) := he 6 (by kernel_rfl) (by rfl)
        have h16 : A.tmps[16]?.getD undef = .int .i64 (0) := he 0 (by kernel_rfl) (by rfl)
        go_simp
        exact ⟨rfl, Below.refl _ _⟩
      · exact absurd hc (by decide)
    · intro j i o hji ho A W hz hMj hk he
      rcases j with _ | j
      · obtain rfl : 8 = i := Option.some.inj hji
        injection ho with ho; subst ho
        refine .inl ⟨wanted_free rfl, ?_⟩
        have hMs : OfBx w V zero48 gx3 (ofK V 0) W := hMj
        have h23 : A.tmps[23]?.getD undef = .pointer (some ⟨gx3, 16, none⟩) := he 7 (by kernel_rfl) (by rfl)
        have h21 : A.tmps[21]?.getD undef = .agg (vwC (V 2)) := he 5 (by kernel_rfl) (by rfl)
        exact y_storeK rfl h23 h21 hMs.bx (k := 2) (by omega) rfl vewSize HX0.out.bx.lt (fun _ _ => trivial) (hMs.setK 2 _ _ rfl)
      · simp at hji
    · intro xs W hz hMe hV
      have hMe : OfBx w V zero48 gx3 (ofK V 1) W := hMe
      simp only [putM, Act.put, List.setIfInBounds_toArray, List.set_cons_zero, List.set_cons_succ, Nat.zero_add, Nat.reduceAdd]
      clear hV
      generalize W = W1 at hMe ⊢
      have HX1 := Lib.hid hMe
      clear hMe hz HX0
      go_upto_region 5 with (fail)
      refine wp_flowS1 [some 16, some 17, some 18, some 19, some 20, some 21, some 22, some 23, none] [8] [0, 0, 0, 0, 0, 0, 0, 0, 0] [eqV (.int .i64 (1)), eqV (.int .i64 (1)), eqV (.pointer (some ⟨w.heap.size, 16, none⟩)), eqV (.pointer (some ⟨w.heap.size, 24, none⟩)), eqV (.agg (vwC (V 3))), eqV (.agg (vwC (V 3))), eqV (.pointer (some ⟨gx3, 16, none⟩)), eqV (.pointer (some ⟨gx3, 24, none⟩)), fun _ _ => True] (fun j W => match j with | 0 => OfBx w V zero48 gx3 (ofK V 1) W | _ => OfBx w V zero48 gx3 (ofK V 2) W) (by kernel_rfl) (by kernel_rfl) (by kernel_rfl) (by rfl)
        (by simp only [List.mem_cons, List.not_mem_nil, or_false, forall_eq_or_imp, forall_eq]; refine ⟨?_, ?_, ?_, ?_, ?_, ?_, ?_, ?_, ?_⟩ <;> (first | exact eqV_monoB _ _ | exact rowB_mono _ _ _ _ | exact true_monoB _))
        (fun j W W' h hb => by rcases j with _ | j <;> first | exact (OfBx.grown h hb)) (HX1.out) ?_ ?_ ?_
      · intro i o hi ho hc j A W hj hz hMj hk he
        simp only [List.length_cons, List.length_nil, Nat.zero_add, Nat.reduceAdd] at hi
        obtain rfl | rfl | rfl | rfl | rfl | rfl | rfl | rfl | rfl : i = 0 ∨ i = 1 ∨ i = 2 ∨ i = 3 ∨ i = 4 ∨ i = 5 ∨ i = 6 ∨ i = 7 ∨ i = 8 := by omega
        · injection ho with ho; subst ho
          refine .inl ⟨wanted_free rfl, ?_⟩
          have h4 : A.tmps[4]?.getD undef = .int .i64 (1) := hk 4 (by rfl)
          go_simp
          exact ⟨rfl, Below.refl _ _⟩
        · injection ho with ho; subst ho
          refine .inl ⟨wanted_free rfl, ?_⟩
          have h4 : A.tmps[4]?.getD undef = .int .i64 (1) := hk 4 (by rfl)
          go_simp
          exact ⟨rfl, Below.refl _ _⟩
        · injection ho with ho; subst ho
          refine .inl ⟨wanted_free rfl, ?_⟩
          have h1 : A.tmps[1]?.getD undef = .pointer (some ⟨w.heap.size, 0, none⟩) := hk 1 (by rfl)
          go_simp
          exact ⟨rfl, Below.refl _ _⟩
        · injection ho with ho; subst ho
          refine .inl ⟨wanted_free rfl, ?_⟩
          have h18 : A.tmps[18]?.getD undef = .pointer (some ⟨w.heap.size, 16, none⟩) := he 2 (by kernel_rfl) (by rfl)
          have h17 : A.tmps[17]?.getD undef = .int .i64 (1) := he 1 (by kernel_rfl) (by rfl)
          go_simp
          exact ⟨rfl, Below.refl _ _⟩
        · obtain rfl : j = 0 := hj
          have hMs : OfBx w V zero48 gx3 (ofK V 1) W := hMj
          injection ho with ho; subst ho
          refine .inl ⟨wanted_free rfl, ?_⟩
          have h19 : A.tmps[19]?.getD undef = .pointer (some ⟨w.heap.size, 24, none⟩) := he 3 (by kernel_rfl) (by rfl)
          exact y_load (cs := vwC (V 3)) rfl h19 (vs_range (V := V) (hMs.at'.at1) (3) _ (by omega) rfl) Try.underlying30 rfl rvSize
        · obtain rfl : j = 0 := hj
          have hMs : OfBx w V zero48 gx3 (ofK V 1) W := hMj
          injection ho with ho; subst ho
          refine .inl ⟨wanted_free rfl, ?_⟩
          have h20 : A.tmps[20]?.getD undef = .agg (vwC (V 3)) := he 4 (by kernel_rfl) (by rfl)
          go_simp
          refine Calls.mono (view_any (V 3) W) ?_
          rintro e' w' ⟨rfl, hb⟩
          exact ⟨_, rfl, rfl, hb⟩
        · injection ho with ho; subst ho
          refine .inl ⟨wanted_free rfl, ?_⟩
          have h3 : A.tmps[3]?.getD undef = .pointer (some ⟨gx3, 0, none⟩) := hk 3 (by rfl)
          go_simp
          exact ⟨rfl, Below.refl _ _⟩
        · injection ho with ho; subst ho
          refine .inl ⟨wanted_free rfl, ?_⟩
          have h22 : A.tmps[22]?.getD undef = .pointer (some ⟨gx3, 16, none⟩) := he 6 (by kernel_rfl) (by rfl)
          have h16 : A.tmps[16]?.getD undef = .int .i64 (1) := he 0 (by kernel_rfl) (by rfl)
          go_simp
          exact ⟨rfl, Below.refl _ _⟩
        · exact absurd hc (by decide)
      · intro j i o hji ho A W hz hMj hk he
        rcases j with _ | j
        · obtain rfl : 8 = i := Option.some.inj hji
          injection ho with ho; subst ho
          refine .inl ⟨wanted_free rfl, ?_⟩
          have hMs : OfBx w V zero48 gx3 (ofK V 1) W := hMj
          have h23 : A.tmps[23]?.getD undef = .pointer (some ⟨gx3, 24, none⟩) := he 7 (by kernel_rfl) (by rfl)
          have h21 : A.tmps[21]?.getD undef = .agg (vwC (V 3)) := he 5 (by kernel_rfl) (by rfl)
          exact y_storeK rfl h23 h21 hMs.bx (k := 3) (by omega) rfl vewSize HX1.out.bx.lt (fun _ _ => trivial) (hMs.setK 3 _ _ rfl)
        · simp at hji
      · intro xs W hz hMe hV
        have hMe : OfBx w V zero48 gx3 (ofK V 2) W := hMe
        simp only [putM, Act.put, List.setIfInBounds_toArray, List.set_cons_zero, List.set_cons_succ, Nat.zero_add, Nat.reduceAdd]
        clear hV
        generalize W = W2 at hMe ⊢
        have HX2 := Lib.hid hMe
        clear hMe hz HX1
        go_upto_region 5 with (fail)
        refine wp_flowS1 [some 16, some 17, some 18, some 19, some 20, some 21, some 22, some 23, none] [8] [0, 0, 0, 0, 0, 0, 0, 0, 0] [eqV (.int .i64 (2)), eqV (.int .i64 (2)), eqV (.pointer (some ⟨w.heap.size, 16, none⟩)), eqV (.pointer (some ⟨w.heap.size, 32, none⟩)), eqV (.agg (vwC (V 4))), eqV (.agg (vwC (V 4))), eqV (.pointer (some ⟨gx3, 16, none⟩)), eqV (.pointer (some ⟨gx3, 32, none⟩)), fun _ _ => True] (fun j W => match j with | 0 => OfBx w V zero48 gx3 (ofK V 2) W | _ => OfBx w V zero48 gx3 (ofK V 3) W) (by kernel_rfl) (by kernel_rfl) (by kernel_rfl) (by rfl)
          (by simp only [List.mem_cons, List.not_mem_nil, or_false, forall_eq_or_imp, forall_eq]; refine ⟨?_, ?_, ?_, ?_, ?_, ?_, ?_, ?_, ?_⟩ <;> (first | exact eqV_monoB _ _ | exact rowB_mono _ _ _ _ | exact true_monoB _))
          (fun j W W' h hb => by rcases j with _ | j <;> first | exact (OfBx.grown h hb)) (HX2.out) ?_ ?_ ?_
        · intro i o hi ho hc j A W hj hz hMj hk he
          simp only [List.length_cons, List.length_nil, Nat.zero_add, Nat.reduceAdd] at hi
          obtain rfl | rfl | rfl | rfl | rfl | rfl | rfl | rfl | rfl : i = 0 ∨ i = 1 ∨ i = 2 ∨ i = 3 ∨ i = 4 ∨ i = 5 ∨ i = 6 ∨ i = 7 ∨ i = 8 := by omega
          · injection ho with ho; subst ho
            refine .inl ⟨wanted_free rfl, ?_⟩
            have h4 : A.tmps[4]?.getD undef = .int .i64 (2) := hk 4 (by rfl)
            go_simp
            exact ⟨rfl, Below.refl _ _⟩
          · injection ho with ho; subst ho
            refine .inl ⟨wanted_free rfl, ?_⟩
            have h4 : A.tmps[4]?.getD undef = .int .i64 (2) := hk 4 (by rfl)
            go_simp
            exact ⟨rfl, Below.refl _ _⟩
          · injection ho with ho; subst ho
            refine .inl ⟨wanted_free rfl, ?_⟩
            have h1 : A.tmps[1]?.getD undef = .pointer (some ⟨w.heap.size, 0, none⟩) := hk 1 (by rfl)
            go_simp
            exact ⟨rfl, Below.refl _ _⟩
          · injection ho with ho; subst ho
            refine .inl ⟨wanted_free rfl, ?_⟩
            have h18 : A.tmps[18]?.getD undef = .pointer (some ⟨w.heap.size, 16, none⟩) := he 2 (by kernel_rfl) (by rfl)
            have h17 : A.tmps[17]?.getD undef = .int .i64 (2) := he 1 (by kernel_rfl) (by rfl)
            go_simp
            exact ⟨rfl, Below.refl _ _⟩
          · obtain rfl : j = 0 := hj
            have hMs : OfBx w V zero48 gx3 (ofK V 2) W := hMj
            injection ho with ho; subst ho
            refine .inl ⟨wanted_free rfl, ?_⟩
            have h19 : A.tmps[19]?.getD undef = .pointer (some ⟨w.heap.size, 32, none⟩) := he 3 (by kernel_rfl) (by rfl)
            exact y_load (cs := vwC (V 4)) rfl h19 (vs_range (V := V) (hMs.at'.at1) (4) _ (by omega) rfl) Try.underlying30 rfl rvSize
          · obtain rfl : j = 0 := hj
            have hMs : OfBx w V zero48 gx3 (ofK V 2) W := hMj
            injection ho with ho; subst ho
            refine .inl ⟨wanted_free rfl, ?_⟩
            have h20 : A.tmps[20]?.getD undef = .agg (vwC (V 4)) := he 4 (by kernel_rfl) (by rfl)
            go_simp
            refine Calls.mono (view_any (V 4) W) ?_
            rintro e' w' ⟨rfl, hb⟩
            exact ⟨_, rfl, rfl, hb⟩
          · injection ho with ho; subst ho
            refine .inl ⟨wanted_free rfl, ?_⟩
            have h3 : A.tmps[3]?.getD undef = .pointer (some ⟨gx3, 0, none⟩) := hk 3 (by rfl)
            go_simp
            exact ⟨rfl, Below.refl _ _⟩
          · injection ho with ho; subst ho
            refine .inl ⟨wanted_free rfl, ?_⟩
            have h22 : A.tmps[22]?.getD undef = .pointer (some ⟨gx3, 16, none⟩) := he 6 (by kernel_rfl) (by rfl)
            have h16 : A.tmps[16]?.getD undef = .int .i64 (2) := he 0 (by kernel_rfl) (by rfl)
            go_simp
            exact ⟨rfl, Below.refl _ _⟩
          · exact absurd hc (by decide)
        · intro j i o hji ho A W hz hMj hk he
          rcases j with _ | j
          · obtain rfl : 8 = i := Option.some.inj hji
            injection ho with ho; subst ho
            refine .inl ⟨wanted_free rfl, ?_⟩
            have hMs : OfBx w V zero48 gx3 (ofK V 2) W := hMj
            have h23 : A.tmps[23]?.getD undef = .pointer (some ⟨gx3, 32, none⟩) := he 7 (by kernel_rfl) (by rfl)
            have h21 : A.tmps[21]?.getD undef = .agg (vwC (V 4)) := he 5 (by kernel_rfl) (by rfl)
            exact y_storeK rfl h23 h21 hMs.bx (k := 4) (by omega) rfl vewSize HX2.out.bx.lt (fun _ _ => trivial) (hMs.setK 4 _ _ rfl)
          · simp at hji
        · intro xs W hz hMe hV
          have hMe : OfBx w V zero48 gx3 (ofK V 3) W := hMe
          simp only [putM, Act.put, List.setIfInBounds_toArray, List.set_cons_zero, List.set_cons_succ, Nat.zero_add, Nat.reduceAdd]
          clear hV
          generalize W = W3 at hMe ⊢
          have HX3 := Lib.hid hMe
          clear hMe hz HX2
          go_upto_region 5 with (fail)
          refine wp_flowS1 [some 16, some 17, some 18, some 19, some 20, some 21, some 22, some 23, none] [8] [0, 0, 0, 0, 0, 0, 0, 0, 0] [eqV (.int .i64 (3)), eqV (.int .i64 (3)), eqV (.pointer (some ⟨w.heap.size, 16, none⟩)), eqV (.pointer (some ⟨w.heap.size, 40, none⟩)), eqV (.agg (vwC (V 5))), eqV (.agg (vwC (V 5))), eqV (.pointer (some ⟨gx3, 16, none⟩)), eqV (.pointer (some ⟨gx3, 40, none⟩)), fun _ _ => True] (fun j W => match j with | 0 => OfBx w V zero48 gx3 (ofK V 3) W | _ => OfBx w V zero48 gx3 (ofK V 4) W) (by kernel_rfl) (by kernel_rfl) (by kernel_rfl) (by rfl)
            (by simp only [List.mem_cons, List.not_mem_nil, or_false, forall_eq_or_imp, forall_eq]; refine ⟨?_, ?_, ?_, ?_, ?_, ?_, ?_, ?_, ?_⟩ <;> (first | exact eqV_monoB _ _ | exact rowB_mono _ _ _ _ | exact true_monoB _))
            (fun j W W' h hb => by rcases j with _ | j <;> first | exact (OfBx.grown h hb)) (HX3.out) ?_ ?_ ?_
          · intro i o hi ho hc j A W hj hz hMj hk he
            simp only [List.length_cons, List.length_nil, Nat.zero_add, Nat.reduceAdd] at hi
            obtain rfl | rfl | rfl | rfl | rfl | rfl | rfl | rfl | rfl : i = 0 ∨ i = 1 ∨ i = 2 ∨ i = 3 ∨ i = 4 ∨ i = 5 ∨ i = 6 ∨ i = 7 ∨ i = 8 := by omega
            · injection ho with ho; subst ho
              refine .inl ⟨wanted_free rfl, ?_⟩
              have h4 : A.tmps[4]?.getD undef = .int .i64 (3) := hk 4 (by rfl)
              go_simp
              exact ⟨rfl, Below.refl _ _⟩
            · injection ho with ho; subst ho
              refine .inl ⟨wanted_free rfl, ?_⟩
              have h4 : A.tmps[4]?.getD undef = .int .i64 (3) := hk 4 (by rfl)
              go_simp
              exact ⟨rfl, Below.refl _ _⟩
            · injection ho with ho; subst ho
              refine .inl ⟨wanted_free rfl, ?_⟩
              have h1 : A.tmps[1]?.getD undef = .pointer (some ⟨w.heap.size, 0, none⟩) := hk 1 (by rfl)
              go_simp
              exact ⟨rfl, Below.refl _ _⟩
            · injection ho with ho; subst ho
              refine .inl ⟨wanted_free rfl, ?_⟩
              have h18 : A.tmps[18]?.getD undef = .pointer (some ⟨w.heap.size, 16, none⟩) := he 2 (by kernel_rfl) (by rfl)
              have h17 : A.tmps[17]?.getD undef = .int .i64 (3) := he 1 (by kernel_rfl) (by rfl)
              go_simp
              exact ⟨rfl, Below.refl _ _⟩
            · obtain rfl : j = 0 := hj
              have hMs : OfBx w V zero48 gx3 (ofK V 3) W := hMj
              injection ho with ho; subst ho
              refine .inl ⟨wanted_free rfl, ?_⟩
              have h19 : A.tmps[19]?.getD undef = .pointer (some ⟨w.heap.size, 40, none⟩) := he 3 (by kernel_rfl) (by rfl)
              exact y_load (cs := vwC (V 5)) rfl h19 (vs_range (V := V) (hMs.at'.at1) (5) _ (by omega) rfl) Try.underlying30 rfl rvSize
            · obtain rfl : j = 0 := hj
              have hMs : OfBx w V zero48 gx3 (ofK V 3) W := hMj
              injection ho with ho; subst ho
              refine .inl ⟨wanted_free rfl, ?_⟩
              have h20 : A.tmps[20]?.getD undef = .agg (vwC (V 5)) := he 4 (by kernel_rfl) (by rfl)
              go_simp
              refine Calls.mono (view_any (V 5) W) ?_
              rintro e' w' ⟨rfl, hb⟩
              exact ⟨_, rfl, rfl, hb⟩
            · injection ho with ho; subst ho
              refine .inl ⟨wanted_free rfl, ?_⟩
              have h3 : A.tmps[3]?.getD undef = .pointer (some ⟨gx3, 0, none⟩) := hk 3 (by rfl)
              go_simp
              exact ⟨rfl, Below.refl _ _⟩
            · injection ho with ho; subst ho
              refine .inl ⟨wanted_free rfl, ?_⟩
              have h22 : A.tmps[22]?.getD undef = .pointer (some ⟨gx3, 16, none⟩) := he 6 (by kernel_rfl) (by rfl)
              have h16 : A.tmps[16]?.getD undef = .int .i64 (3) := he 0 (by kernel_rfl) (by rfl)
              go_simp
              exact ⟨rfl, Below.refl _ _⟩
            · exact absurd hc (by decide)
          · intro j i o hji ho A W hz hMj hk he
            rcases j with _ | j
            · obtain rfl : 8 = i := Option.some.inj hji
              injection ho with ho; subst ho
              refine .inl ⟨wanted_free rfl, ?_⟩
              have hMs : OfBx w V zero48 gx3 (ofK V 3) W := hMj
              have h23 : A.tmps[23]?.getD undef = .pointer (some ⟨gx3, 40, none⟩) := he 7 (by kernel_rfl) (by rfl)
              have h21 : A.tmps[21]?.getD undef = .agg (vwC (V 5)) := he 5 (by kernel_rfl) (by rfl)
              exact y_storeK rfl h23 h21 hMs.bx (k := 5) (by omega) rfl vewSize HX3.out.bx.lt (fun _ _ => trivial) (hMs.setK 5 _ _ rfl)
            · simp at hji
          · intro xs W hz hMe hV
            have hMe : OfBx w V zero48 gx3 (ofK V 4) W := hMe
            simp only [putM, Act.put, List.setIfInBounds_toArray, List.set_cons_zero, List.set_cons_succ, Nat.zero_add, Nat.reduceAdd]
            clear hV
            generalize W = W4 at hMe ⊢
            have HX4 := Lib.hid hMe
            clear hMe hz HX3
            go_upto_region 6 with (fail)
            have s3 := HX4.out.bx
            rw [ofK_4] at s3
            go_wp2_with (first | refine wpList_load_row rfl 29 _ rfl _ rfl _ (vsC V) (0, 0) _ s3 Try.underlying29 rfl (by rw [vsC_size]; exact vsSize) ?_ | refine wpList_store_row rfl 29 _ _ rfl (w.heap.size + 1) (vsC V) rfl rfl 29 zero48 HX4.out.at'.at2 (by rw [vsC_size]; exact vsSize) (zero48_size.trans (vsC_size _).symm) (vsC_one _) ?_)
            have HE := Lib.hid (HX4.out.at'.low.trans (below_row (B := w.heap.size) (W := W4) (g := w.heap.size + 1) (cs := vsC V) (by omega)))
            have HS : Hid (Sits (W4.setRow (w.heap.size + 1) (vsC V)) (w.heap.size + 1) 29 (vsC V)) := Lib.hid (setRow_heap _ _ _ _ _ _ HX4.out.at'.at2)
            generalize W4.setRow (w.heap.size + 1) (vsC V) = W5 at HE HS ⊢
            clear s3
            go_wp2_with fail
            exact bodyPost_ret (v := .agg (vsC V)) (result_s Try.results13 rfl HS.out) rfl ⟨rfl, HE.out⟩
end Go.Proofs.Ytanbkclomjbokaa.Tvw
