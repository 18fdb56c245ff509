/- Layer 13 (tview): the document's Join, knows; View, Of. -/
import Derived.Test.YtanbkclomjbokaaTvwD
namespace Go.Proofs.Ytanbkclomjbokaa.Tvw
open Go.RowKit Go.Proofs.Ytanbkclomjbokaa.Mem Go.Proofs.Ytanbkclomjbokaa.Flow Go.Proofs.Ytanbkclomjbokaa.Vew

theorem rvSize : (Try.prog.info? 30).map (·.size) = some 8 := by kernel_rfl
theorem rsSize : (Try.prog.info? 33).map (·.size) = some 48 := by kernel_rfl
theorem arrrSize : (Try.prog.info? 31).map (·.size) = some 32 := by kernel_rfl
def put1 (f : Nat → Int) (i : Nat) (x : Int) : Nat → Int := fun j => if j = i then x else f j
theorem vwC_put (f : Nat → Int) (i : Nat) (x : Int) (hi : i < 8) : (vwC f).setIfInBounds i (.int .i64 x) = vwC (put1 f i x) := by
  apply Array.ext
  · simp [vwC_size]
  · intro j h1 h2
    have hj : j < 8 := by simpa [vwC_size] using h2
    have e2 := vwC_at (put1 f i x) j hj
    have e1 : ((vwC f).setIfInBounds i (.int .i64 x))[j]? = some (.int .i64 (put1 f i x j)) := by
      rw [Array.getElem?_setIfInBounds]
      unfold put1
      by_cases h : i = j
      · subst h
        rw [if_pos rfl, if_pos (by rw [vwC_size]; exact hi), if_pos rfl]
      · rw [if_neg h, if_neg (Ne.symm h), vwC_at f j hj]
    rw [Array.getElem?_eq_getElem h1] at e1
    rw [Array.getElem?_eq_getElem h2] at e2
    injection e1.trans e2.symm
theorem vwC_congr {f f' : Nat → Int} (h : ∀ i, i < 8 → f i = f' i) : vwC f = vwC f' := by
  unfold vwC vewCells
  rw [h 0 (by omega), h 1 (by omega), h 2 (by omega), h 3 (by omega), h 4 (by omega), h 5 (by omega), h 6 (by omega), h 7 (by omega)]
structure JnAt (w : World) (b c : Nat → Int) (W : World) : Prop where
  at2 : Sits W w.heap.size 30 (vwC c)
  at3 : Sits W (w.heap.size + 1) 30 (vwC b)
  at4 : Sits W (w.heap.size + 1 + 1) 30 zero8
  low : Below w.heap.size w W
section
variable {w W W' : World} {b c : Nat → Int}
theorem JnAt.drew (h : JnAt w b c W) : JnAt w b c W.drew := ⟨h.at2, h.at3, h.at4, h.low.drew⟩
theorem JnAt.put (h : JnAt w b c W) (i : Nat) (x : Int) (hi : i < 8) : JnAt w b (put1 c i x) (W.setCell ⟨w.heap.size, i, none⟩ (.int .i64 x)) :=
  ⟨by rw [← vwC_put c i x hi]; exact h.at2.put i _, h.at3.far (by simp) _, h.at4.far (by simp; omega) _, h.low.trans ⟨rfl, rfl, rfl, by simp [World.setCell], fun b hb => Below.heap_setCell _ _ _ _ (by simp; omega)⟩⟩
theorem JnAt.cell (h : JnAt w b c W) (i : Nat) (hi : i < 8) : W.cell? ⟨w.heap.size, i, none⟩ = some (.int .i64 (c i)) := by rw [h.at2.cell]; exact vwC_at c i hi
theorem JnAt.cell3 (h : JnAt w b c W) (i : Nat) (hi : i < 8) : W.cell? ⟨w.heap.size + 1, i, none⟩ = some (.int .i64 (b i)) := by rw [h.at3.cell]; exact vwC_at b i hi
theorem JnAt.same (h : JnAt w b c W) {c' : Nat → Int} (e : ∀ i, i < 8 → c i = c' i) : JnAt w b c' W := ⟨by rw [← vwC_congr e]; exact h.at2, h.at3, h.at4, h.low⟩
theorem jnAt_new (w : World) (a b : Nat → Int) : JnAt w b a (((w.alloc (.cells (vwC a) 30)).alloc (.cells (vwC b) 30)).alloc (.cells zero8 30)) :=
  ⟨((Sits.new _ _ _).alloc _).alloc _, (Sits.made (by simp) _ _).alloc _, Sits.made (by simp) _ _, below3 _ _ _ _⟩
end
def joinK (a b : Nat → Int) (k : Nat) : Nat → Int := fun i => if i % 4 < k then maxF a b i else a i
theorem joinK_step (a b : Nat → Int) (k : Nat) (hk : k < 4) (p r : Int) (hp : p = maxF a b k) (hr : r = maxF a b (k + 4)) (i : Nat) (hi : i < 8) : put1 (put1 (joinK a b k) k p) (k + 4) r i = joinK a b (k + 1) i := by
  subst hp hr
  unfold put1 joinK
  by_cases h4 : i = k + 4
  · subst h4; rw [if_pos rfl, if_pos (by omega)]
  · rw [if_neg h4]
    by_cases h0 : i = k
    · subst h0; rw [if_pos rfl, if_pos (by omega)]
    · rw [if_neg h0]
      by_cases h : i % 4 < k
      · rw [if_pos h, if_pos (by omega)]
      · rw [if_neg h, if_neg (by omega)]
theorem put1_self (f : Nat → Int) (i : Nat) : put1 f i (f i) = f := by
  funext j
  unfold put1
  split
  · next h => rw [h]
  · rfl
theorem result_rv {fn : Func} {p : Tmp} (h : fn.results = #[.cell p 30]) {T : Array Value} {W : World} {g : Nat} {f : Nat → Int} (hp : T.getD p undef = .pointer (some ⟨g, 0, none⟩)) (hs : Sits W g 30 (vwC f)) :
    (results fn T).run Try.prog W = .ok (.agg (vwC f)) W := results_cell_row h T W g _ _ _ _ hp hs Try.underlying30 rfl rvSize
set_option maxRecDepth 100000 in
set_option maxHeartbeats 2000000 in
theorem djoin_any (a b : Nat → Int) (w : World) :
    Calls Try.prog 26 #[.agg (vwC a), .agg (vwC b)] w (Made (.returned (.agg (vwC (maxF a b)))) w) := by
  have HB := Lib.hid (jnAt_new w a b)
  go_enter Try.func26, Try.ntmps26
  go_upto_region 1 with (fail)
  generalize ((w.alloc (.cells (vwC a) 30)).alloc (.cells (vwC b) 30)).alloc (.cells zero8 30) = w0 at HB ⊢
  have H0 : Hid (JnAt w b (joinK a b 0) w0) := Lib.hid (HB.out.same fun i _ => by simp [joinK])
  clear HB
  go_wp2_with fail
  go_loopg [5] 4 (fun gg v5 wx => ∃ k, k ≤ 4 ∧ gg = 4 - k ∧ v5 = .int .i64 (k : Nat) ∧ Hid (JnAt w b (joinK a b k) wx))
  case atStart => exact ⟨0, by omega, by omega, rfl, H0⟩
  case round =>
    obtain ⟨k, hk, rfl, rfl, HJ⟩ := hrel
    by_cases hlt : k < 4
    · have j1 : (k : Int) < 4 := by omega
      have j0 : (0 : Int) ≤ (k : Int) := by omega
      have e1 : joinK a b k k = a k := by unfold joinK; rw [if_neg (by omega)]
      have e2 : joinK a b k (k + 4) = a (k + 4) := by unfold joinK; rw [if_neg (by omega)]
      have HL := Lib.hid hlt
      have ca : wr.cell? ⟨w.heap.size, k, none⟩ = some (.int .i64 (a k)) := by rw [HJ.out.cell k (by omega), e1]
      have cb : wr.cell? ⟨w.heap.size + 1, k, none⟩ = some (.int .i64 (b k)) := HJ.out.cell3 k (by omega)
      have hE1 := Lib.hid e1
      have hE2 := Lib.hid e2
      clear e1 e2 hk
      by_cases g1 : a k < b k
      ·
        have HP : Hid (b k = maxF a b k) := Lib.hid (by unfold maxF; rw [if_pos g1])
        have f0 : wr.frozen? ⟨w.heap.size, k, none⟩ = false := HJ.out.at2.free _
        go_upto_region 4 with (fail)
        go_region
        go_upto_region 6 with (fail)
        have HJ1 : Hid (JnAt w b (put1 (joinK a b k) k (b k)) (wr.setCell ⟨w.heap.size, k, none⟩ (.int .i64 (b k))).drew) := Lib.hid (HJ.out.put k (b k) (by have := HL.out; omega)).drew
        generalize (wr.setCell ⟨w.heap.size, k, none⟩ (.int .i64 (b k))).drew = W1 at HJ1 ⊢
        clear ca cb f0 HJ
        have ca4 : W1.cell? ⟨w.heap.size, 4 + k, none⟩ = some (.int .i64 (a (k + 4))) := by rw [Nat.add_comm 4 k, HJ1.out.cell (k + 4) (by have := HL.out; omega)]; first | rw [hE2.out] | (unfold put1; rw [if_neg (by omega), hE2.out])
        have cb4 : W1.cell? ⟨w.heap.size + 1, 4 + k, none⟩ = some (.int .i64 (b (k + 4))) := by rw [Nat.add_comm 4 k]; exact HJ1.out.cell3 (k + 4) (by have := HL.out; omega)
        by_cases g2 : a (k + 4) < b (k + 4)
        ·
          have HM : Hid (b (k + 4) = maxF a b (k + 4)) := Lib.hid (by unfold maxF; rw [if_pos g2])
          have f4 : W1.frozen? ⟨w.heap.size, 4 + k, none⟩ = false := HJ1.out.at2.free _
          go_upto_region 6 with (fail)
          go_region
          go_upto_region 3 with (fail)
          have HK : Hid (JnAt w b (joinK a b (k + 1)) (W1.setCell ⟨w.heap.size, 4 + k, none⟩ (.int .i64 (b (k + 4)))).drew) := Lib.hid (by
            have h := (HJ1.out.put (k + 4) (b (k + 4)) (by have := HL.out; omega)).drew
            rw [show (⟨w.heap.size, k + 4, none⟩ : Addr) = ⟨w.heap.size, 4 + k, none⟩ by rw [Nat.add_comm]] at h
            refine h.same fun i hi => ?_
            exact joinK_step a b k HL.out _ _ HP.out HM.out i hi)
          generalize (W1.setCell ⟨w.heap.size, 4 + k, none⟩ (.int .i64 (b (k + 4)))).drew = W9 at HK ⊢
          have i3 : (k : Int) < 4 := by have := HL.out; omega
          clear ca4 cb4
          go_wp2_with fail
          go_roundg (4 - (k + 1))
          case measure => have := HL.out; omega
          case rel => exact ⟨k + 1, by have := HL.out; omega, rfl, by go_num, HK⟩
        ·
          have HM : Hid (a (k + 4) = maxF a b (k + 4)) := Lib.hid (by unfold maxF; rw [if_neg g2])
          go_upto_region 6 with (fail)
          go_region
          go_upto_region 3 with (fail)
          have HK : Hid (JnAt w b (joinK a b (k + 1)) W1.drew) := Lib.hid (HJ1.out.drew.same fun i hi => by
            have := joinK_step a b k HL.out _ _ HP.out HM.out i hi
            rwa [show a (k + 4) = put1 (joinK a b k) k (b k) (k + 4) by unfold put1; rw [if_neg (by omega), hE2.out], put1_self] at this)
          generalize W1.drew = W9 at HK ⊢
          have i3 : (k : Int) < 4 := by have := HL.out; omega
          clear ca4 cb4
          go_wp2_with fail
          go_roundg (4 - (k + 1))
          case measure => have := HL.out; omega
          case rel => exact ⟨k + 1, by have := HL.out; omega, rfl, by go_num, HK⟩
      ·
        have HP : Hid (a k = maxF a b k) := Lib.hid (by unfold maxF; rw [if_neg g1])
        go_upto_region 4 with (fail)
        go_region
        have HJ1 : Hid (JnAt w b (joinK a b k) wr.drew) := Lib.hid HJ.out.drew
        generalize wr.drew = W1 at HJ1 ⊢
        clear ca cb HJ
        have ca4 : W1.cell? ⟨w.heap.size, 4 + k, none⟩ = some (.int .i64 (a (k + 4))) := by rw [Nat.add_comm 4 k, HJ1.out.cell (k + 4) (by have := HL.out; omega)]; first | rw [hE2.out] | (unfold put1; rw [if_neg (by omega), hE2.out])
        have cb4 : W1.cell? ⟨w.heap.size + 1, 4 + k, none⟩ = some (.int .i64 (b (k + 4))) := by rw [Nat.add_comm 4 k]; exact HJ1.out.cell3 (k + 4) (by have := HL.out; omega)
        by_cases g2 : a (k + 4) < b (k + 4)
        ·
          have HM : Hid (b (k + 4) = maxF a b (k + 4)) := Lib.hid (by unfold maxF; rw [if_pos g2])
          have f4 : W1.frozen? ⟨w.heap.size, 4 + k, none⟩ = false := HJ1.out.at2.free _
          go_upto_region 6 with (fail)
          go_region
          go_upto_region 3 with (fail)
          have HK : Hid (JnAt w b (joinK a b (k + 1)) (W1.setCell ⟨w.heap.size, 4 + k, none⟩ (.int .i64 (b (k + 4)))).drew) := Lib.hid (by
            have h := (HJ1.out.put (k + 4) (b (k + 4)) (by have := HL.out; omega)).drew
            rw [show (⟨w.heap.size, k + 4, none⟩ : Addr) = ⟨w.heap.size, 4 + k, none⟩ by rw [Nat.add_comm]] at h
            refine h.same fun i hi => ?_
            have := joinK_step a b k HL.out _ _ HP.out HM.out i hi; rwa [← hE1.out, put1_self] at this)
          generalize (W1.setCell ⟨w.heap.size, 4 + k, none⟩ (.int .i64 (b (k + 4)))).drew = W9 at HK ⊢
          have i3 : (k : Int) < 4 := by have := HL.out; omega
          clear ca4 cb4
          go_wp2_with fail
          go_roundg (4 - (k + 1))
          case measure => have := HL.out; omega
          case rel => exact ⟨k + 1, by have := HL.out; omega, rfl, by go_num, HK⟩
        ·
          have HM : Hid (a (k + 4) = maxF a b (k + 4)) := Lib.hid (by unfold maxF; rw [if_neg g2])
          go_upto_region 6 with (fail)
          go_region
          go_upto_region 3 with (fail)
          have HK : Hid (JnAt w b (joinK a b (k + 1)) W1.drew) := Lib.hid (HJ1.out.drew.same fun i hi => by
            have := joinK_step a b k HL.out _ _ HP.out HM.out i hi
            rwa [← hE1.out, put1_self, ← hE2.out, put1_self] at this)
          generalize W1.drew = W9 at HK ⊢
          have i3 : (k : Int) < 4 := by have := HL.out; omega
          clear ca4 cb4
          go_wp2_with fail
          go_roundg (4 - (k + 1))
          case measure => have := HL.out; omega
          case rel => exact ⟨k + 1, by have := HL.out; omega, rfl, by go_num, HK⟩
    · have HF : Hid (JnAt w b (maxF a b) wr) := Lib.hid (HJ.out.same fun i _ => by unfold joinK; rw [if_pos (by omega)])
      have j1 : ¬ (k : Int) < 4 := by omega
      have s2 := HF.out.at2
      clear HJ
      go_wp2_with (first | refine wpList_load_row rfl 30 _ rfl _ rfl _ (vwC (maxF a b)) (0, 0) _ s2 Try.underlying30 rfl rvSize ?_ | refine wpList_store_row rfl 30 _ _ rfl (w.heap.size + 1 + 1) (vwC (maxF a b)) rfl rfl 30 zero8 HF.out.at4 rvSize rfl (vwC_one _) ?_)
      have hl := HF.out.low.trans (below_row (B := w.heap.size) (W := wr) (g := w.heap.size + 1 + 1) (cs := vwC (maxF a b)) (by omega))
      have hs : Sits (wr.setRow (w.heap.size + 1 + 1) (vwC (maxF a b))) (w.heap.size + 1 + 1) 30 (vwC (maxF a b)) := setRow_heap _ _ _ _ _ _ HF.out.at4
      generalize wr.setRow (w.heap.size + 1 + 1) (vwC (maxF a b)) = W4 at hl hs ⊢
      have HE := Lib.hid hl
      have HS := Lib.hid hs
      clear hl hs s2
      go_wp2_with fail
      exact bodyPost_ret (v := .agg (vwC (maxF a b))) (result_rv Try.results26 rfl HS.out) rfl ⟨rfl, HE.out⟩
end Go.Proofs.Ytanbkclomjbokaa.Tvw
