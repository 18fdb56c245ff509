/- Layer 12 (cap): the document's Top. -/
import Derived.Test.YtokkcbhmmhmfmaaCapA
import Derived.Test.YtokkcbhmmhmfmaaMmrYJ
import Derived.Test.YtokkcbhmmhmfmaaMmrYG
import Derived.BigQuiet
namespace Go.Proofs.Ytokkcbhmmhmfmaa.Cap
open Go.RowKit Go.Proofs.Ytokkcbhmmhmfmaa.Mem Go.Proofs.Ytokkcbhmmhmfmaa.Flow Go.Proofs.Ytokkcbhmmhmfmaa.Mmr

abbrev arrC (f : Nat → Int) : Array Value := #[.int .i64 (f 0), .int .i64 (f 1), .int .i64 (f 2), .int .i64 (f 3)]
theorem arr_at (f : Nat → Int) {i : Nat} (h : i < 4) : (arrC f)[i]? = some (.int .i64 (f i)) := by
  rcases (by omega : i = 0 ∨ i = 1 ∨ i = 2 ∨ i = 3) with rfl | rfl | rfl | rfl <;> rfl
theorem arr_set (f : Nat → Int) {i : Nat} (h : i < 4) (v : Int) : (arrC f).setIfInBounds i (.int .i64 v) = arrC fun j => if j = i then v else f j := by
  rcases (by omega : i = 0 ∨ i = 1 ∨ i = 2 ∨ i = 3) with rfl | rfl | rfl | rfl <;> rfl
theorem sits_off {W : World} {g : Nat} {t : TypeId} {cs : Array Value} (h : Sits W g t cs) {k : Nat} (hk : g ≠ k) (i : Nat) (u : Value) : Sits (W.setCell ⟨k, i, none⟩ u) g t cs := (Below.heap_setCell W ⟨k, i, none⟩ u g hk).trans h
theorem arrSize : (Try.prog.info? 24).map (·.size) = some 4 := by kernel_rfl
theorem arr_one (f : Nat → Int) : (arrC f).all (·.oneCell') = true := by simp [Value.oneCell']
theorem topP_eq (m : Mm) (i : Nat) : topP m i = ((lastF m (i : Nat) fun _ => true).getD zeroX).b := by
  unfold topP; split <;> next h => rw [h]; rfl
def upT (m : Mm) (k : Nat) (i : Nat) : Int := if i < k then topP m i else 0
theorem upT_all (m : Mm) (i : Nat) : upT m m.n i = topP m i := by
  unfold upT
  by_cases hn : i < m.n
  · rw [if_pos hn]
  · rw [if_neg hn, topP_eq]
    unfold lastF
    rw [if_neg (by rw [has_iff]; omega)]; rfl
theorem arr_top (m : Mm) : arrC (upT m m.n) = arrC (topP m) := by
  unfold arrC; rw [upT_all, upT_all, upT_all, upT_all]
structure TpAt (w : World) (p : Nat → Option Addr) (c : Nat → Nat) (m : Mm) (f : Nat → Int) (W : World) : Prop where
  at1 : Sits W w.heap.size 31 (memCells p c m)
  at2 : Sits W (w.heap.size + 1) 24 (arrC fun _ => 0)
  at3 : Sits W (w.heap.size + 1 + 1) 24 (arrC f)
  hold : Hold W p c m
  low : Below w.heap.size w W
theorem TpAt.grown {w W W' : World} {p : Nat → Option Addr} {c : Nat → Nat} {m : Mm} {f : Nat → Int} (h : TpAt w p c m f W) (hb : Below W.heap.size W W') : TpAt w p c m f W' :=
  ⟨h.at1.below hb h.at1.lt, h.at2.below hb h.at2.lt, h.at3.below hb h.at3.lt, h.hold.below hb, h.low.trans (hb.mono h.low.size)⟩
theorem hold_cell {W : World} {p : Nat → Option Addr} {c : Nat → Nat} {m : Mm} {g : Nat} {t : TypeId} {cs : Array Value} (h : Hold W p c m) (hs : Sits W g t cs) (hc : ∀ u ∈ cs.toList, ∀ k x y, u ≠ .complex k x y) (i : Nat) (u : Value) : Hold (W.setCell ⟨g, i, none⟩ u) p c m :=
  ⟨fun j hj k x hx => by
    obtain ⟨g', o', e, hne, hg, hq⟩ := its_far hs hc (h.row j hj) k x hx
    exact ⟨g', o', e, by simpa using hg, fun i' hi' => (World.cell?_of_block (a := ⟨g', o' + k * 13 + i', none⟩) (Below.heap_setCell W ⟨g, i, none⟩ u g' hne)).trans (hq i' hi')⟩, h.cap⟩
theorem arr_plain (f : Nat → Int) : ∀ u ∈ (arrC f).toList, ∀ k x y, u ≠ .complex k x y := by
  intro u hu k x y e
  have hu : u ∈ [Value.int .i64 (f 0), .int .i64 (f 1), .int .i64 (f 2), .int .i64 (f 3)] := hu
  simp only [List.mem_cons, List.not_mem_nil, or_false] at hu
  rcases hu with rfl | rfl | rfl | rfl <;> cases e
theorem TpAt.put {w W : World} {p : Nat → Option Addr} {c : Nat → Nat} {m : Mm} {f : Nat → Int} (h : TpAt w p c m f W) {i : Nat} (hi : i < 4) (v : Int) : TpAt w p c m (fun j => if j = i then v else f j) (W.setCell ⟨w.heap.size + 1 + 1, i, none⟩ (.int .i64 v)) :=
  ⟨sits_off h.at1 (by omega) _ _, sits_off h.at2 (by omega) _ _, by have := h.at3.put i (.int .i64 v); rwa [arr_set f hi] at this, hold_cell h.hold h.at3 (arr_plain f) _ _, set_low h.low (by omega) _ _⟩
set_option maxRecDepth 100000 in
set_option maxHeartbeats 4000000 in
theorem top_any (p : Nat → Option Addr) (c : Nat → Nat) (m : Mm) (hO : OkM m) (w : World) (hH : Hold w p c m) :
    Calls Try.prog 34 #[memV p c m] w (Made (.returned (.agg (arrC (topP m)))) w) := by
  have H0 : Hid (TpAt w p c m (upT m 0) (((w.alloc (.cells (memCells p c m) 31)).alloc (.cells (arrC fun _ => 0) 24)).alloc (.cells (arrC fun _ => 0) 24))) := Lib.hid
    ⟨((Sits.new _ _ _).alloc _).alloc _, (Sits.made (by simp) _ _).alloc _, Sits.made (by simp) _ _, hH.below (Vew.below3 _ _ _ _), Vew.below3 _ _ _ _⟩
  have HO := Lib.hid hO
  clear hO hH
  go_enter Try.func34, Try.ntmps34
  go_upto_region 2 with (fail)
  generalize ((w.alloc (.cells (memCells p c m) 31)).alloc (.cells (arrC fun _ => 0) 24)).alloc (.cells (arrC fun _ => 0) 24) = w0 at H0 ⊢
  have b0 : w0.cell? ⟨w.heap.size, 0, none⟩ = some (.slice (p 0) (m.row 0).length (c 0)) := H0.out.at1.cell 0
  have b1 : w0.cell? ⟨w.heap.size, 1, none⟩ = some (.slice (p 1) (m.row 1).length (c 1)) := H0.out.at1.cell 1
  have b2 : w0.cell? ⟨w.heap.size, 2, none⟩ = some (.slice (p 2) (m.row 2).length (c 2)) := H0.out.at1.cell 2
  have b3 : w0.cell? ⟨w.heap.size, 3, none⟩ = some (.slice (p 3) (m.row 3).length (c 3)) := H0.out.at1.cell 3
  have b4 : w0.cell? ⟨w.heap.size, 4, none⟩ = some (.int .i64 (m.n : Nat)) := H0.out.at1.cell 4
  have lb := H0.out.at1.lt
  go_wp2_with fail
  refine (locs_any p c m w0).mono ?_
  rintro e w1 ⟨rfl, hb⟩
  have H1 := Lib.hid (H0.out.grown hb)
  clear hb H0 b0 b1 b2 b3 b4 lb
  go_wp2_with fail
  go_loopg [9] m.n (fun gg v9 wx => ∃ k, k ≤ m.n ∧ gg = m.n - k ∧ v9 = .int .i64 (k : Nat) ∧ Hid (TpAt w p c m (upT m k) wx))
  case atStart => exact ⟨0, by omega, by omega, rfl, H1⟩
  case round =>
    obtain ⟨k, hk, rfl, rfl, HW⟩ := hrel
    by_cases hlt : k < m.n
    · have HK := Lib.hid hlt
      have j4 : (k : Int) < 4 := by have := HO.out.most; omega
      have j0 : (0 : Int) ≤ (k : Int) := by omega
      have j1 : (k : Int) < (m.n : Int) := by omega
      have HC := Lib.hid (last_any' p c m HO.out (k : Int) wr HW.out.hold)
      have HX := Lib.hid (last_may HO.out (k : Int))
      have HT : Hid (topP m k = ((lastF m (k : Nat) fun _ => true).getD zeroX).b) := Lib.hid (topP_eq m k)
      generalize (lastF m (k : Int) fun _ => true).getD zeroX = x at HC HX HT
      clear hlt hk
      have b0 : wr.cell? ⟨w.heap.size, 0, none⟩ = some (.slice (p 0) (m.row 0).length (c 0)) := HW.out.at1.cell 0
      have b1 : wr.cell? ⟨w.heap.size, 1, none⟩ = some (.slice (p 1) (m.row 1).length (c 1)) := HW.out.at1.cell 1
      have b2 : wr.cell? ⟨w.heap.size, 2, none⟩ = some (.slice (p 2) (m.row 2).length (c 2)) := HW.out.at1.cell 2
      have b3 : wr.cell? ⟨w.heap.size, 3, none⟩ = some (.slice (p 3) (m.row 3).length (c 3)) := HW.out.at1.cell 3
      have b4 : wr.cell? ⟨w.heap.size, 4, none⟩ = some (.int .i64 (m.n : Nat)) := HW.out.at1.cell 4
      have lb := HW.out.at1.lt
      go_wp2_with fail
      refine HC.out.mono ?_
      rintro e w2 ⟨rfl, hb⟩
      have HW2 := Lib.hid ((HW.out.grown hb).grown (one_low w2 (.cells (itCells x) 57)))
      have S5 := Lib.hid (Sits.new w2 57 (itCells x))
      clear hb HC HW b0 b1 b2 b3 b4 lb
      go_upto_region 6 with (fail)
      generalize w2.alloc (.cells (itCells x) 57) = w3 at HW2 S5 ⊢
      generalize w2.heap.size = g5 at S5 ⊢
      have c1 : w3.cell? ⟨g5, 1, none⟩ = some (.complex .f64 (fw x.a) (fw x.b)) := S5.out.cell 1
      have l5 := S5.out.lt
      have l3 := HW2.out.at3.lt
      have f3 := HW2.out.at3.free k
      have b3 : w3.cell? ⟨w.heap.size + 1 + 1, k, none⟩ = some (.int .i64 (upT m k k)) := (HW2.out.at3.cell k).trans (arr_at _ (by omega))
      go_wp2_with fail
      refine (Spn.to_any (sp_of HX.out) w3).mono ?_
      rintro e w4 ⟨rfl, rfl⟩
      have HW3 := Lib.hid (HW2.out.put (i := k) (by omega) x.b)
      clear HW2 S5 c1 l5
      go_wp2_with fail
      go_roundg (m.n - (k + 1))
      case measure => have := HK.out; omega
      case rel => exact ⟨k + 1, by have := HK.out; omega, rfl, by go_num, Lib.hid (by
        have e : (fun j => if j = k then x.b else upT m k j) = upT m (k + 1) := by
          funext j
          unfold upT
          by_cases h : j = k
          · subst h; rw [if_pos rfl, if_pos (by omega), HT.out]
          · rw [if_neg h]
            by_cases h2 : j < k
            · rw [if_pos h2, if_pos (by omega)]
            · rw [if_neg h2, if_neg (by omega)]
        rw [← e]; exact HW3.out)⟩
    · obtain rfl : k = m.n := by omega
      have j1 : ¬ ((m.n : Int) < (m.n : Int)) := by omega
      clear hlt hk
      have HA := Lib.hid (arr_top m)
      have b0 : wr.cell? ⟨w.heap.size + 1 + 1, 0, none⟩ = some (.int .i64 (upT m m.n 0)) := HW.out.at3.cell 0
      have b1 : wr.cell? ⟨w.heap.size + 1 + 1, 1, none⟩ = some (.int .i64 (upT m m.n 1)) := HW.out.at3.cell 1
      have b2 : wr.cell? ⟨w.heap.size + 1 + 1, 2, none⟩ = some (.int .i64 (upT m m.n 2)) := HW.out.at3.cell 2
      have b3 : wr.cell? ⟨w.heap.size + 1 + 1, 3, none⟩ = some (.int .i64 (upT m m.n 3)) := HW.out.at3.cell 3
      have lb := HW.out.at3.lt
      go_wp2_with (refine wpList_store_row rfl 24 _ _ rfl (w.heap.size + 1) (arrC (upT m m.n)) rfl rfl 24 _ HW.out.at2 arrSize rfl (arr_one _) ?_)
      have s6 : Sits (wr.setRow (w.heap.size + 1) (arrC (upT m m.n))) (w.heap.size + 1) 24 (arrC (upT m m.n)) := setRow_heap wr _ _ _ _ _ HW.out.at2
      have HB := Lib.hid (row_low HW.out.low (by omega : w.heap.size ≤ w.heap.size + 1) (arrC (upT m m.n)))
      generalize wr.setRow (w.heap.size + 1) (arrC (upT m m.n)) = WF at s6 HB ⊢
      have r0 : WF.cell? ⟨w.heap.size + 1, 0, none⟩ = some (.int .i64 (upT m m.n 0)) := s6.cell 0
      have r1 : WF.cell? ⟨w.heap.size + 1, 1, none⟩ = some (.int .i64 (upT m m.n 1)) := s6.cell 1
      have r2 : WF.cell? ⟨w.heap.size + 1, 2, none⟩ = some (.int .i64 (upT m m.n 2)) := s6.cell 2
      have r3 : WF.cell? ⟨w.heap.size + 1, 3, none⟩ = some (.int .i64 (upT m m.n 3)) := s6.cell 3
      go_wp2_with fail
      exact bodyPost_ret (v := .agg (arrC (upT m m.n))) (by simp [results, Try.results34, go_sem, r0, r1, r2, r3]) rfl (by rw [HA.out]; exact ⟨rfl, HB.out⟩)
end Go.Proofs.Ytokkcbhmmhmfmaa.Cap
namespace Go.Proofs.Ytokkcbhmmhmfmaa.Cap
open Go.RowKit Go.Proofs.Ytokkcbhmmhmfmaa.Mem Go.Proofs.Ytokkcbhmmhmfmaa.Flow Go.Proofs.Ytokkcbhmmhmfmaa.Mmr

theorem drewN_low (W : World) (n : Nat) : Below W.heap.size W (W.drewN n) := ⟨rfl, rfl, rfl, Nat.le_refl _, fun _ _ => rfl⟩
def tpF (l : List It) (k : Nat) (i : Nat) : Int := (l.take k).foldl (topStep i) 0
theorem tpF_next {l : List It} {k : Nat} {x : It} (h : l[k]? = some x) (i : Nat) : tpF l (k + 1) i = topStep i (tpF l k i) x := by
  unfold tpF
  rw [List.take_add_one, h]
  show (l.take k ++ [x]).foldl (topStep i) 0 = _
  rw [List.foldl_append]; rfl
theorem tpF_all (w : Dm) : tpF w.l w.l.length = topD w := by funext i; unfold tpF topD; rw [List.take_length]
structure DTp (w : World) (q : Option Addr) (c : Nat) (m : Dm) (f : Nat → Int) (W : World) : Prop where
  at1 : Sits W w.heap.size 37 (dmCells q c m)
  at2 : Sits W (w.heap.size + 1) 24 (arrC fun _ => 0)
  at3 : Sits W (w.heap.size + 1 + 1) 24 (arrC f)
  hold : HoldD W q c m
  low : Below w.heap.size w W
theorem DTp.grown {w W W' : World} {q : Option Addr} {c : Nat} {m : Dm} {f : Nat → Int} (h : DTp w q c m f W) (hb : Below W.heap.size W W') : DTp w q c m f W' :=
  ⟨h.at1.below hb h.at1.lt, h.at2.below hb h.at2.lt, h.at3.below hb h.at3.lt, h.hold.below hb, h.low.trans (hb.mono h.low.size)⟩
theorem arr_i64 (f : Nat → Int) : ∀ u ∈ (arrC f).toList, ∀ k z, u = .int k z → k = .i64 := by
  intro u hu k z e
  have hu : u ∈ [Value.int .i64 (f 0), .int .i64 (f 1), .int .i64 (f 2), .int .i64 (f 3)] := hu
  simp only [List.mem_cons, List.not_mem_nil, or_false] at hu
  rcases hu with rfl | rfl | rfl | rfl <;> cases e <;> rfl
theorem rts_cell {W : World} {g : Nat} {t : TypeId} {cs : Array Value} {r : Option Addr} {l : List It} (h : Rts W r l) (hs : Sits W g t cs) (hc : ∀ u ∈ cs.toList, ∀ k z, u = .int k z → k = .i64) (i : Nat) (u : Value) : Rts (W.setCell ⟨g, i, none⟩ u) r l := fun k x hx => by
  obtain ⟨g', o', e, hg, hq⟩ := h k x hx
  have hne := rts_far h hs hc k x o' g' hx e
  exact ⟨g', o', e, by simpa using hg, fun i' hi' => (World.cell?_of_block (a := ⟨g', o' + k * 14 + i', none⟩) (Below.heap_setCell W ⟨g, i, none⟩ u g' hne)).trans (hq i' hi')⟩
theorem DTp.put {w W : World} {q : Option Addr} {c : Nat} {m : Dm} {f : Nat → Int} (h : DTp w q c m f W) {i : Nat} (hi : i < 4) (v : Int) : DTp w q c m (fun j => if j = i then v else f j) (W.setCell ⟨w.heap.size + 1 + 1, i, none⟩ (.int .i64 v)) :=
  ⟨sits_off h.at1 (by omega) _ _, sits_off h.at2 (by omega) _ _, by have := h.at3.put i (.int .i64 v); rwa [arr_set f hi] at this, ⟨rts_cell h.hold.row h.at3 (arr_i64 f) _ _, h.hold.cap⟩, set_low h.low (by omega) _ _⟩
set_option maxRecDepth 100000 in
set_option maxHeartbeats 4000000 in
theorem dtop_any (q : Option Addr) (c : Nat) (m : Dm) (hn : m.l.length ≤ 1000) (hl : ∀ y ∈ m.l, 0 ≤ y.loc ∧ y.loc < 4) (w : World) (hH : HoldD w q c m) :
    Calls Try.prog 35 #[dmV q c m] w (Made (.returned (.agg (arrC (topD m)))) w) := by
  have H0 : Hid (DTp w q c m (tpF m.l 0) (((w.alloc (.cells (dmCells q c m) 37)).alloc (.cells (arrC fun _ => 0) 24)).alloc (.cells (arrC fun _ => 0) 24))) := Lib.hid
    ⟨((Sits.new _ _ _).alloc _).alloc _, (Sits.made (by simp) _ _).alloc _, Sits.made (by simp) _ _, hH.below (Vew.below3 _ _ _ _), Vew.below3 _ _ _ _⟩
  have HL := Lib.hid hl
  have i1 : (m.l.length : Int) ≤ 1000 := by omega
  clear hl hH hn
  go_enter Try.func35, Try.ntmps35
  go_upto_region 2 with (fail)
  generalize ((w.alloc (.cells (dmCells q c m) 37)).alloc (.cells (arrC fun _ => 0) 24)).alloc (.cells (arrC fun _ => 0) 24) = w0 at H0 ⊢
  go_wp2_with fail
  go_loopg [4] m.l.length (fun gg v4 wx => ∃ k, k ≤ m.l.length ∧ gg = m.l.length - k ∧ v4 = .int .i64 (k : Nat) ∧ Hid (DTp w q c m (tpF m.l k) wx))
  case atStart => exact ⟨0, by omega, by omega, rfl, H0⟩
  case round =>
    obtain ⟨k, hk, rfl, rfl, HW⟩ := hrel
    have b1 : wr.cell? ⟨w.heap.size, 1, none⟩ = some (.slice q m.l.length c) := HW.out.at1.cell 1
    have lb := HW.out.at1.lt
    by_cases hlt : k < m.l.length
    · have HK := Lib.hid hlt
      have hx : m.l[k]? = some m.l[k] := List.getElem?_eq_getElem hlt
      have HX := Lib.hid hx
      have hloc := HL.out _ (List.getElem_mem hlt)
      obtain ⟨g, o, rfl, lg, hc⟩ := HW.out.hold.row.there hx
      generalize m.l[k] = x at hx hc HX hloc
      obtain ⟨i, hi⟩ : ∃ i : Nat, x.loc = (i : Nat) := ⟨x.loc.toNat, by omega⟩
      have HI := Lib.hid hi
      have HI4 := Lib.hid (show i < 4 by omega)
      have i4 : (i : Int) < 4 := by omega
      have i0 : (0 : Int) ≤ (i : Int) := by omega
      obtain ⟨c0, c1, c2, c3, c4, c5, c6, c7, c8, c9, c10, c11, c12, c13⟩ := hc
      have j1 : (k : Int) < (m.l.length : Int) := by omega
      have j0 : (0 : Int) ≤ (k : Int) := by omega
      clear hlt hk hx hloc hi
      go_upto_region 6 with (fail)
      have S5 := Lib.hid (Sits.new wr 47 (rtCells x))
      have HW2 := Lib.hid (HW.out.grown (one_low wr (.cells (rtCells x) 47)))
      clear c0 c1 c2 c3 c4 c5 c6 c7 c8 c9 c10 c11 c12 c13 b1 lb lg HW
      generalize wr.alloc (.cells (rtCells x) 47) = w2 at S5 HW2 ⊢
      generalize wr.heap.size = g5 at S5 ⊢
      have HN := Lib.hid (fun j => tpF_next HX.out j)
      have d0 : w2.cell? ⟨g5, 0, none⟩ = some (.int .i64 (i : Nat)) := by rw [← HI.out]; exact S5.out.cell 0
      have d2 : w2.cell? ⟨g5, 2, none⟩ = some (.int .i64 x.b) := S5.out.cell 2
      have d12 : w2.cell? ⟨g5, 12, none⟩ = some (.bool x.res) := S5.out.cell 12
      have l5 := S5.out.lt
      have l3 := HW2.out.at3.lt
      have f3 := HW2.out.at3.free i
      have b3 : w2.cell? ⟨w.heap.size + 1 + 1, i, none⟩ = some (.int .i64 (tpF m.l k i)) := (HW2.out.at3.cell i).trans (arr_at _ HI4.out)
      have stay : x.res = true ∨ ¬ tpF m.l k i < x.b → tpF m.l (k + 1) = tpF m.l k := fun h => by
        funext j
        rw [HN.out j]
        unfold topStep
        rw [if_neg]
        rintro ⟨h1, h2, h3⟩
        rw [HI.out] at h2
        obtain rfl : j = i := by omega
        rcases h with h | h
        · rw [h1] at h; cases h
        · exact h h3
      cases hr : x.res
      · rw [hr] at d12
        by_cases hgt : tpF m.l k i < x.b
        · have HU : Hid ((fun j => if j = i then x.b else tpF m.l k j) = tpF m.l (k + 1)) := Lib.hid (by
            funext j
            rw [HN.out j]
            unfold topStep
            by_cases h : j = i
            · subst h; rw [if_pos rfl, if_pos ⟨hr, HI.out, hgt⟩]
            · rw [if_neg h, if_neg]
              rintro ⟨_, h2, _⟩
              rw [HI.out] at h2
              omega)
          clear hr stay
          generalize tpF m.l k i = t at b3 hgt
          go_quiet (fail)
          go_wp2_with fail
          go_roundg (m.l.length - (k + 1))
          case measure => have := HK.out; omega
          case rel => exact ⟨k + 1, by have := HK.out; omega, rfl, by go_num, Lib.hid (by rw [← HU.out]; exact (HW2.out.grown (drewN_low _ _)).put HI4.out x.b)⟩
        · have HU : Hid (tpF m.l (k + 1) = tpF m.l k) := Lib.hid (stay (.inr hgt))
          clear hr stay
          generalize tpF m.l k i = t at b3 hgt
          go_quiet (fail)
          go_wp2_with fail
          go_roundg (m.l.length - (k + 1))
          case measure => have := HK.out; omega
          case rel => exact ⟨k + 1, by have := HK.out; omega, rfl, by go_num, Lib.hid (by rw [HU.out]; exact HW2.out.grown (drewN_low _ _))⟩
      · rw [hr] at d12
        have HU : Hid (tpF m.l (k + 1) = tpF m.l k) := Lib.hid (stay (.inl hr))
        clear hr stay
        go_quiet (fail)
        go_wp2_with fail
        go_roundg (m.l.length - (k + 1))
        case measure => have := HK.out; omega
        case rel => exact ⟨k + 1, by have := HK.out; omega, rfl, by go_num, Lib.hid (by rw [HU.out]; exact HW2.out.grown (drewN_low _ _))⟩
    · obtain rfl : k = m.l.length := by omega
      have j1 : ¬ ((m.l.length : Int) < (m.l.length : Int)) := by omega
      clear hlt hk
      have HA := Lib.hid (tpF_all m)
      rw [HA.out] at HW
      have b0 : wr.cell? ⟨w.heap.size + 1 + 1, 0, none⟩ = some (.int .i64 (topD m 0)) := HW.out.at3.cell 0
      have b1' : wr.cell? ⟨w.heap.size + 1 + 1, 1, none⟩ = some (.int .i64 (topD m 1)) := HW.out.at3.cell 1
      have b2 : wr.cell? ⟨w.heap.size + 1 + 1, 2, none⟩ = some (.int .i64 (topD m 2)) := HW.out.at3.cell 2
      have b3 : wr.cell? ⟨w.heap.size + 1 + 1, 3, none⟩ = some (.int .i64 (topD m 3)) := HW.out.at3.cell 3
      have l3 := HW.out.at3.lt
      go_wp2_with (refine wpList_store_row rfl 24 _ _ rfl (w.heap.size + 1) (arrC (topD m)) rfl rfl 24 _ HW.out.at2 arrSize rfl (arr_one _) ?_)
      have s6 : Sits (wr.setRow (w.heap.size + 1) (arrC (topD m))) (w.heap.size + 1) 24 (arrC (topD m)) := setRow_heap wr _ _ _ _ _ HW.out.at2
      have HB := Lib.hid (row_low HW.out.low (by omega : w.heap.size ≤ w.heap.size + 1) (arrC (topD m)))
      generalize wr.setRow (w.heap.size + 1) (arrC (topD m)) = WF at s6 HB ⊢
      have r0 : WF.cell? ⟨w.heap.size + 1, 0, none⟩ = some (.int .i64 (topD m 0)) := s6.cell 0
      have r1 : WF.cell? ⟨w.heap.size + 1, 1, none⟩ = some (.int .i64 (topD m 1)) := s6.cell 1
      have r2 : WF.cell? ⟨w.heap.size + 1, 2, none⟩ = some (.int .i64 (topD m 2)) := s6.cell 2
      have r3 : WF.cell? ⟨w.heap.size + 1, 3, none⟩ = some (.int .i64 (topD m 3)) := s6.cell 3
      go_wp2_with fail
      exact bodyPost_ret (v := .agg (arrC (topD m))) (by simp [results, Try.results35, go_sem, r0, r1, r2, r3]) rfl ⟨rfl, HB.out⟩
end Go.Proofs.Ytokkcbhmmhmfmaa.Cap
