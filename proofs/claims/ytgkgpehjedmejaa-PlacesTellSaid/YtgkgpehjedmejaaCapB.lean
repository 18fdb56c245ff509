/- Layer 12 (cap): the document's Top. -/
import Derived.Test.YtgkgpehjedmejaaCapA
import Derived.Test.YtgkgpehjedmejaaMmrYJ
import Derived.Test.YtgkgpehjedmejaaMmrYG
import Derived.BigQuiet
namespace Go.Proofs.Ytgkgpehjedmejaa.Cap
open Go.RowKit Go.Proofs.Ytgkgpehjedmejaa.Mem Go.Proofs.Ytgkgpehjedmejaa.Flow Go.Proofs.Ytgkgpehjedmejaa.Mmr

abbrev arrC (f : Nat → Int) : Array Value := #[.int .i64 (f 0), .int .i64 (f 1), .int .i64 (f 2), .int .i64 (f 3)]
theorem arr_at (f : Nat → Int) {i : Nat} (h : i < 4) : (arrC f)[i]? = some (.int .i64 (f i)) := by
  rcases (by omega : i = 0 ∨ i = 1 ∨ i = 2 ∨ i = 3) with rfl | rfl | rfl | rfl <;> rfl
theorem arr_set (f : Nat → Int) {i : Nat} (h : i < 4) (v : Int) : (arrC f).setIfInBounds i (.int .i64 v) = arrC fun j => if j = i then v else f j := by
  rcases (by omega : i = 0 ∨ i = 1 ∨ i = 2 ∨ i = 3) with rfl | rfl | rfl | rfl <;> rfl
theorem sits_off {W : World} {g : Nat} {t : TypeId} {cs : Array Value} (h : Sits W g t cs) {k : Nat} (hk : g ≠ k) (i : Nat) (u : Value) : Sits (W.setCell ⟨k, i, none⟩ u) g t cs := (Below.heap_setCell W ⟨k, i, none⟩ u g hk).trans h
theorem arrSize : (Try.prog.info? 48).map (·.size) = some 4 := by kernel_rfl
theorem arr_one (f : Nat → Int) : (arrC f).all (·.oneCell') = true := by simp [Value.oneCell']
theorem topP_eq (m : Mm) (i : Nat) : topP m i = ((lastF m (i : Nat) fun _ => true).getD zeroX).b := by
  unfold topP; split <;> next h => rw [h]; rfl
def upT (m : Mm) (k : Nat) (i : Nat) : Int := if i < k then topP m i else 0
theorem upT_all (m : Mm) (i : Nat) : upT m m.n i = topP m i := by
  unfold upT
  by_cases hn : i < m.n
  · rw [if_pos hn]
  · rw [if_neg hn, topP_eq]
    unfold lastF
    rw [if_neg (by rw [has_iff]; omega)]; rfl
theorem arr_top (m : Mm) : arrC (upT m m.n) = arrC (topP m) := by
  unfold arrC; rw [upT_all, upT_all, upT_all, upT_all]
structure TpAt (w : World) (p : Nat → Option Addr) (c : Nat → Nat) (m : Mm) (f : Nat → Int) (W : World) : Prop where
  at1 : Sits W w.heap.size 28 (memCells p c m)
  at2 : Sits W (w.heap.size + 1) 48 (arrC fun _ => 0)
  at3 : Sits W (w.heap.size + 1 + 1) 48 (arrC f)
  hold : Hold W p c m
  low : Below w.heap.size w W
theorem TpAt.grown {w W W' : World} {p : Nat → Option Addr} {c : Nat → Nat} {m : Mm} {f : Nat → Int} (h : TpAt w p c m f W) (hb : Below W.heap.size W W') : TpAt w p c m f W' :=
  ⟨h.at1.below hb h.at1.lt, h.at2.below hb h.at2.lt, h.at3.below hb h.at3.lt, h.hold.below hb, h.low.trans (hb.mono h.low.size)⟩
theorem hold_cell {W : World} {p : Nat → Option Addr} {c : Nat → Nat} {m : Mm} {g : Nat} {t : TypeId} {cs : Array Value} (h : Hold W p c m) (hs : Sits W g t cs) (hc : ∀ u ∈ cs.toList, ∀ k x y, u ≠ .complex k x y) (i : Nat) (u : Value) : Hold (W.setCell ⟨g, i, none⟩ u) p c m :=
  ⟨fun j hj k x hx => by
    obtain ⟨g', o', e, hne, hg, hq⟩ := its_far hs hc (h.row j hj) k x hx
    exact ⟨g', o', e, by simpa using hg, fun i' hi' => (World.cell?_of_block (a := ⟨g', o' + k * 13 + i', none⟩) (Below.heap_setCell W ⟨g, i, none⟩ u g' hne)).trans (hq i' hi')⟩, h.cap⟩
theorem arr_plain (f : Nat → Int) : ∀ u ∈ (arrC f).toList, ∀ k x y, u ≠ .complex k x y := by
  intro u hu k x y e
  have hu : u ∈ [Value.int .i64 (f 0), .int .i64 (f 1), .int .i64 (f 2), .int .i64 (f 3)] := hu
  simp only [List.mem_cons, List.not_mem_nil, or_false] at hu
  rcases hu with rfl | rfl | rfl | rfl <;> cases e
theorem TpAt.put {w W : World} {p : Nat → Option Addr} {c : Nat → Nat} {m : Mm} {f : Nat → Int} (h : TpAt w p c m f W) {i : Nat} (hi : i < 4) (v : Int) : TpAt w p c m (fun j => if j = i then v else f j) (W.setCell ⟨w.heap.size + 1 + 1, i, none⟩ (.int .i64 v)) :=
  ⟨sits_off h.at1 (by omega) _ _, sits_off h.at2 (by omega) _ _, by have := h.at3.put i (.int .i64 v); rwa [arr_set f hi] at this, hold_cell h.hold h.at3 (arr_plain f) _ _, set_low h.low (by omega) _ _⟩
end Go.Proofs.Ytgkgpehjedmejaa.Cap
namespace Go.Proofs.Ytgkgpehjedmejaa.Cap
open Go.RowKit Go.Proofs.Ytgkgpehjedmejaa.Mem Go.Proofs.Ytgkgpehjedmejaa.Flow Go.Proofs.Ytgkgpehjedmejaa.Mmr

theorem drewN_low (W : World) (n : Nat) : Below W.heap.size W (W.drewN n) := ⟨rfl, rfl, rfl, Nat.le_refl _, fun _ _ => rfl⟩
def tpF (l : List It) (k : Nat) (i : Nat) : Int := (l.take k).foldl (topStep i) 0
theorem tpF_next {l : List It} {k : Nat} {x : It} (h : l[k]? = some x) (i : Nat) : tpF l (k + 1) i = topStep i (tpF l k i) x := by
  unfold tpF
  rw [List.take_add_one, h]
  show (l.take k ++ [x]).foldl (topStep i) 0 = _
  rw [List.foldl_append]; rfl
theorem tpF_all (w : Dm) : tpF w.l w.l.length = topD w := by funext i; unfold tpF topD; rw [List.take_length]
structure DTp (w : World) (q : Option Addr) (c : Nat) (m : Dm) (f : Nat → Int) (W : World) : Prop where
  at1 : Sits W w.heap.size 30 (dmCells q c m)
  at2 : Sits W (w.heap.size + 1) 48 (arrC fun _ => 0)
  at3 : Sits W (w.heap.size + 1 + 1) 48 (arrC f)
  hold : HoldD W q c m
  low : Below w.heap.size w W
theorem DTp.grown {w W W' : World} {q : Option Addr} {c : Nat} {m : Dm} {f : Nat → Int} (h : DTp w q c m f W) (hb : Below W.heap.size W W') : DTp w q c m f W' :=
  ⟨h.at1.below hb h.at1.lt, h.at2.below hb h.at2.lt, h.at3.below hb h.at3.lt, h.hold.below hb, h.low.trans (hb.mono h.low.size)⟩
theorem arr_i64 (f : Nat → Int) : ∀ u ∈ (arrC f).toList, ∀ k z, u = .int k z → k = .i64 := by
  intro u hu k z e
  have hu : u ∈ [Value.int .i64 (f 0), .int .i64 (f 1), .int .i64 (f 2), .int .i64 (f 3)] := hu
  simp only [List.mem_cons, List.not_mem_nil, or_false] at hu
  rcases hu with rfl | rfl | rfl | rfl <;> cases e <;> rfl
theorem rts_cell {W : World} {g : Nat} {t : TypeId} {cs : Array Value} {r : Option Addr} {l : List It} (h : Rts W r l) (hs : Sits W g t cs) (hc : ∀ u ∈ cs.toList, ∀ k z, u = .int k z → k = .i64) (i : Nat) (u : Value) : Rts (W.setCell ⟨g, i, none⟩ u) r l := fun k x hx => by
  obtain ⟨g', o', e, hg, hq⟩ := h k x hx
  have hne := rts_far h hs hc k x o' g' hx e
  exact ⟨g', o', e, by simpa using hg, fun i' hi' => (World.cell?_of_block (a := ⟨g', o' + k * 14 + i', none⟩) (Below.heap_setCell W ⟨g, i, none⟩ u g' hne)).trans (hq i' hi')⟩
theorem DTp.put {w W : World} {q : Option Addr} {c : Nat} {m : Dm} {f : Nat → Int} (h : DTp w q c m f W) {i : Nat} (hi : i < 4) (v : Int) : DTp w q c m (fun j => if j = i then v else f j) (W.setCell ⟨w.heap.size + 1 + 1, i, none⟩ (.int .i64 v)) :=
  ⟨sits_off h.at1 (by omega) _ _, sits_off h.at2 (by omega) _ _, by have := h.at3.put i (.int .i64 v); rwa [arr_set f hi] at this, ⟨rts_cell h.hold.row h.at3 (arr_i64 f) _ _, h.hold.cap⟩, set_low h.low (by omega) _ _⟩
end Go.Proofs.Ytgkgpehjedmejaa.Cap
