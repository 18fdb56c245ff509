/- Layer 13 (tview): the document's Read and Write. -/
import Derived.Test.YtanbkclomjbokaaTvwL
namespace Go.Proofs.Ytanbkclomjbokaa.Tvw
open Go.RowKit Go.Proofs.Ytanbkclomjbokaa.Mem Go.Proofs.Ytanbkclomjbokaa.Flow Go.Proofs.Ytanbkclomjbokaa.Vew
structure RdD (w : World) (V : Nat → Nat → Int) (m : Nat → Int) (r : Array Value) (W : World) : Prop where
  at5 : Sits W (w.heap.size) 33 (vsC V)
  at9 : Sits W (w.heap.size + 1) 30 (vwC m)
  at10 : Sits W (w.heap.size + 1 + 1) 33 r
  low : Below w.heap.size w W
  grow : w.heap.size + 3 ≤ W.heap.size
section
variable {w W W' : World} {V : Nat → Nat → Int} {m : Nat → Int} {r : Array Value}
theorem RdD.grown (h : RdD w V m r W) (hb : Below W.heap.size W W') : RdD w V m r W' :=
  ⟨h.at5.below hb h.at5.lt, h.at9.below hb h.at9.lt, h.at10.below hb h.at10.lt, h.low.trans (hb.mono h.low.size), by have := h.grow; have := hb.size; omega⟩
theorem RdD.setK (h : RdD w V m r W) (k o : Nat) (f : Nat → Int) (ho : o = 8 * k) : RdD w (setV V k f) m r (W.setCells (w.heap.size) o (vwC f).toList) :=
  ⟨vs_set h.at5 k o f ho, (setCells_other _ _ _ _ _ (by omega)).trans h.at9, (setCells_other _ _ _ _ _ (by omega)).trans h.at10, h.low.trans (below_cells (by omega)), by rw [setCells_size]; exact h.grow⟩
theorem RdD.out (h : RdD w V m r W) (u : Array Value) : RdD w V m u (W.setRow (w.heap.size + 1 + 1) u) :=
  ⟨(setRow_other _ _ _ _ (by omega)).trans h.at5, (setRow_other _ _ _ _ (by omega)).trans h.at9, setRow_heap _ _ _ _ _ _ h.at10, h.low.trans (below_row (by omega)), by simpa [World.setRow] using h.grow⟩
theorem RdD.cur (h : RdD w V m r W) (k : Nat) (hk : k < 8) : W.cell? ⟨w.heap.size, k, none⟩ = some (.int .i64 (V 0 k)) := by
  rw [h.at5.cell]; exact vsC_at V 0 k k (by omega) hk (by omega)
end
structure WrD (w : World) (V : Nat → Nat → Int) (m : Nat → Int) (r : Array Value) (q : Array Value) (W : World) : Prop where
  at5 : Sits W (w.heap.size) 33 (vsC V)
  at9 : Sits W (w.heap.size + 1) 30 (vwC m)
  at10 : Sits W (w.heap.size + 1 + 1) 33 r
  at11 : Sits W (w.heap.size + 1 + 1 + 1) 30 q
  at13 : Sits W (w.heap.size + 1 + 1 + 1 + 1) 30 (vwC zeroF)
  low : Below w.heap.size w W
  grow : w.heap.size + 5 ≤ W.heap.size
section
variable {w W W' : World} {V : Nat → Nat → Int} {m : Nat → Int} {r : Array Value} {q : Array Value}
theorem WrD.grown (h : WrD w V m r q W) (hb : Below W.heap.size W W') : WrD w V m r q W' :=
  ⟨h.at5.below hb h.at5.lt, h.at9.below hb h.at9.lt, h.at10.below hb h.at10.lt, h.at11.below hb h.at11.lt, h.at13.below hb h.at13.lt, h.low.trans (hb.mono h.low.size), by have := h.grow; have := hb.size; omega⟩
theorem WrD.setK (h : WrD w V m r q W) (k o : Nat) (f : Nat → Int) (ho : o = 8 * k) : WrD w (setV V k f) m r q (W.setCells (w.heap.size) o (vwC f).toList) :=
  ⟨vs_set h.at5 k o f ho, (setCells_other _ _ _ _ _ (by omega)).trans h.at9, (setCells_other _ _ _ _ _ (by omega)).trans h.at10, (setCells_other _ _ _ _ _ (by omega)).trans h.at11, (setCells_other _ _ _ _ _ (by omega)).trans h.at13, h.low.trans (below_cells (by omega)), by rw [setCells_size]; exact h.grow⟩
theorem WrD.out (h : WrD w V m r q W) (u : Array Value) : WrD w V m u q (W.setRow (w.heap.size + 1 + 1) u) :=
  ⟨(setRow_other _ _ _ _ (by omega)).trans h.at5, (setRow_other _ _ _ _ (by omega)).trans h.at9, setRow_heap _ _ _ _ _ _ h.at10, (setRow_other _ _ _ _ (by omega)).trans h.at11, (setRow_other _ _ _ _ (by omega)).trans h.at13, h.low.trans (below_row (by omega)), by simpa [World.setRow] using h.grow⟩
theorem WrD.out2 (h : WrD w V m r q W) (u : Array Value) : WrD w V m r u (W.setRow (w.heap.size + 1 + 1 + 1) u) :=
  ⟨(setRow_other _ _ _ _ (by omega)).trans h.at5, (setRow_other _ _ _ _ (by omega)).trans h.at9, (setRow_other _ _ _ _ (by omega)).trans h.at10, setRow_heap _ _ _ _ _ _ h.at11, (setRow_other _ _ _ _ (by omega)).trans h.at13, h.low.trans (below_row (by omega)), by simpa [World.setRow] using h.grow⟩
theorem WrD.cur (h : WrD w V m r q W) (k : Nat) (hk : k < 8) : W.cell? ⟨w.heap.size, k, none⟩ = some (.int .i64 (V 0 k)) := by
  rw [h.at5.cell]; exact vsC_at V 0 k k (by omega) hk (by omega)
end
theorem rdD_new (w : World) (V : Nat → Nat → Int) (m : Nat → Int) : RdD w V m zero48 (((w.alloc (.cells (vsC V) 33)).alloc (.cells (vwC m) 30)).alloc (.cells zero48 33)) :=
  ⟨((Sits.new _ _ _).alloc _).alloc _, (Sits.made (by simp) _ _).alloc _, Sits.made (by simp) _ _, below3 _ _ _ _, by simp⟩
theorem wrD_new (w : World) (V : Nat → Nat → Int) (m : Nat → Int) : WrD w V m zero48 zero8 (((((w.alloc (.cells (vsC V) 33)).alloc (.cells (vwC m) 30)).alloc (.cells zero48 33)).alloc (.cells zero8 30)).alloc (.cells zero8 30)) :=
  ⟨((((Sits.new _ _ _).alloc _).alloc _).alloc _).alloc _, (((Sits.made (by simp) _ _).alloc _).alloc _).alloc _, ((Sits.made (by simp) _ _).alloc _).alloc _, (Sits.made (by simp) _ _).alloc _, (Sits.made (by simp) _ _ : Sits _ _ _ zero8),
    below_more (below_more (below3 _ _ _ _) (by simp; omega) _) (by simp; omega) _, by simp⟩
theorem dresult_sb {fn : Func} {p q : Tmp} (h : fn.results = #[.cell p 33, .tmp q]) {T : Array Value} {W : World} {g : Nat} {V : Nat → Nat → Int} {b : Bool} (hp : T.getD p undef = .pointer (some ⟨g, 0, none⟩)) (hq : T.getD q undef = .bool b) (hs : Sits W g 33 (vsC V)) :
    (results fn T).run Try.prog W = .ok (.tuple #[.agg (vsC V), .bool b]) W := by
  have hl := run_loadVar_row (P := Try.prog) W g 33 33 (vsC V) (0, 0) _ hs Try.underlying33 rfl (by rw [vsC_size]; exact rsSize)
  have hp' : T[p]?.getD undef = .pointer (some ⟨g, 0, none⟩) := by simpa using hp
  have hq' : T[q]?.getD undef = .bool b := by simpa using hq
  simp [results, h, hp', hq', asAddr, hl]
theorem dresult_svb {fn : Func} {p p2 q : Tmp} (h : fn.results = #[.cell p 33, .cell p2 30, .tmp q]) {T : Array Value} {W : World} {g g2 : Nat} {V : Nat → Nat → Int} {f : Nat → Int} {b : Bool} (hp : T.getD p undef = .pointer (some ⟨g, 0, none⟩)) (hp2 : T.getD p2 undef = .pointer (some ⟨g2, 0, none⟩))
    (hq : T.getD q undef = .bool b) (hs : Sits W g 33 (vsC V)) (hs2 : Sits W g2 30 (vwC f)) : (results fn T).run Try.prog W = .ok (.tuple #[.agg (vsC V), .agg (vwC f), .bool b]) W := by
  have hl := run_loadVar_row (P := Try.prog) W g 33 33 (vsC V) (0, 0) _ hs Try.underlying33 rfl (by rw [vsC_size]; exact rsSize)
  have hl2 := run_loadVar_row (P := Try.prog) W g2 30 30 (vwC f) (0, 0) _ hs2 Try.underlying30 rfl rvSize
  have hp' : T[p]?.getD undef = .pointer (some ⟨g, 0, none⟩) := by simpa using hp
  have hp2' : T[p2]?.getD undef = .pointer (some ⟨g2, 0, none⟩) := by simpa using hp2
  have hq' : T[q]?.getD undef = .bool b := by simpa using hq
  simp [results, h, hp', hp2', hq', asAddr, hl, hl2]
def dreadF (V : Nat → Nat → Int) (l : Nat) (tt mo : Int) (m : Nat → Int) : Nat → Nat → Int :=
  if mo = 1 then setV (setV V 0 (knowsF (V 0) l tt false)) 1 (knowsF (V 1) l tt false)
  else if mo = 2 then setV (setV V 0 (knowsF (V 0) l tt true)) 1 (maxF (knowsF (V 1) l tt true) m)
  else setV (setV V 0 (maxF (knowsF (V 0) l tt true) m)) 1 (maxF (knowsF (V 1) l tt true) m)
def dreadV (V : Nat → Nat → Int) (loc tt mo : Int) (m : Nat → Int) : Nat → Nat → Int := if readOk V loc tt mo then dreadF V loc.toNat tt mo m else V
set_option maxRecDepth 100000 in
set_option maxHeartbeats 4000000 in
theorem dread_any (V : Nat → Nat → Int) (loc tt mo : Int) (m : Nat → Int) (w : World) :
    Calls Try.prog 12 #[.agg (vsC V), .int .i64 loc, .int .i64 tt, .int .u8 mo, .agg (vwC m)] w (Made (.returned (.tuple #[.agg (vsC (dreadV V loc tt mo m)), .bool (readOk V loc tt mo)])) w) := by
  have HB := Lib.hid (rdD_new w V m)
  by_cases p1 : loc < 0
  ·
    have hk : Hid (readOk V loc tt mo = false) := Lib.hid (by unfold readOk lowT; simp; omega)
    have hv : Hid (dreadV V loc tt mo m = V) := Lib.hid (by unfold dreadV; rw [hk.out]; rfl)
    go_enter Try.func12, Try.ntmps12
    go_upto_region 1 with (fail)
    generalize ((w.alloc (.cells (vsC V) 33)).alloc (.cells (vwC m) 30)).alloc (.cells zero48 33) = w0 at HB ⊢
    go_upto_region 2 with (fail)
    have s5 := (HB.out).at5
    go_wp2_with (first | refine wpList_load_row rfl 33 _ rfl _ rfl _ (vsC (V)) (0, 0) _ s5 Try.underlying33 rfl (by rw [vsC_size]; exact rsSize) ?_ | refine wpList_store_row rfl 33 _ _ rfl (w.heap.size + 1 + 1) (vsC (V)) rfl rfl 33 zero48 (HB.out).at10 (by rw [vsC_size]; exact rsSize) (zero48_size.trans (vsC_size _).symm) (vsC_one _) ?_)
    clear s5
    have HE := Lib.hid ((HB.out).out (vsC (V)))
    generalize w0.setRow (w.heap.size + 1 + 1) (vsC (V)) = WE at HE ⊢
    go_wp2_with fail
    exact bodyPost_ret (v := .tuple #[.agg (vsC (V)), .bool false]) (dresult_sb Try.results12 rfl rfl HE.out.at10) rfl ⟨by rw [hv.out, hk.out], HE.out.low⟩
  by_cases p2 : 3 < loc
  ·
    have hk : Hid (readOk V loc tt mo = false) := Lib.hid (by unfold readOk lowT; simp; omega)
    have hv : Hid (dreadV V loc tt mo m = V) := Lib.hid (by unfold dreadV; rw [hk.out]; rfl)
    go_enter Try.func12, Try.ntmps12
    go_upto_region 1 with (fail)
    generalize ((w.alloc (.cells (vsC V) 33)).alloc (.cells (vwC m) 30)).alloc (.cells zero48 33) = w0 at HB ⊢
    go_upto_region 2 with (fail)
    have s5 := (HB.out).at5
    go_wp2_with (first | refine wpList_load_row rfl 33 _ rfl _ rfl _ (vsC (V)) (0, 0) _ s5 Try.underlying33 rfl (by rw [vsC_size]; exact rsSize) ?_ | refine wpList_store_row rfl 33 _ _ rfl (w.heap.size + 1 + 1) (vsC (V)) rfl rfl 33 zero48 (HB.out).at10 (by rw [vsC_size]; exact rsSize) (zero48_size.trans (vsC_size _).symm) (vsC_one _) ?_)
    clear s5
    have HE := Lib.hid ((HB.out).out (vsC (V)))
    generalize w0.setRow (w.heap.size + 1 + 1) (vsC (V)) = WE at HE ⊢
    go_wp2_with fail
    exact bodyPost_ret (v := .tuple #[.agg (vsC (V)), .bool false]) (dresult_sb Try.results12 rfl rfl HE.out.at10) rfl ⟨by rw [hv.out, hk.out], HE.out.low⟩
  by_cases p3 : tt < 0
  ·
    have hk : Hid (readOk V loc tt mo = false) := Lib.hid (by unfold readOk lowT; simp; omega)
    have hv : Hid (dreadV V loc tt mo m = V) := Lib.hid (by unfold dreadV; rw [hk.out]; rfl)
    go_enter Try.func12, Try.ntmps12
    go_upto_region 1 with (fail)
    generalize ((w.alloc (.cells (vsC V) 33)).alloc (.cells (vwC m) 30)).alloc (.cells zero48 33) = w0 at HB ⊢
    go_upto_region 2 with (fail)
    have s5 := (HB.out).at5
    go_wp2_with (first | refine wpList_load_row rfl 33 _ rfl _ rfl _ (vsC (V)) (0, 0) _ s5 Try.underlying33 rfl (by rw [vsC_size]; exact rsSize) ?_ | refine wpList_store_row rfl 33 _ _ rfl (w.heap.size + 1 + 1) (vsC (V)) rfl rfl 33 zero48 (HB.out).at10 (by rw [vsC_size]; exact rsSize) (zero48_size.trans (vsC_size _).symm) (vsC_one _) ?_)
    clear s5
    have HE := Lib.hid ((HB.out).out (vsC (V)))
    generalize w0.setRow (w.heap.size + 1 + 1) (vsC (V)) = WE at HE ⊢
    go_wp2_with fail
    exact bodyPost_ret (v := .tuple #[.agg (vsC (V)), .bool false]) (dresult_sb Try.results12 rfl rfl HE.out.at10) rfl ⟨by rw [hv.out, hk.out], HE.out.low⟩
  by_cases p4 : mo < 1
  ·
    have hk : Hid (readOk V loc tt mo = false) := Lib.hid (by unfold readOk lowT; simp; omega)
    have hv : Hid (dreadV V loc tt mo m = V) := Lib.hid (by unfold dreadV; rw [hk.out]; rfl)
    go_enter Try.func12, Try.ntmps12
    go_upto_region 1 with (fail)
    generalize ((w.alloc (.cells (vsC V) 33)).alloc (.cells (vwC m) 30)).alloc (.cells zero48 33) = w0 at HB ⊢
    go_upto_region 2 with (fail)
    have s5 := (HB.out).at5
    go_wp2_with (first | refine wpList_load_row rfl 33 _ rfl _ rfl _ (vsC (V)) (0, 0) _ s5 Try.underlying33 rfl (by rw [vsC_size]; exact rsSize) ?_ | refine wpList_store_row rfl 33 _ _ rfl (w.heap.size + 1 + 1) (vsC (V)) rfl rfl 33 zero48 (HB.out).at10 (by rw [vsC_size]; exact rsSize) (zero48_size.trans (vsC_size _).symm) (vsC_one _) ?_)
    clear s5
    have HE := Lib.hid ((HB.out).out (vsC (V)))
    generalize w0.setRow (w.heap.size + 1 + 1) (vsC (V)) = WE at HE ⊢
    go_wp2_with fail
    exact bodyPost_ret (v := .tuple #[.agg (vsC (V)), .bool false]) (dresult_sb Try.results12 rfl rfl HE.out.at10) rfl ⟨by rw [hv.out, hk.out], HE.out.low⟩
  by_cases p5 : 3 < mo
  ·
    have hk : Hid (readOk V loc tt mo = false) := Lib.hid (by unfold readOk lowT; simp; omega)
    have hv : Hid (dreadV V loc tt mo m = V) := Lib.hid (by unfold dreadV; rw [hk.out]; rfl)
    go_enter Try.func12, Try.ntmps12
    go_upto_region 1 with (fail)
    generalize ((w.alloc (.cells (vsC V) 33)).alloc (.cells (vwC m) 30)).alloc (.cells zero48 33) = w0 at HB ⊢
    go_upto_region 2 with (fail)
    have s5 := (HB.out).at5
    go_wp2_with (first | refine wpList_load_row rfl 33 _ rfl _ rfl _ (vsC (V)) (0, 0) _ s5 Try.underlying33 rfl (by rw [vsC_size]; exact rsSize) ?_ | refine wpList_store_row rfl 33 _ _ rfl (w.heap.size + 1 + 1) (vsC (V)) rfl rfl 33 zero48 (HB.out).at10 (by rw [vsC_size]; exact rsSize) (zero48_size.trans (vsC_size _).symm) (vsC_one _) ?_)
    clear s5
    have HE := Lib.hid ((HB.out).out (vsC (V)))
    generalize w0.setRow (w.heap.size + 1 + 1) (vsC (V)) = WE at HE ⊢
    go_wp2_with fail
    exact bodyPost_ret (v := .tuple #[.agg (vsC (V)), .bool false]) (dresult_sb Try.results12 rfl rfl HE.out.at10) rfl ⟨by rw [hv.out, hk.out], HE.out.low⟩
  obtain ⟨l, hloc⟩ : ∃ l : Nat, loc = (l : Int) := ⟨loc.toNat, by omega⟩
  have hl : l < 4 := by omega
  have HL := Lib.hid hl
  have HN : Hid (loc.toNat = l) := Lib.hid (by omega)
  have hlow : lowT loc tt = true := by simp [lowT]; omega
  by_cases h1 : mo = 1
  ·
    subst h1
    by_cases hfr : tt < V 0 l
    ·
      have hk : Hid (readOk V loc tt 1 = false) := Lib.hid (by unfold readOk; rw [HN.out]; simp [hlow]; omega)
      have hv : Hid (dreadV V loc tt 1 m = V) := Lib.hid (by unfold dreadV; rw [hk.out]; rfl)
      clear hlow
      subst hloc
      go_enter Try.func12, Try.ntmps12
      go_upto_region 1 with (fail)
      generalize ((w.alloc (.cells (vsC V) 33)).alloc (.cells (vwC m) 30)).alloc (.cells zero48 33) = w0 at HB ⊢
      have d0 : w0.cell? ⟨w.heap.size, 4 + l, none⟩ = some (.int .i64 (V 0 (l + 4))) := by rw [Nat.add_comm 4 l]; exact HB.out.cur (l + 4) (by have := HL.out; omega)
      have d1 : w0.cell? ⟨w.heap.size, l, none⟩ = some (.int .i64 (V 0 l)) := HB.out.cur l (by have := HL.out; omega)
      have i0 : (0 : Int) ≤ (l : Int) := by omega
      have i4 : (l : Int) < 4 := by have := HL.out; omega
      go_upto_region 4 with (fail)
      clear d0 d1
      have s5 := (HB.out).at5
      go_wp2_with (first | refine wpList_load_row rfl 33 _ rfl _ rfl _ (vsC (V)) (0, 0) _ s5 Try.underlying33 rfl (by rw [vsC_size]; exact rsSize) ?_ | refine wpList_store_row rfl 33 _ _ rfl (w.heap.size + 1 + 1) (vsC (V)) rfl rfl 33 zero48 (HB.out).at10 (by rw [vsC_size]; exact rsSize) (zero48_size.trans (vsC_size _).symm) (vsC_one _) ?_)
      clear s5
      have HE := Lib.hid ((HB.out).out (vsC (V)))
      generalize w0.setRow (w.heap.size + 1 + 1) (vsC (V)) = WE at HE ⊢
      go_wp2_with fail
      exact bodyPost_ret (v := .tuple #[.agg (vsC (V)), .bool false]) (dresult_sb Try.results12 rfl rfl HE.out.at10) rfl ⟨by rw [hv.out, hk.out], HE.out.low⟩
    have hk : Hid (readOk V loc tt 1 = true) := Lib.hid (by unfold readOk; rw [HN.out]; simp [hlow]; omega)
    have hv : Hid (dreadV V loc tt 1 m = setV (setV V 0 (knowsF (V 0) l tt false)) 1 (knowsF (V 1) l tt false)) := Lib.hid (by
      unfold dreadV
      rw [hk.out, HN.out]
      unfold dreadF
      simp)
    clear hlow
    subst hloc
    go_enter Try.func12, Try.ntmps12
    go_upto_region 1 with (fail)
    generalize ((w.alloc (.cells (vsC V) 33)).alloc (.cells (vwC m) 30)).alloc (.cells zero48 33) = w0 at HB ⊢
    have d0 : w0.cell? ⟨w.heap.size, 4 + l, none⟩ = some (.int .i64 (V 0 (l + 4))) := by rw [Nat.add_comm 4 l]; exact HB.out.cur (l + 4) (by have := HL.out; omega)
    have d1 : w0.cell? ⟨w.heap.size, l, none⟩ = some (.int .i64 (V 0 l)) := HB.out.cur l (by have := HL.out; omega)
    have i0 : (0 : Int) ≤ (l : Int) := by omega
    have i4 : (l : Int) < 4 := by have := HL.out; omega
    go_upto_region 5 with (fail)
    clear d0 d1 hfr
    refine wp_flowS1 [some 56, some 57, some 58, some 59, some 60, some 61, some 62, some 63, none] [8] [0, 0, 0, 0, 0, 0, 0, 0, 0] [eqV (.pointer (some ⟨w.heap.size, 0, none⟩)), eqV (.agg (vwC (V 0))), eqV (.int .i64 (l : Nat)), eqV (.int .i64 tt), eqV (.int .u8 1), eqV (.bool false), eqV (.agg (vwC (knowsF (V 0) l tt false))), eqV (.pointer (some ⟨w.heap.size, 0, none⟩)), fun _ _ => True] (fun j W => match j with | 0 => RdD w (V) m zero48 W | _ => RdD w (setV V 0 (knowsF (V 0) l tt false)) m zero48 W) (by kernel_rfl) (by kernel_rfl) (by kernel_rfl) (by rfl)
      (by simp only [List.mem_cons, List.not_mem_nil, or_false, forall_eq_or_imp, forall_eq]; refine ⟨?_, ?_, ?_, ?_, ?_, ?_, ?_, ?_, ?_⟩ <;> (first | exact eqV_monoB _ _ | exact rowB_mono _ _ _ _ | exact true_monoB _))
      (fun j W W' h hb => by rcases j with _ | j <;> first | exact (RdD.grown h hb)) (HB.out) ?_ ?_ ?_
    · intro i o hi ho hc j A W hj hz hMj hk he
      simp only [List.length_cons, List.length_nil, Nat.zero_add, Nat.reduceAdd] at hi
      obtain rfl | rfl | rfl | rfl | rfl | rfl | rfl | rfl | rfl : i = 0 ∨ i = 1 ∨ i = 2 ∨ i = 3 ∨ i = 4 ∨ i = 5 ∨ i = 6 ∨ i = 7 ∨ i = 8 := by omega
      · injection ho with ho; subst ho
        refine .inl ⟨wanted_free rfl, ?_⟩
        have h5 : A.tmps[5]?.getD undef = .pointer (some ⟨w.heap.size, 0, none⟩) := hk 5 (by rfl)
        go_simp
        exact ⟨rfl, Below.refl _ _⟩
      · obtain rfl : j = 0 := hj
        have hMs : RdD w (V) m zero48 W := hMj
        injection ho with ho; subst ho
        refine .inl ⟨wanted_free rfl, ?_⟩
        have h56 : A.tmps[56]?.getD undef = .pointer (some ⟨w.heap.size, 0, none⟩) := he 0 (by kernel_rfl) (by rfl)
        exact y_load (cs := vwC (V 0)) rfl h56 (vs_range (V := V) (hMs.at5) (0) _ (by omega) rfl) Try.underlying30 rfl rvSize
      · injection ho with ho; subst ho
        refine .inl ⟨wanted_free rfl, ?_⟩
        have h1 : A.tmps[1]?.getD undef = .int .i64 (l : Nat) := hk 1 (by rfl)
        go_simp
        exact ⟨rfl, Below.refl _ _⟩
      · injection ho with ho; subst ho
        refine .inl ⟨wanted_free rfl, ?_⟩
        have h2 : A.tmps[2]?.getD undef = .int .i64 tt := hk 2 (by rfl)
        go_simp
        exact ⟨rfl, Below.refl _ _⟩
      · injection ho with ho; subst ho
        refine .inl ⟨wanted_free rfl, ?_⟩
        have h3 : A.tmps[3]?.getD undef = .int .u8 1 := hk 3 (by rfl)
        go_simp
        exact ⟨rfl, Below.refl _ _⟩
      · injection ho with ho; subst ho
        refine .inl ⟨wanted_free rfl, ?_⟩
        have h60 : A.tmps[60]?.getD undef = .int .u8 1 := he 4 (by kernel_rfl) (by rfl)
        go_simp
        exact ⟨rfl, Below.refl _ _⟩
      · obtain rfl : j = 0 := hj
        have hMs : RdD w (V) m zero48 W := hMj
        injection ho with ho; subst ho
        refine .inl ⟨wanted_free rfl, ?_⟩
        have h57 : A.tmps[57]?.getD undef = .agg (vwC (V 0)) := he 1 (by kernel_rfl) (by rfl)
        have h58 : A.tmps[58]?.getD undef = .int .i64 (l : Nat) := he 2 (by kernel_rfl) (by rfl)
        have h59 : A.tmps[59]?.getD undef = .int .i64 tt := he 3 (by kernel_rfl) (by rfl)
        have h61 : A.tmps[61]?.getD undef = .bool false := he 5 (by kernel_rfl) (by rfl)
        go_simp
        refine Calls.mono (knows_any (V 0) l HL.out tt false W) ?_
        rintro e' w' ⟨rfl, hb⟩
        exact ⟨_, rfl, rfl, hb⟩
      · injection ho with ho; subst ho
        refine .inl ⟨wanted_free rfl, ?_⟩
        have h5 : A.tmps[5]?.getD undef = .pointer (some ⟨w.heap.size, 0, none⟩) := hk 5 (by rfl)
        go_simp
        exact ⟨rfl, Below.refl _ _⟩
      · exact absurd hc (by decide)
    · intro j i o hji ho A W hz hMj hk he
      rcases j with _ | j
      · obtain rfl : 8 = i := Option.some.inj hji
        injection ho with ho; subst ho
        refine .inl ⟨wanted_free rfl, ?_⟩
        have hMs : RdD w (V) m zero48 W := hMj
        have h63 : A.tmps[63]?.getD undef = .pointer (some ⟨w.heap.size, 0, none⟩) := he 7 (by kernel_rfl) (by rfl)
        have h62 : A.tmps[62]?.getD undef = .agg (vwC (knowsF (V 0) l tt false)) := he 6 (by kernel_rfl) (by rfl)
        exact y_storeK rfl h63 h62 hMs.at5 (k := 0) (by omega) rfl rvSize (by have := HB.out.grow; omega) (fun _ _ => trivial) (hMs.setK 0 _ _ rfl)
      · simp at hji
    · intro xs W hz hMe hV
      have hMe : RdD w (setV V 0 (knowsF (V 0) l tt false)) m zero48 W := hMe
      simp only [putM, Act.put, List.setIfInBounds_toArray, List.set_cons_zero, List.set_cons_succ, Nat.zero_add, Nat.reduceAdd]
      clear hV
      generalize W = X1 at hMe ⊢
      have HX1 := Lib.hid hMe
      clear hMe hz HB
      go_upto_region 6 with (fail)
      refine wp_flowS1 [some 64, some 65, some 66, some 67, some 68, some 69, some 70, some 71, none] [8] [0, 0, 0, 0, 0, 0, 0, 0, 0] [eqV (.pointer (some ⟨w.heap.size, 8, none⟩)), eqV (.agg (vwC (V 1))), eqV (.int .i64 (l : Nat)), eqV (.int .i64 tt), eqV (.int .u8 1), eqV (.bool false), eqV (.agg (vwC (knowsF (V 1) l tt false))), eqV (.pointer (some ⟨w.heap.size, 8, none⟩)), fun _ _ => True] (fun j W => match j with | 0 => RdD w (setV V 0 (knowsF (V 0) l tt false)) m zero48 W | _ => RdD w (setV (setV V 0 (knowsF (V 0) l tt false)) 1 (knowsF (V 1) l tt false)) m zero48 W) (by kernel_rfl) (by kernel_rfl) (by kernel_rfl) (by rfl)
        (by simp only [List.mem_cons, List.not_mem_nil, or_false, forall_eq_or_imp, forall_eq]; refine ⟨?_, ?_, ?_, ?_, ?_, ?_, ?_, ?_, ?_⟩ <;> (first | exact eqV_monoB _ _ | exact rowB_mono _ _ _ _ | exact true_monoB _))
        (fun j W W' h hb => by rcases j with _ | j <;> first | exact (RdD.grown h hb)) (HX1.out) ?_ ?_ ?_
      · intro i o hi ho hc j A W hj hz hMj hk he
        simp only [List.length_cons, List.length_nil, Nat.zero_add, Nat.reduceAdd] at hi
        obtain rfl | rfl | rfl | rfl | rfl | rfl | rfl | rfl | rfl : i = 0 ∨ i = 1 ∨ i = 2 ∨ i = 3 ∨ i = 4 ∨ i = 5 ∨ i = 6 ∨ i = 7 ∨ i = 8 := by omega
        · injection ho with ho; subst ho
          refine .inl ⟨wanted_free rfl, ?_⟩
          have h5 : A.tmps[5]?.getD undef = .pointer (some ⟨w.heap.size, 0, none⟩) := hk 5 (by rfl)
          go_simp
          exact ⟨rfl, Below.refl _ _⟩
        · obtain rfl : j = 0 := hj
          have hMs : RdD w (setV V 0 (knowsF (V 0) l tt false)) m zero48 W := hMj
          injection ho with ho; subst ho
          refine .inl ⟨wanted_free rfl, ?_⟩
          have h64 : A.tmps[64]?.getD undef = .pointer (some ⟨w.heap.size, 8, none⟩) := he 0 (by kernel_rfl) (by rfl)
          exact y_load (cs := vwC (V 1)) rfl h64 (vs_range (V := setV V 0 (knowsF (V 0) l tt false)) (hMs.at5) (1) _ (by omega) rfl) Try.underlying30 rfl rvSize
        · injection ho with ho; subst ho
          refine .inl ⟨wanted_free rfl, ?_⟩
          have h1 : A.tmps[1]?.getD undef = .int .i64 (l : Nat) := hk 1 (by rfl)
          go_simp
          exact ⟨rfl, Below.refl _ _⟩
        · injection ho with ho; subst ho
          refine .inl ⟨wanted_free rfl, ?_⟩
          have h2 : A.tmps[2]?.getD undef = .int .i64 tt := hk 2 (by rfl)
          go_simp
          exact ⟨rfl, Below.refl _ _⟩
        · injection ho with ho; subst ho
          refine .inl ⟨wanted_free rfl, ?_⟩
          have h3 : A.tmps[3]?.getD undef = .int .u8 1 := hk 3 (by rfl)
          go_simp
          exact ⟨rfl, Below.refl _ _⟩
        · injection ho with ho; subst ho
          refine .inl ⟨wanted_free rfl, ?_⟩
          have h68 : A.tmps[68]?.getD undef = .int .u8 1 := he 4 (by kernel_rfl) (by rfl)
          go_simp
          exact ⟨rfl, Below.refl _ _⟩
        · obtain rfl : j = 0 := hj
          have hMs : RdD w (setV V 0 (knowsF (V 0) l tt false)) m zero48 W := hMj
          injection ho with ho; subst ho
          refine .inl ⟨wanted_free rfl, ?_⟩
          have h65 : A.tmps[65]?.getD undef = .agg (vwC (V 1)) := he 1 (by kernel_rfl) (by rfl)
          have h66 : A.tmps[66]?.getD undef = .int .i64 (l : Nat) := he 2 (by kernel_rfl) (by rfl)
          have h67 : A.tmps[67]?.getD undef = .int .i64 tt := he 3 (by kernel_rfl) (by rfl)
          have h69 : A.tmps[69]?.getD undef = .bool false := he 5 (by kernel_rfl) (by rfl)
          go_simp
          refine Calls.mono (knows_any (V 1) l HL.out tt false W) ?_
          rintro e' w' ⟨rfl, hb⟩
          exact ⟨_, rfl, rfl, hb⟩
        · injection ho with ho; subst ho
          refine .inl ⟨wanted_free rfl, ?_⟩
          have h5 : A.tmps[5]?.getD undef = .pointer (some ⟨w.heap.size, 0, none⟩) := hk 5 (by rfl)
          go_simp
          exact ⟨rfl, Below.refl _ _⟩
        · exact absurd hc (by decide)
      · intro j i o hji ho A W hz hMj hk he
        rcases j with _ | j
        · obtain rfl : 8 = i := Option.some.inj hji
          injection ho with ho; subst ho
          refine .inl ⟨wanted_free rfl, ?_⟩
          have hMs : RdD w (setV V 0 (knowsF (V 0) l tt false)) m zero48 W := hMj
          have h71 : A.tmps[71]?.getD undef = .pointer (some ⟨w.heap.size, 8, none⟩) := he 7 (by kernel_rfl) (by rfl)
          have h70 : A.tmps[70]?.getD undef = .agg (vwC (knowsF (V 1) l tt false)) := he 6 (by kernel_rfl) (by rfl)
          exact y_storeK rfl h71 h70 hMs.at5 (k := 1) (by omega) rfl rvSize (by have := HX1.out.grow; omega) (fun _ _ => trivial) (hMs.setK 1 _ _ rfl)
        · simp at hji
      · intro xs W hz hMe hV
        have hMe : RdD w (setV (setV V 0 (knowsF (V 0) l tt false)) 1 (knowsF (V 1) l tt false)) m zero48 W := hMe
        simp only [putM, Act.put, List.setIfInBounds_toArray, List.set_cons_zero, List.set_cons_succ, Nat.zero_add, Nat.reduceAdd]
        clear hV
        generalize W = X2 at hMe ⊢
        have HX2 := Lib.hid hMe
        clear hMe hz HX1
        go_upto_region 11 with (fail)
        have HF := Lib.hid HX2.out
        have s5 := (HF.out).at5
        go_wp2_with (first | refine wpList_load_row rfl 33 _ rfl _ rfl _ (vsC (setV (setV V 0 (knowsF (V 0) l tt false)) 1 (knowsF (V 1) l tt false))) (0, 0) _ s5 Try.underlying33 rfl (by rw [vsC_size]; exact rsSize) ?_ | refine wpList_store_row rfl 33 _ _ rfl (w.heap.size + 1 + 1) (vsC (setV (setV V 0 (knowsF (V 0) l tt false)) 1 (knowsF (V 1) l tt false))) rfl rfl 33 zero48 (HF.out).at10 (by rw [vsC_size]; exact rsSize) (zero48_size.trans (vsC_size _).symm) (vsC_one _) ?_)
        clear s5
        have HE := Lib.hid ((HF.out).out (vsC (setV (setV V 0 (knowsF (V 0) l tt false)) 1 (knowsF (V 1) l tt false))))
        generalize X2.setRow (w.heap.size + 1 + 1) (vsC (setV (setV V 0 (knowsF (V 0) l tt false)) 1 (knowsF (V 1) l tt false))) = WE at HE ⊢
        go_wp2_with fail
        exact bodyPost_ret (v := .tuple #[.agg (vsC (setV (setV V 0 (knowsF (V 0) l tt false)) 1 (knowsF (V 1) l tt false))), .bool true]) (dresult_sb Try.results12 rfl rfl HE.out.at10) rfl ⟨by rw [hv.out, hk.out], HE.out.low⟩
  by_cases h2 : mo = 2
  ·
    subst h2
    by_cases hfr : tt < V 0 (l + 4)
    ·
      have hk : Hid (readOk V loc tt 2 = false) := Lib.hid (by unfold readOk; rw [HN.out]; simp [hlow]; omega)
      have hv : Hid (dreadV V loc tt 2 m = V) := Lib.hid (by unfold dreadV; rw [hk.out]; rfl)
      clear hlow
      subst hloc
      go_enter Try.func12, Try.ntmps12
      go_upto_region 1 with (fail)
      generalize ((w.alloc (.cells (vsC V) 33)).alloc (.cells (vwC m) 30)).alloc (.cells zero48 33) = w0 at HB ⊢
      have d0 : w0.cell? ⟨w.heap.size, 4 + l, none⟩ = some (.int .i64 (V 0 (l + 4))) := by rw [Nat.add_comm 4 l]; exact HB.out.cur (l + 4) (by have := HL.out; omega)
      have d1 : w0.cell? ⟨w.heap.size, l, none⟩ = some (.int .i64 (V 0 l)) := HB.out.cur l (by have := HL.out; omega)
      have i0 : (0 : Int) ≤ (l : Int) := by omega
      have i4 : (l : Int) < 4 := by have := HL.out; omega
      go_upto_region 4 with (fail)
      clear d0 d1
      have s5 := (HB.out).at5
      go_wp2_with (first | refine wpList_load_row rfl 33 _ rfl _ rfl _ (vsC (V)) (0, 0) _ s5 Try.underlying33 rfl (by rw [vsC_size]; exact rsSize) ?_ | refine wpList_store_row rfl 33 _ _ rfl (w.heap.size + 1 + 1) (vsC (V)) rfl rfl 33 zero48 (HB.out).at10 (by rw [vsC_size]; exact rsSize) (zero48_size.trans (vsC_size _).symm) (vsC_one _) ?_)
      clear s5
      have HE := Lib.hid ((HB.out).out (vsC (V)))
      generalize w0.setRow (w.heap.size + 1 + 1) (vsC (V)) = WE at HE ⊢
      go_wp2_with fail
      exact bodyPost_ret (v := .tuple #[.agg (vsC (V)), .bool false]) (dresult_sb Try.results12 rfl rfl HE.out.at10) rfl ⟨by rw [hv.out, hk.out], HE.out.low⟩
    have hk : Hid (readOk V loc tt 2 = true) := Lib.hid (by unfold readOk; rw [HN.out]; simp [hlow]; omega)
    have hv : Hid (dreadV V loc tt 2 m = setV (setV V 0 (knowsF (V 0) l tt true)) 1 (maxF (knowsF (V 1) l tt true) m)) := Lib.hid (by
      unfold dreadV
      rw [hk.out, HN.out]
      unfold dreadF
      simp)
    clear hlow
    subst hloc
    go_enter Try.func12, Try.ntmps12
    go_upto_region 1 with (fail)
    generalize ((w.alloc (.cells (vsC V) 33)).alloc (.cells (vwC m) 30)).alloc (.cells zero48 33) = w0 at HB ⊢
    have d0 : w0.cell? ⟨w.heap.size, 4 + l, none⟩ = some (.int .i64 (V 0 (l + 4))) := by rw [Nat.add_comm 4 l]; exact HB.out.cur (l + 4) (by have := HL.out; omega)
    have d1 : w0.cell? ⟨w.heap.size, l, none⟩ = some (.int .i64 (V 0 l)) := HB.out.cur l (by have := HL.out; omega)
    have i0 : (0 : Int) ≤ (l : Int) := by omega
    have i4 : (l : Int) < 4 := by have := HL.out; omega
    go_upto_region 5 with (fail)
    clear d0 d1 hfr
    refine wp_flowS1 [some 56, some 57, some 58, some 59, some 60, some 61, some 62, some 63, none] [8] [0, 0, 0, 0, 0, 0, 0, 0, 0] [eqV (.pointer (some ⟨w.heap.size, 0, none⟩)), eqV (.agg (vwC (V 0))), eqV (.int .i64 (l : Nat)), eqV (.int .i64 tt), eqV (.int .u8 2), eqV (.bool true), eqV (.agg (vwC (knowsF (V 0) l tt true))), eqV (.pointer (some ⟨w.heap.size, 0, none⟩)), fun _ _ => True] (fun j W => match j with | 0 => RdD w (V) m zero48 W | _ => RdD w (setV V 0 (knowsF (V 0) l tt true)) m zero48 W) (by kernel_rfl) (by kernel_rfl) (by kernel_rfl) (by rfl)
      (by simp only [List.mem_cons, List.not_mem_nil, or_false, forall_eq_or_imp, forall_eq]; refine ⟨?_, ?_, ?_, ?_, ?_, ?_, ?_, ?_, ?_⟩ <;> (first | exact eqV_monoB _ _ | exact rowB_mono _ _ _ _ | exact true_monoB _))
      (fun j W W' h hb => by rcases j with _ | j <;> first | exact (RdD.grown h hb)) (HB.out) ?_ ?_ ?_
    · intro i o hi ho hc j A W hj hz hMj hk he
      simp only [List.length_cons, List.length_nil, Nat.zero_add, Nat.reduceAdd] at hi
      obtain rfl | rfl | rfl | rfl | rfl | rfl | rfl | rfl | rfl : i = 0 ∨ i = 1 ∨ i = 2 ∨ i = 3 ∨ i = 4 ∨ i = 5 ∨ i = 6 ∨ i = 7 ∨ i = 8 := by omega
      · injection ho with ho; subst ho
        refine .inl ⟨wanted_free rfl, ?_⟩
        have h5 : A.tmps[5]?.getD undef = .pointer (some ⟨w.heap.size, 0, none⟩) := hk 5 (by rfl)
        go_simp
        exact ⟨rfl, Below.refl _ _⟩
      · obtain rfl : j = 0 := hj
        have hMs : RdD w (V) m zero48 W := hMj
        injection ho with ho; subst ho
        refine .inl ⟨wanted_free rfl, ?_⟩
        have h56 : A.tmps[56]?.getD undef = .pointer (some ⟨w.heap.size, 0, none⟩) := he 0 (by kernel_rfl) (by rfl)
        exact y_load (cs := vwC (V 0)) rfl h56 (vs_range (V := V) (hMs.at5) (0) _ (by omega) rfl) Try.underlying30 rfl rvSize
      · injection ho with ho; subst ho
        refine .inl ⟨wanted_free rfl, ?_⟩
        have h1 : A.tmps[1]?.getD undef = .int .i64 (l : Nat) := hk 1 (by rfl)
        go_simp
        exact ⟨rfl, Below.refl _ _⟩
      · injection ho with ho; subst ho
        refine .inl ⟨wanted_free rfl, ?_⟩
        have h2 : A.tmps[2]?.getD undef = .int .i64 tt := hk 2 (by rfl)
        go_simp
        exact ⟨rfl, Below.refl _ _⟩
      · injection ho with ho; subst ho
        refine .inl ⟨wanted_free rfl, ?_⟩
        have h3 : A.tmps[3]?.getD undef = .int .u8 2 := hk 3 (by rfl)
        go_simp
        exact ⟨rfl, Below.refl _ _⟩
      · injection ho with ho; subst ho
        refine .inl ⟨wanted_free rfl, ?_⟩
        have h60 : A.tmps[60]?.getD undef = .int .u8 2 := he 4 (by kernel_rfl) (by rfl)
        go_simp
        exact ⟨rfl, Below.refl _ _⟩
      · obtain rfl : j = 0 := hj
        have hMs : RdD w (V) m zero48 W := hMj
        injection ho with ho; subst ho
        refine .inl ⟨wanted_free rfl, ?_⟩
        have h57 : A.tmps[57]?.getD undef = .agg (vwC (V 0)) := he 1 (by kernel_rfl) (by rfl)
        have h58 : A.tmps[58]?.getD undef = .int .i64 (l : Nat) := he 2 (by kernel_rfl) (by rfl)
        have h59 : A.tmps[59]?.getD undef = .int .i64 tt := he 3 (by kernel_rfl) (by rfl)
        have h61 : A.tmps[61]?.getD undef = .bool true := he 5 (by kernel_rfl) (by rfl)
        go_simp
        refine Calls.mono (knows_any (V 0) l HL.out tt true W) ?_
        rintro e' w' ⟨rfl, hb⟩
        exact ⟨_, rfl, rfl, hb⟩
      · injection ho with ho; subst ho
        refine .inl ⟨wanted_free rfl, ?_⟩
        have h5 : A.tmps[5]?.getD undef = .pointer (some ⟨w.heap.size, 0, none⟩) := hk 5 (by rfl)
        go_simp
        exact ⟨rfl, Below.refl _ _⟩
      · exact absurd hc (by decide)
    · intro j i o hji ho A W hz hMj hk he
      rcases j with _ | j
      · obtain rfl : 8 = i := Option.some.inj hji
        injection ho with ho; subst ho
        refine .inl ⟨wanted_free rfl, ?_⟩
        have hMs : RdD w (V) m zero48 W := hMj
        have h63 : A.tmps[63]?.getD undef = .pointer (some ⟨w.heap.size, 0, none⟩) := he 7 (by kernel_rfl) (by rfl)
        have h62 : A.tmps[62]?.getD undef = .agg (vwC (knowsF (V 0) l tt true)) := he 6 (by kernel_rfl) (by rfl)
        exact y_storeK rfl h63 h62 hMs.at5 (k := 0) (by omega) rfl rvSize (by have := HB.out.grow; omega) (fun _ _ => trivial) (hMs.setK 0 _ _ rfl)
      · simp at hji
    · intro xs W hz hMe hV
      have hMe : RdD w (setV V 0 (knowsF (V 0) l tt true)) m zero48 W := hMe
      simp only [putM, Act.put, List.setIfInBounds_toArray, List.set_cons_zero, List.set_cons_succ, Nat.zero_add, Nat.reduceAdd]
      clear hV
      generalize W = X1 at hMe ⊢
      have HX1 := Lib.hid hMe
      clear hMe hz HB
      go_upto_region 6 with (fail)
      refine wp_flowS1 [some 64, some 65, some 66, some 67, some 68, some 69, some 70, some 71, none] [8] [0, 0, 0, 0, 0, 0, 0, 0, 0] [eqV (.pointer (some ⟨w.heap.size, 8, none⟩)), eqV (.agg (vwC (V 1))), eqV (.int .i64 (l : Nat)), eqV (.int .i64 tt), eqV (.int .u8 2), eqV (.bool true), eqV (.agg (vwC (knowsF (V 1) l tt true))), eqV (.pointer (some ⟨w.heap.size, 8, none⟩)), fun _ _ => True] (fun j W => match j with | 0 => RdD w (setV V 0 (knowsF (V 0) l tt true)) m zero48 W | _ => RdD w (setV (setV V 0 (knowsF (V 0) l tt true)) 1 (knowsF (V 1) l tt true)) m zero48 W) (by kernel_rfl) (by kernel_rfl) (by kernel_rfl) (by rfl)
        (by simp only [List.mem_cons, List.not_mem_nil, or_false, forall_eq_or_imp, forall_eq]; refine ⟨?_, ?_, ?_, ?_, ?_, ?_, ?_, ?_, ?_⟩ <;> (first | exact eqV_monoB _ _ | exact rowB_mono _ _ _ _ | exact true_monoB _))
        (fun j W W' h hb => by rcases j with _ | j <;> first | exact (RdD.grown h hb)) (HX1.out) ?_ ?_ ?_
      · intro i o hi ho hc j A W hj hz hMj hk he
        simp only [List.length_cons, List.length_nil, Nat.zero_add, Nat.reduceAdd] at hi
        obtain rfl | rfl | rfl | rfl | rfl | rfl | rfl | rfl | rfl : i = 0 ∨ i = 1 ∨ i = 2 ∨ i = 3 ∨ i = 4 ∨ i = 5 ∨ i = 6 ∨ i = 7 ∨ i = 8 := by omega
        · injection ho with ho; subst ho
          refine .inl ⟨wanted_free rfl, ?_⟩
          have h5 : A.tmps[5]?.getD undef = .pointer (some ⟨w.heap.size, 0, none⟩) := hk 5 (by rfl)
          go_simp
          exact ⟨rfl, Below.refl _ _⟩
        · obtain rfl : j = 0 := hj
          have hMs : RdD w (setV V 0 (knowsF (V 0) l tt true)) m zero48 W := hMj
          injection ho with ho; subst ho
          refine .inl ⟨wanted_free rfl, ?_⟩
          have h64 : A.tmps[64]?.getD undef = .pointer (some ⟨w.heap.size, 8, none⟩) := he 0 (by kernel_rfl) (by rfl)
          exact y_load (cs := vwC (V 1)) rfl h64 (vs_range (V := setV V 0 (knowsF (V 0) l tt true)) (hMs.at5) (1) _ (by omega) rfl) Try.underlying30 rfl rvSize
        · injection ho with ho; subst ho
          refine .inl ⟨wanted_free rfl, ?_⟩
          have h1 : A.tmps[1]?.getD undef = .int .i64 (l : Nat) := hk 1 (by rfl)
          go_simp
          exact ⟨rfl, Below.refl _ _⟩
        · injection ho with ho; subst ho
          refine .inl ⟨wanted_free rfl, ?_⟩
          have h2 : A.tmps[2]?.getD undef = .int .i64 tt := hk 2 (by rfl)
          go_simp
          exact ⟨rfl, Below.refl _ _⟩
        · injection ho with ho; subst ho
          refine .inl ⟨wanted_free rfl, ?_⟩
          have h3 : A.tmps[3]?.getD undef = .int .u8 2 := hk 3 (by rfl)
          go_simp
          exact ⟨rfl, Below.refl _ _⟩
        · injection ho with ho; subst ho
          refine .inl ⟨wanted_free rfl, ?_⟩
          have h68 : A.tmps[68]?.getD undef = .int .u8 2 := he 4 (by kernel_rfl) (by rfl)
          go_simp
          exact ⟨rfl, Below.refl _ _⟩
        · obtain rfl : j = 0 := hj
          have hMs : RdD w (setV V 0 (knowsF (V 0) l tt true)) m zero48 W := hMj
          injection ho with ho; subst ho
          refine .inl ⟨wanted_free rfl, ?_⟩
          have h65 : A.tmps[65]?.getD undef = .agg (vwC (V 1)) := he 1 (by kernel_rfl) (by rfl)
          have h66 : A.tmps[66]?.getD undef = .int .i64 (l : Nat) := he 2 (by kernel_rfl) (by rfl)
          have h67 : A.tmps[67]?.getD undef = .int .i64 tt := he 3 (by kernel_rfl) (by rfl)
          have h69 : A.tmps[69]?.getD undef = .bool true := he 5 (by kernel_rfl) (by rfl)
          go_simp
          refine Calls.mono (knows_any (V 1) l HL.out tt true W) ?_
          rintro e' w' ⟨rfl, hb⟩
          exact ⟨_, rfl, rfl, hb⟩
        · injection ho with ho; subst ho
          refine .inl ⟨wanted_free rfl, ?_⟩
          have h5 : A.tmps[5]?.getD undef = .pointer (some ⟨w.heap.size, 0, none⟩) := hk 5 (by rfl)
          go_simp
          exact ⟨rfl, Below.refl _ _⟩
        · exact absurd hc (by decide)
      · intro j i o hji ho A W hz hMj hk he
        rcases j with _ | j
        · obtain rfl : 8 = i := Option.some.inj hji
          injection ho with ho; subst ho
          refine .inl ⟨wanted_free rfl, ?_⟩
          have hMs : RdD w (setV V 0 (knowsF (V 0) l tt true)) m zero48 W := hMj
          have h71 : A.tmps[71]?.getD undef = .pointer (some ⟨w.heap.size, 8, none⟩) := he 7 (by kernel_rfl) (by rfl)
          have h70 : A.tmps[70]?.getD undef = .agg (vwC (knowsF (V 1) l tt true)) := he 6 (by kernel_rfl) (by rfl)
          exact y_storeK rfl h71 h70 hMs.at5 (k := 1) (by omega) rfl rvSize (by have := HX1.out.grow; omega) (fun _ _ => trivial) (hMs.setK 1 _ _ rfl)
        · simp at hji
      · intro xs W hz hMe hV
        have hMe : RdD w (setV (setV V 0 (knowsF (V 0) l tt true)) 1 (knowsF (V 1) l tt true)) m zero48 W := hMe
        simp only [putM, Act.put, List.setIfInBounds_toArray, List.set_cons_zero, List.set_cons_succ, Nat.zero_add, Nat.reduceAdd]
        clear hV
        generalize W = X2 at hMe ⊢
        have HX2 := Lib.hid hMe
        clear hMe hz HX1
        go_upto_region 10 with (fail)
        refine wp_flowS1 [some 81, some 82, some 83, some 84, some 85, none] [5] [0, 0, 0, 0, 0, 0] [eqV (.pointer (some ⟨w.heap.size, 8, none⟩)), eqV (.agg (vwC (knowsF (V 1) l tt true))), eqV (.agg (vwC (m))), eqV (.agg (vwC (maxF (knowsF (V 1) l tt true) m))), eqV (.pointer (some ⟨w.heap.size, 8, none⟩)), fun _ _ => True] (fun j W => match j with | 0 => RdD w (setV (setV V 0 (knowsF (V 0) l tt true)) 1 (knowsF (V 1) l tt true)) m zero48 W | _ => RdD w (setV (setV (setV V 0 (knowsF (V 0) l tt true)) 1 (knowsF (V 1) l tt true)) 1 (maxF (knowsF (V 1) l tt true) m)) m zero48 W) (by kernel_rfl) (by kernel_rfl) (by kernel_rfl) (by rfl)
          (by simp only [List.mem_cons, List.not_mem_nil, or_false, forall_eq_or_imp, forall_eq]; refine ⟨?_, ?_, ?_, ?_, ?_, ?_⟩ <;> (first | exact eqV_monoB _ _ | exact rowB_mono _ _ _ _ | exact true_monoB _))
          (fun j W W' h hb => by rcases j with _ | j <;> first | exact (RdD.grown h hb)) (HX2.out) ?_ ?_ ?_
        · intro i o hi ho hc j A W hj hz hMj hk he
          simp only [List.length_cons, List.length_nil, Nat.zero_add, Nat.reduceAdd] at hi
          obtain rfl | rfl | rfl | rfl | rfl | rfl : i = 0 ∨ i = 1 ∨ i = 2 ∨ i = 3 ∨ i = 4 ∨ i = 5 := by omega
          · injection ho with ho; subst ho
            refine .inl ⟨wanted_free rfl, ?_⟩
            have h5 : A.tmps[5]?.getD undef = .pointer (some ⟨w.heap.size, 0, none⟩) := hk 5 (by rfl)
            go_simp
            exact ⟨rfl, Below.refl _ _⟩
          · obtain rfl : j = 0 := hj
            have hMs : RdD w (setV (setV V 0 (knowsF (V 0) l tt true)) 1 (knowsF (V 1) l tt true)) m zero48 W := hMj
            injection ho with ho; subst ho
            refine .inl ⟨wanted_free rfl, ?_⟩
            have h81 : A.tmps[81]?.getD undef = .pointer (some ⟨w.heap.size, 8, none⟩) := he 0 (by kernel_rfl) (by rfl)
            exact y_load (cs := vwC (knowsF (V 1) l tt true)) rfl h81 (vs_range (V := setV (setV V 0 (knowsF (V 0) l tt true)) 1 (knowsF (V 1) l tt true)) (hMs.at5) (1) _ (by omega) rfl) Try.underlying30 rfl rvSize
          · obtain rfl : j = 0 := hj
            have hMs : RdD w (setV (setV V 0 (knowsF (V 0) l tt true)) 1 (knowsF (V 1) l tt true)) m zero48 W := hMj
            injection ho with ho; subst ho
            refine .inl ⟨wanted_free rfl, ?_⟩
            have h9 : A.tmps[9]?.getD undef = .pointer (some ⟨w.heap.size + 1, 0, none⟩) := hk 9 (by rfl)
            exact y_load (cs := vwC (m)) rfl h9 (sits_range (hMs.at9)) Try.underlying30 rfl rvSize
          · obtain rfl : j = 0 := hj
            have hMs : RdD w (setV (setV V 0 (knowsF (V 0) l tt true)) 1 (knowsF (V 1) l tt true)) m zero48 W := hMj
            injection ho with ho; subst ho
            refine .inl ⟨wanted_free rfl, ?_⟩
            have h82 : A.tmps[82]?.getD undef = .agg (vwC (knowsF (V 1) l tt true)) := he 1 (by kernel_rfl) (by rfl)
            have h83 : A.tmps[83]?.getD undef = .agg (vwC (m)) := he 2 (by kernel_rfl) (by rfl)
            go_simp
            refine Calls.mono (djoin_any (knowsF (V 1) l tt true) m W) ?_
            rintro e' w' ⟨rfl, hb⟩
            exact ⟨_, rfl, rfl, hb⟩
          · injection ho with ho; subst ho
            refine .inl ⟨wanted_free rfl, ?_⟩
            have h5 : A.tmps[5]?.getD undef = .pointer (some ⟨w.heap.size, 0, none⟩) := hk 5 (by rfl)
            go_simp
            exact ⟨rfl, Below.refl _ _⟩
          · exact absurd hc (by decide)
        · intro j i o hji ho A W hz hMj hk he
          rcases j with _ | j
          · obtain rfl : 5 = i := Option.some.inj hji
            injection ho with ho; subst ho
            refine .inl ⟨wanted_free rfl, ?_⟩
            have hMs : RdD w (setV (setV V 0 (knowsF (V 0) l tt true)) 1 (knowsF (V 1) l tt true)) m zero48 W := hMj
            have h85 : A.tmps[85]?.getD undef = .pointer (some ⟨w.heap.size, 8, none⟩) := he 4 (by kernel_rfl) (by rfl)
            have h84 : A.tmps[84]?.getD undef = .agg (vwC (maxF (knowsF (V 1) l tt true) m)) := he 3 (by kernel_rfl) (by rfl)
            exact y_storeK rfl h85 h84 hMs.at5 (k := 1) (by omega) rfl rvSize (by have := HX2.out.grow; omega) (fun _ _ => trivial) (hMs.setK 1 _ _ rfl)
          · simp at hji
        · intro xs W hz hMe hV
          have hMe : RdD w (setV (setV (setV V 0 (knowsF (V 0) l tt true)) 1 (knowsF (V 1) l tt true)) 1 (maxF (knowsF (V 1) l tt true) m)) m zero48 W := hMe
          simp only [putM, Act.put, List.setIfInBounds_toArray, List.set_cons_zero, List.set_cons_succ, Nat.zero_add, Nat.reduceAdd]
          clear hV
          generalize W = X3 at hMe ⊢
          have HX3 := Lib.hid hMe
          clear hMe hz HX2
          go_upto_region 11 with (fail)
          have HF : Hid (RdD w (setV (setV V 0 (knowsF (V 0) l tt true)) 1 (maxF (knowsF (V 1) l tt true) m)) m zero48 X3) := Lib.hid (by
            have h := HX3.out
            rwa [show setV (setV (setV V 0 (knowsF (V 0) l tt true)) 1 (knowsF (V 1) l tt true)) 1 (maxF (knowsF (V 1) l tt true) m) = setV (setV V 0 (knowsF (V 0) l tt true)) 1 (maxF (knowsF (V 1) l tt true) m) by funext j; simp only [setV]; split <;> (try split) <;> simp_all] at h)
          clear HX3
          have s5 := (HF.out).at5
          go_wp2_with (first | refine wpList_load_row rfl 33 _ rfl _ rfl _ (vsC (setV (setV V 0 (knowsF (V 0) l tt true)) 1 (maxF (knowsF (V 1) l tt true) m))) (0, 0) _ s5 Try.underlying33 rfl (by rw [vsC_size]; exact rsSize) ?_ | refine wpList_store_row rfl 33 _ _ rfl (w.heap.size + 1 + 1) (vsC (setV (setV V 0 (knowsF (V 0) l tt true)) 1 (maxF (knowsF (V 1) l tt true) m))) rfl rfl 33 zero48 (HF.out).at10 (by rw [vsC_size]; exact rsSize) (zero48_size.trans (vsC_size _).symm) (vsC_one _) ?_)
          clear s5
          have HE := Lib.hid ((HF.out).out (vsC (setV (setV V 0 (knowsF (V 0) l tt true)) 1 (maxF (knowsF (V 1) l tt true) m))))
          generalize X3.setRow (w.heap.size + 1 + 1) (vsC (setV (setV V 0 (knowsF (V 0) l tt true)) 1 (maxF (knowsF (V 1) l tt true) m))) = WE at HE ⊢
          go_wp2_with fail
          exact bodyPost_ret (v := .tuple #[.agg (vsC (setV (setV V 0 (knowsF (V 0) l tt true)) 1 (maxF (knowsF (V 1) l tt true) m))), .bool true]) (dresult_sb Try.results12 rfl rfl HE.out.at10) rfl ⟨by rw [hv.out, hk.out], HE.out.low⟩
  obtain h3 : mo = 3 := by omega
  subst h3
  by_cases hfr : tt < V 0 (l + 4)
  ·
    have hk : Hid (readOk V loc tt 3 = false) := Lib.hid (by unfold readOk; rw [HN.out]; simp [hlow]; omega)
    have hv : Hid (dreadV V loc tt 3 m = V) := Lib.hid (by unfold dreadV; rw [hk.out]; rfl)
    clear hlow
    subst hloc
    go_enter Try.func12, Try.ntmps12
    go_upto_region 1 with (fail)
    generalize ((w.alloc (.cells (vsC V) 33)).alloc (.cells (vwC m) 30)).alloc (.cells zero48 33) = w0 at HB ⊢
    have d0 : w0.cell? ⟨w.heap.size, 4 + l, none⟩ = some (.int .i64 (V 0 (l + 4))) := by rw [Nat.add_comm 4 l]; exact HB.out.cur (l + 4) (by have := HL.out; omega)
    have d1 : w0.cell? ⟨w.heap.size, l, none⟩ = some (.int .i64 (V 0 l)) := HB.out.cur l (by have := HL.out; omega)
    have i0 : (0 : Int) ≤ (l : Int) := by omega
    have i4 : (l : Int) < 4 := by have := HL.out; omega
    go_upto_region 4 with (fail)
    clear d0 d1
    have s5 := (HB.out).at5
    go_wp2_with (first | refine wpList_load_row rfl 33 _ rfl _ rfl _ (vsC (V)) (0, 0) _ s5 Try.underlying33 rfl (by rw [vsC_size]; exact rsSize) ?_ | refine wpList_store_row rfl 33 _ _ rfl (w.heap.size + 1 + 1) (vsC (V)) rfl rfl 33 zero48 (HB.out).at10 (by rw [vsC_size]; exact rsSize) (zero48_size.trans (vsC_size _).symm) (vsC_one _) ?_)
    clear s5
    have HE := Lib.hid ((HB.out).out (vsC (V)))
    generalize w0.setRow (w.heap.size + 1 + 1) (vsC (V)) = WE at HE ⊢
    go_wp2_with fail
    exact bodyPost_ret (v := .tuple #[.agg (vsC (V)), .bool false]) (dresult_sb Try.results12 rfl rfl HE.out.at10) rfl ⟨by rw [hv.out, hk.out], HE.out.low⟩
  have hk : Hid (readOk V loc tt 3 = true) := Lib.hid (by unfold readOk; rw [HN.out]; simp [hlow]; omega)
  have hv : Hid (dreadV V loc tt 3 m = setV (setV V 0 (maxF (knowsF (V 0) l tt true) m)) 1 (maxF (knowsF (V 1) l tt true) m)) := Lib.hid (by
    unfold dreadV
    rw [hk.out, HN.out]
    unfold dreadF
    simp)
  clear hlow
  subst hloc
  go_enter Try.func12, Try.ntmps12
  go_upto_region 1 with (fail)
  generalize ((w.alloc (.cells (vsC V) 33)).alloc (.cells (vwC m) 30)).alloc (.cells zero48 33) = w0 at HB ⊢
  have d0 : w0.cell? ⟨w.heap.size, 4 + l, none⟩ = some (.int .i64 (V 0 (l + 4))) := by rw [Nat.add_comm 4 l]; exact HB.out.cur (l + 4) (by have := HL.out; omega)
  have d1 : w0.cell? ⟨w.heap.size, l, none⟩ = some (.int .i64 (V 0 l)) := HB.out.cur l (by have := HL.out; omega)
  have i0 : (0 : Int) ≤ (l : Int) := by omega
  have i4 : (l : Int) < 4 := by have := HL.out; omega
  go_upto_region 5 with (fail)
  clear d0 d1 hfr
  refine wp_flowS1 [some 56, some 57, some 58, some 59, some 60, some 61, some 62, some 63, none] [8] [0, 0, 0, 0, 0, 0, 0, 0, 0] [eqV (.pointer (some ⟨w.heap.size, 0, none⟩)), eqV (.agg (vwC (V 0))), eqV (.int .i64 (l : Nat)), eqV (.int .i64 tt), eqV (.int .u8 3), eqV (.bool true), eqV (.agg (vwC (knowsF (V 0) l tt true))), eqV (.pointer (some ⟨w.heap.size, 0, none⟩)), fun _ _ => True] (fun j W => match j with | 0 => RdD w (V) m zero48 W | _ => RdD w (setV V 0 (knowsF (V 0) l tt true)) m zero48 W) (by kernel_rfl) (by kernel_rfl) (by kernel_rfl) (by rfl)
    (by simp only [List.mem_cons, List.not_mem_nil, or_false, forall_eq_or_imp, forall_eq]; refine ⟨?_, ?_, ?_, ?_, ?_, ?_, ?_, ?_, ?_⟩ <;> (first | exact eqV_monoB _ _ | exact rowB_mono _ _ _ _ | exact true_monoB _))
    (fun j W W' h hb => by rcases j with _ | j <;> first | exact (RdD.grown h hb)) (HB.out) ?_ ?_ ?_
  · intro i o hi ho hc j A W hj hz hMj hk he
    simp only [List.length_cons, List.length_nil, Nat.zero_add, Nat.reduceAdd] at hi
    obtain rfl | rfl | rfl | rfl | rfl | rfl | rfl | rfl | rfl : i = 0 ∨ i = 1 ∨ i = 2 ∨ i = 3 ∨ i = 4 ∨ i = 5 ∨ i = 6 ∨ i = 7 ∨ i = 8 := by omega
    · injection ho with ho; subst ho
      refine .inl ⟨wanted_free rfl, ?_⟩
      have h5 : A.tmps[5]?.getD undef = .pointer (some ⟨w.heap.size, 0, none⟩) := hk 5 (by rfl)
      go_simp
      exact ⟨rfl, Below.refl _ _⟩
    · obtain rfl : j = 0 := hj
      have hMs : RdD w (V) m zero48 W := hMj
      injection ho with ho; subst ho
      refine .inl ⟨wanted_free rfl, ?_⟩
      have h56 : A.tmps[56]?.getD undef = .pointer (some ⟨w.heap.size, 0, none⟩) := he 0 (by kernel_rfl) (by rfl)
      exact y_load (cs := vwC (V 0)) rfl h56 (vs_range (V := V) (hMs.at5) (0) _ (by omega) rfl) Try.underlying30 rfl rvSize
    · injection ho with ho; subst ho
      refine .inl ⟨wanted_free rfl, ?_⟩
      have h1 : A.tmps[1]?.getD undef = .int .i64 (l : Nat) := hk 1 (by rfl)
      go_simp
      exact ⟨rfl, Below.refl _ _⟩
    · injection ho with ho; subst ho
      refine .inl ⟨wanted_free rfl, ?_⟩
      have h2 : A.tmps[2]?.getD undef = .int .i64 tt := hk 2 (by rfl)
      go_simp
      exact ⟨rfl, Below.refl _ _⟩
    · injection ho with ho; subst ho
      refine .inl ⟨wanted_free rfl, ?_⟩
      have h3 : A.tmps[3]?.getD undef = .int .u8 3 := hk 3 (by rfl)
      go_simp
      exact ⟨rfl, Below.refl _ _⟩
    · injection ho with ho; subst ho
      refine .inl ⟨wanted_free rfl, ?_⟩
      have h60 : A.tmps[60]?.getD undef = .int .u8 3 := he 4 (by kernel_rfl) (by rfl)
      go_simp
      exact ⟨rfl, Below.refl _ _⟩
    · obtain rfl : j = 0 := hj
      have hMs : RdD w (V) m zero48 W := hMj
      injection ho with ho; subst ho
      refine .inl ⟨wanted_free rfl, ?_⟩
      have h57 : A.tmps[57]?.getD undef = .agg (vwC (V 0)) := he 1 (by kernel_rfl) (by rfl)
      have h58 : A.tmps[58]?.getD undef = .int .i64 (l : Nat) := he 2 (by kernel_rfl) (by rfl)
      have h59 : A.tmps[59]?.getD undef = .int .i64 tt := he 3 (by kernel_rfl) (by rfl)
      have h61 : A.tmps[61]?.getD undef = .bool true := he 5 (by kernel_rfl) (by rfl)
      go_simp
      refine Calls.mono (knows_any (V 0) l HL.out tt true W) ?_
      rintro e' w' ⟨rfl, hb⟩
      exact ⟨_, rfl, rfl, hb⟩
    · injection ho with ho; subst ho
      refine .inl ⟨wanted_free rfl, ?_⟩
      have h5 : A.tmps[5]?.getD undef = .pointer (some ⟨w.heap.size, 0, none⟩) := hk 5 (by rfl)
      go_simp
      exact ⟨rfl, Below.refl _ _⟩
    · exact absurd hc (by decide)
  · intro j i o hji ho A W hz hMj hk he
    rcases j with _ | j
    · obtain rfl : 8 = i := Option.some.inj hji
      injection ho with ho; subst ho
      refine .inl ⟨wanted_free rfl, ?_⟩
      have hMs : RdD w (V) m zero48 W := hMj
      have h63 : A.tmps[63]?.getD undef = .pointer (some ⟨w.heap.size, 0, none⟩) := he 7 (by kernel_rfl) (by rfl)
      have h62 : A.tmps[62]?.getD undef = .agg (vwC (knowsF (V 0) l tt true)) := he 6 (by kernel_rfl) (by rfl)
      exact y_storeK rfl h63 h62 hMs.at5 (k := 0) (by omega) rfl rvSize (by have := HB.out.grow; omega) (fun _ _ => trivial) (hMs.setK 0 _ _ rfl)
    · simp at hji
  · intro xs W hz hMe hV
    have hMe : RdD w (setV V 0 (knowsF (V 0) l tt true)) m zero48 W := hMe
    simp only [putM, Act.put, List.setIfInBounds_toArray, List.set_cons_zero, List.set_cons_succ, Nat.zero_add, Nat.reduceAdd]
    clear hV
    generalize W = X1 at hMe ⊢
    have HX1 := Lib.hid hMe
    clear hMe hz HB
    go_upto_region 6 with (fail)
    refine wp_flowS1 [some 64, some 65, some 66, some 67, some 68, some 69, some 70, some 71, none] [8] [0, 0, 0, 0, 0, 0, 0, 0, 0] [eqV (.pointer (some ⟨w.heap.size, 8, none⟩)), eqV (.agg (vwC (V 1))), eqV (.int .i64 (l : Nat)), eqV (.int .i64 tt), eqV (.int .u8 3), eqV (.bool true), eqV (.agg (vwC (knowsF (V 1) l tt true))), eqV (.pointer (some ⟨w.heap.size, 8, none⟩)), fun _ _ => True] (fun j W => match j with | 0 => RdD w (setV V 0 (knowsF (V 0) l tt true)) m zero48 W | _ => RdD w (setV (setV V 0 (knowsF (V 0) l tt true)) 1 (knowsF (V 1) l tt true)) m zero48 W) (by kernel_rfl) (by kernel_rfl) (by kernel_rfl) (by rfl)
      (by simp only [List.mem_cons, List.not_mem_nil, or_false, forall_eq_or_imp, forall_eq]; refine ⟨?_, ?_, ?_, ?_, ?_, ?_, ?_, ?_, ?_⟩ <;> (first | exact eqV_monoB _ _ | exact rowB_mono _ _ _ _ | exact true_monoB _))
      (fun j W W' h hb => by rcases j with _ | j <;> first | exact (RdD.grown h hb)) (HX1.out) ?_ ?_ ?_
    · intro i o hi ho hc j A W hj hz hMj hk he
      simp only [List.length_cons, List.length_nil, Nat.zero_add, Nat.reduceAdd] at hi
      obtain rfl | rfl | rfl | rfl | rfl | rfl | rfl | rfl | rfl : i = 0 ∨ i = 1 ∨ i = 2 ∨ i = 3 ∨ i = 4 ∨ i = 5 ∨ i = 6 ∨ i = 7 ∨ i = 8 := by omega
      · injection ho with ho; subst ho
        refine .inl ⟨wanted_free rfl, ?_⟩
        have h5 : A.tmps[5]?.getD undef = .pointer (some ⟨w.heap.size, 0, none⟩) := hk 5 (by rfl)
        go_simp
        exact ⟨rfl, Below.refl _ _⟩
      · obtain rfl : j = 0 := hj
        have hMs : RdD w (setV V 0 (knowsF (V 0) l tt true)) m zero48 W := hMj
        injection ho with ho; subst ho
        refine .inl ⟨wanted_free rfl, ?_⟩
        have h64 : A.tmps[64]?.getD undef = .pointer (some ⟨w.heap.size, 8, none⟩) := he 0 (by kernel_rfl) (by rfl)
        exact y_load (cs := vwC (V 1)) rfl h64 (vs_range (V := setV V 0 (knowsF (V 0) l tt true)) (hMs.at5) (1) _ (by omega) rfl) Try.underlying30 rfl rvSize
      · injection ho with ho; subst ho
        refine .inl ⟨wanted_free rfl, ?_⟩
        have h1 : A.tmps[1]?.getD undef = .int .i64 (l : Nat) := hk 1 (by rfl)
        go_simp
        exact ⟨rfl, Below.refl _ _⟩
      · injection ho with ho; subst ho
        refine .inl ⟨wanted_free rfl, ?_⟩
        have h2 : A.tmps[2]?.getD undef = .int .i64 tt := hk 2 (by rfl)
        go_simp
        exact ⟨rfl, Below.refl _ _⟩
      · injection ho with ho; subst ho
        refine .inl ⟨wanted_free rfl, ?_⟩
        have h3 : A.tmps[3]?.getD undef = .int .u8 3 := hk 3 (by rfl)
        go_simp
        exact ⟨rfl, Below.refl _ _⟩
      · injection ho with ho; subst ho
        refine .inl ⟨wanted_free rfl, ?_⟩
        have h68 : A.tmps[68]?.getD undef = .int .u8 3 := he 4 (by kernel_rfl) (by rfl)
        go_simp
        exact ⟨rfl, Below.refl _ _⟩
      · obtain rfl : j = 0 := hj
        have hMs : RdD w (setV V 0 (knowsF (V 0) l tt true)) m zero48 W := hMj
        injection ho with ho; subst ho
        refine .inl ⟨wanted_free rfl, ?_⟩
        have h65 : A.tmps[65]?.getD undef = .agg (vwC (V 1)) := he 1 (by kernel_rfl) (by rfl)
        have h66 : A.tmps[66]?.getD undef = .int .i64 (l : Nat) := he 2 (by kernel_rfl) (by rfl)
        have h67 : A.tmps[67]?.getD undef = .int .i64 tt := he 3 (by kernel_rfl) (by rfl)
        have h69 : A.tmps[69]?.getD undef = .bool true := he 5 (by kernel_rfl) (by rfl)
        go_simp
        refine Calls.mono (knows_any (V 1) l HL.out tt true W) ?_
        rintro e' w' ⟨rfl, hb⟩
        exact ⟨_, rfl, rfl, hb⟩
      · injection ho with ho; subst ho
        refine .inl ⟨wanted_free rfl, ?_⟩
        have h5 : A.tmps[5]?.getD undef = .pointer (some ⟨w.heap.size, 0, none⟩) := hk 5 (by rfl)
        go_simp
        exact ⟨rfl, Below.refl _ _⟩
      · exact absurd hc (by decide)
    · intro j i o hji ho A W hz hMj hk he
      rcases j with _ | j
      · obtain rfl : 8 = i := Option.some.inj hji
        injection ho with ho; subst ho
        refine .inl ⟨wanted_free rfl, ?_⟩
        have hMs : RdD w (setV V 0 (knowsF (V 0) l tt true)) m zero48 W := hMj
        have h71 : A.tmps[71]?.getD undef = .pointer (some ⟨w.heap.size, 8, none⟩) := he 7 (by kernel_rfl) (by rfl)
        have h70 : A.tmps[70]?.getD undef = .agg (vwC (knowsF (V 1) l tt true)) := he 6 (by kernel_rfl) (by rfl)
        exact y_storeK rfl h71 h70 hMs.at5 (k := 1) (by omega) rfl rvSize (by have := HX1.out.grow; omega) (fun _ _ => trivial) (hMs.setK 1 _ _ rfl)
      · simp at hji
    · intro xs W hz hMe hV
      have hMe : RdD w (setV (setV V 0 (knowsF (V 0) l tt true)) 1 (knowsF (V 1) l tt true)) m zero48 W := hMe
      simp only [putM, Act.put, List.setIfInBounds_toArray, List.set_cons_zero, List.set_cons_succ, Nat.zero_add, Nat.reduceAdd]
      clear hV
      generalize W = X2 at hMe ⊢
      have HX2 := Lib.hid hMe
      clear hMe hz HX1
      go_upto_region 8 with (fail)
      refine wp_flowS1 [some 74, some 75, some 76, some 77, some 78, none] [5] [0, 0, 0, 0, 0, 0] [eqV (.pointer (some ⟨w.heap.size, 0, none⟩)), eqV (.agg (vwC (knowsF (V 0) l tt true))), eqV (.agg (vwC (m))), eqV (.agg (vwC (maxF (knowsF (V 0) l tt true) m))), eqV (.pointer (some ⟨w.heap.size, 0, none⟩)), fun _ _ => True] (fun j W => match j with | 0 => RdD w (setV (setV V 0 (knowsF (V 0) l tt true)) 1 (knowsF (V 1) l tt true)) m zero48 W | _ => RdD w (setV (setV (setV V 0 (knowsF (V 0) l tt true)) 1 (knowsF (V 1) l tt true)) 0 (maxF (knowsF (V 0) l tt true) m)) m zero48 W) (by kernel_rfl) (by kernel_rfl) (by kernel_rfl) (by rfl)
        (by simp only [List.mem_cons, List.not_mem_nil, or_false, forall_eq_or_imp, forall_eq]; refine ⟨?_, ?_, ?_, ?_, ?_, ?_⟩ <;> (first | exact eqV_monoB _ _ | exact rowB_mono _ _ _ _ | exact true_monoB _))
        (fun j W W' h hb => by rcases j with _ | j <;> first | exact (RdD.grown h hb)) (HX2.out) ?_ ?_ ?_
      · intro i o hi ho hc j A W hj hz hMj hk he
        simp only [List.length_cons, List.length_nil, Nat.zero_add, Nat.reduceAdd] at hi
        obtain rfl | rfl | rfl | rfl | rfl | rfl : i = 0 ∨ i = 1 ∨ i = 2 ∨ i = 3 ∨ i = 4 ∨ i = 5 := by omega
        · injection ho with ho; subst ho
          refine .inl ⟨wanted_free rfl, ?_⟩
          have h5 : A.tmps[5]?.getD undef = .pointer (some ⟨w.heap.size, 0, none⟩) := hk 5 (by rfl)
          go_simp
          exact ⟨rfl, Below.refl _ _⟩
        · obtain rfl : j = 0 := hj
          have hMs : RdD w (setV (setV V 0 (knowsF (V 0) l tt true)) 1 (knowsF (V 1) l tt true)) m zero48 W := hMj
          injection ho with ho; subst ho
          refine .inl ⟨wanted_free rfl, ?_⟩
          have h74 : A.tmps[74]?.getD undef = .pointer (some ⟨w.heap.size, 0, none⟩) := he 0 (by kernel_rfl) (by rfl)
          exact y_load (cs := vwC (knowsF (V 0) l tt true)) rfl h74 (vs_range (V := setV (setV V 0 (knowsF (V 0) l tt true)) 1 (knowsF (V 1) l tt true)) (hMs.at5) (0) _ (by omega) rfl) Try.underlying30 rfl rvSize
        · obtain rfl : j = 0 := hj
          have hMs : RdD w (setV (setV V 0 (knowsF (V 0) l tt true)) 1 (knowsF (V 1) l tt true)) m zero48 W := hMj
          injection ho with ho; subst ho
          refine .inl ⟨wanted_free rfl, ?_⟩
          have h9 : A.tmps[9]?.getD undef = .pointer (some ⟨w.heap.size + 1, 0, none⟩) := hk 9 (by rfl)
          exact y_load (cs := vwC (m)) rfl h9 (sits_range (hMs.at9)) Try.underlying30 rfl rvSize
        · obtain rfl : j = 0 := hj
          have hMs : RdD w (setV (setV V 0 (knowsF (V 0) l tt true)) 1 (knowsF (V 1) l tt true)) m zero48 W := hMj
          injection ho with ho; subst ho
          refine .inl ⟨wanted_free rfl, ?_⟩
          have h75 : A.tmps[75]?.getD undef = .agg (vwC (knowsF (V 0) l tt true)) := he 1 (by kernel_rfl) (by rfl)
          have h76 : A.tmps[76]?.getD undef = .agg (vwC (m)) := he 2 (by kernel_rfl) (by rfl)
          go_simp
          refine Calls.mono (djoin_any (knowsF (V 0) l tt true) m W) ?_
          rintro e' w' ⟨rfl, hb⟩
          exact ⟨_, rfl, rfl, hb⟩
        · injection ho with ho; subst ho
          refine .inl ⟨wanted_free rfl, ?_⟩
          have h5 : A.tmps[5]?.getD undef = .pointer (some ⟨w.heap.size, 0, none⟩) := hk 5 (by rfl)
          go_simp
          exact ⟨rfl, Below.refl _ _⟩
        · exact absurd hc (by decide)
      · intro j i o hji ho A W hz hMj hk he
        rcases j with _ | j
        · obtain rfl : 5 = i := Option.some.inj hji
          injection ho with ho; subst ho
          refine .inl ⟨wanted_free rfl, ?_⟩
          have hMs : RdD w (setV (setV V 0 (knowsF (V 0) l tt true)) 1 (knowsF (V 1) l tt true)) m zero48 W := hMj
          have h78 : A.tmps[78]?.getD undef = .pointer (some ⟨w.heap.size, 0, none⟩) := he 4 (by kernel_rfl) (by rfl)
          have h77 : A.tmps[77]?.getD undef = .agg (vwC (maxF (knowsF (V 0) l tt true) m)) := he 3 (by kernel_rfl) (by rfl)
          exact y_storeK rfl h78 h77 hMs.at5 (k := 0) (by omega) rfl rvSize (by have := HX2.out.grow; omega) (fun _ _ => trivial) (hMs.setK 0 _ _ rfl)
        · simp at hji
      · intro xs W hz hMe hV
        have hMe : RdD w (setV (setV (setV V 0 (knowsF (V 0) l tt true)) 1 (knowsF (V 1) l tt true)) 0 (maxF (knowsF (V 0) l tt true) m)) m zero48 W := hMe
        simp only [putM, Act.put, List.setIfInBounds_toArray, List.set_cons_zero, List.set_cons_succ, Nat.zero_add, Nat.reduceAdd]
        clear hV
        generalize W = X3 at hMe ⊢
        have HX3 := Lib.hid hMe
        clear hMe hz HX2
        go_upto_region 10 with (fail)
        refine wp_flowS1 [some 81, some 82, some 83, some 84, some 85, none] [5] [0, 0, 0, 0, 0, 0] [eqV (.pointer (some ⟨w.heap.size, 8, none⟩)), eqV (.agg (vwC (knowsF (V 1) l tt true))), eqV (.agg (vwC (m))), eqV (.agg (vwC (maxF (knowsF (V 1) l tt true) m))), eqV (.pointer (some ⟨w.heap.size, 8, none⟩)), fun _ _ => True] (fun j W => match j with | 0 => RdD w (setV (setV (setV V 0 (knowsF (V 0) l tt true)) 1 (knowsF (V 1) l tt true)) 0 (maxF (knowsF (V 0) l tt true) m)) m zero48 W | _ => RdD w (setV (setV (setV (setV V 0 (knowsF (V 0) l tt true)) 1 (knowsF (V 1) l tt true)) 0 (maxF (knowsF (V 0) l tt true) m)) 1 (maxF (knowsF (V 1) l tt true) m)) m zero48 W) (by kernel_rfl) (by kernel_rfl) (by kernel_rfl) (by rfl)
          (by simp only [List.mem_cons, List.not_mem_nil, or_false, forall_eq_or_imp, forall_eq]; refine ⟨?_, ?_, ?_, ?_, ?_, ?_⟩ <;> (first | exact eqV_monoB _ _ | exact rowB_mono _ _ _ _ | exact true_monoB _))
          (fun j W W' h hb => by rcases j with _ | j <;> first | exact (RdD.grown h hb)) (HX3.out) ?_ ?_ ?_
        · intro i o hi ho hc j A W hj hz hMj hk he
          simp only [List.length_cons, List.length_nil, Nat.zero_add, Nat.reduceAdd] at hi
          obtain rfl | rfl | rfl | rfl | rfl | rfl : i = 0 ∨ i = 1 ∨ i = 2 ∨ i = 3 ∨ i = 4 ∨ i = 5 := by omega
          · injection ho with ho; subst ho
            refine .inl ⟨wanted_free rfl, ?_⟩
            have h5 : A.tmps[5]?.getD undef = .pointer (some ⟨w.heap.size, 0, none⟩) := hk 5 (by rfl)
            go_simp
            exact ⟨rfl, Below.refl _ _⟩
          · obtain rfl : j = 0 := hj
            have hMs : RdD w (setV (setV (setV V 0 (knowsF (V 0) l tt true)) 1 (knowsF (V 1) l tt true)) 0 (maxF (knowsF (V 0) l tt true) m)) m zero48 W := hMj
            injection ho with ho; subst ho
            refine .inl ⟨wanted_free rfl, ?_⟩
            have h81 : A.tmps[81]?.getD undef = .pointer (some ⟨w.heap.size, 8, none⟩) := he 0 (by kernel_rfl) (by rfl)
            exact y_load (cs := vwC (knowsF (V 1) l tt true)) rfl h81 (vs_range (V := setV (setV (setV V 0 (knowsF (V 0) l tt true)) 1 (knowsF (V 1) l tt true)) 0 (maxF (knowsF (V 0) l tt true) m)) (hMs.at5) (1) _ (by omega) rfl) Try.underlying30 rfl rvSize
          · obtain rfl : j = 0 := hj
            have hMs : RdD w (setV (setV (setV V 0 (knowsF (V 0) l tt true)) 1 (knowsF (V 1) l tt true)) 0 (maxF (knowsF (V 0) l tt true) m)) m zero48 W := hMj
            injection ho with ho; subst ho
            refine .inl ⟨wanted_free rfl, ?_⟩
            have h9 : A.tmps[9]?.getD undef = .pointer (some ⟨w.heap.size + 1, 0, none⟩) := hk 9 (by rfl)
            exact y_load (cs := vwC (m)) rfl h9 (sits_range (hMs.at9)) Try.underlying30 rfl rvSize
          · obtain rfl : j = 0 := hj
            have hMs : RdD w (setV (setV (setV V 0 (knowsF (V 0) l tt true)) 1 (knowsF (V 1) l tt true)) 0 (maxF (knowsF (V 0) l tt true) m)) m zero48 W := hMj
            injection ho with ho; subst ho
            refine .inl ⟨wanted_free rfl, ?_⟩
            have h82 : A.tmps[82]?.getD undef = .agg (vwC (knowsF (V 1) l tt true)) := he 1 (by kernel_rfl) (by rfl)
            have h83 : A.tmps[83]?.getD undef = .agg (vwC (m)) := he 2 (by kernel_rfl) (by rfl)
            go_simp
            refine Calls.mono (djoin_any (knowsF (V 1) l tt true) m W) ?_
            rintro e' w' ⟨rfl, hb⟩
            exact ⟨_, rfl, rfl, hb⟩
          · injection ho with ho; subst ho
            refine .inl ⟨wanted_free rfl, ?_⟩
            have h5 : A.tmps[5]?.getD undef = .pointer (some ⟨w.heap.size, 0, none⟩) := hk 5 (by rfl)
            go_simp
            exact ⟨rfl, Below.refl _ _⟩
          · exact absurd hc (by decide)
        · intro j i o hji ho A W hz hMj hk he
          rcases j with _ | j
          · obtain rfl : 5 = i := Option.some.inj hji
            injection ho with ho; subst ho
            refine .inl ⟨wanted_free rfl, ?_⟩
            have hMs : RdD w (setV (setV (setV V 0 (knowsF (V 0) l tt true)) 1 (knowsF (V 1) l tt true)) 0 (maxF (knowsF (V 0) l tt true) m)) m zero48 W := hMj
            have h85 : A.tmps[85]?.getD undef = .pointer (some ⟨w.heap.size, 8, none⟩) := he 4 (by kernel_rfl) (by rfl)
            have h84 : A.tmps[84]?.getD undef = .agg (vwC (maxF (knowsF (V 1) l tt true) m)) := he 3 (by kernel_rfl) (by rfl)
            exact y_storeK rfl h85 h84 hMs.at5 (k := 1) (by omega) rfl rvSize (by have := HX3.out.grow; omega) (fun _ _ => trivial) (hMs.setK 1 _ _ rfl)
          · simp at hji
        · intro xs W hz hMe hV
          have hMe : RdD w (setV (setV (setV (setV V 0 (knowsF (V 0) l tt true)) 1 (knowsF (V 1) l tt true)) 0 (maxF (knowsF (V 0) l tt true) m)) 1 (maxF (knowsF (V 1) l tt true) m)) m zero48 W := hMe
          simp only [putM, Act.put, List.setIfInBounds_toArray, List.set_cons_zero, List.set_cons_succ, Nat.zero_add, Nat.reduceAdd]
          clear hV
          generalize W = X4 at hMe ⊢
          have HX4 := Lib.hid hMe
          clear hMe hz HX3
          go_upto_region 11 with (fail)
          have HF : Hid (RdD w (setV (setV V 0 (maxF (knowsF (V 0) l tt true) m)) 1 (maxF (knowsF (V 1) l tt true) m)) m zero48 X4) := Lib.hid (by
            have h := HX4.out
            rwa [show setV (setV (setV (setV V 0 (knowsF (V 0) l tt true)) 1 (knowsF (V 1) l tt true)) 0 (maxF (knowsF (V 0) l tt true) m)) 1 (maxF (knowsF (V 1) l tt true) m) = setV (setV V 0 (maxF (knowsF (V 0) l tt true) m)) 1 (maxF (knowsF (V 1) l tt true) m) by funext j; simp only [setV]; split <;> (try split) <;> simp_all] at h)
          clear HX4
          have s5 := (HF.out).at5
          go_wp2_with (first | refine wpList_load_row rfl 33 _ rfl _ rfl _ (vsC (setV (setV V 0 (maxF (knowsF (V 0) l tt true) m)) 1 (maxF (knowsF (V 1) l tt true) m))) (0, 0) _ s5 Try.underlying33 rfl (by rw [vsC_size]; exact rsSize) ?_ | refine wpList_store_row rfl 33 _ _ rfl (w.heap.size + 1 + 1) (vsC (setV (setV V 0 (maxF (knowsF (V 0) l tt true) m)) 1 (maxF (knowsF (V 1) l tt true) m))) rfl rfl 33 zero48 (HF.out).at10 (by rw [vsC_size]; exact rsSize) (zero48_size.trans (vsC_size _).symm) (vsC_one _) ?_)
          clear s5
          have HE := Lib.hid ((HF.out).out (vsC (setV (setV V 0 (maxF (knowsF (V 0) l tt true) m)) 1 (maxF (knowsF (V 1) l tt true) m))))
          generalize X4.setRow (w.heap.size + 1 + 1) (vsC (setV (setV V 0 (maxF (knowsF (V 0) l tt true) m)) 1 (maxF (knowsF (V 1) l tt true) m))) = WE at HE ⊢
          go_wp2_with fail
          exact bodyPost_ret (v := .tuple #[.agg (vsC (setV (setV V 0 (maxF (knowsF (V 0) l tt true) m)) 1 (maxF (knowsF (V 1) l tt true) m))), .bool true]) (dresult_sb Try.results12 rfl rfl HE.out.at10) rfl ⟨by rw [hv.out, hk.out], HE.out.low⟩
def dwU (V : Nat → Nat → Int) (l : Nat) (tt : Int) : Nat → Nat → Int := setV (setV (setV V 0 (knowsF (V 0) l tt true)) 1 (knowsF (V 1) l tt true)) (l + 2) (knowsF (V (l + 2)) l tt true)
def dwV (V : Nat → Nat → Int) (l : Nat) (tt mo : Int) : Nat → Nat → Int := if mo = 4 then setV (dwU V l tt) (l + 2) (maxF (dwU V l tt (l + 2)) (dwU V l tt 0)) else dwU V l tt
def dwriteV (V : Nat → Nat → Int) (loc tt mo : Int) : Nat → Nat → Int := if writeOk V loc tt mo then dwV V loc.toNat tt mo else V
def dwriteM (V : Nat → Nat → Int) (loc tt mo : Int) (m : Nat → Int) : Nat → Int := if writeOk V loc tt mo && !decide (mo = 1) then maxF (dwV V loc.toNat tt mo (loc.toNat + 2)) m else zeroF
theorem dw_far (V : Nat → Nat → Int) (l : Nat) (f0 f1 : Nat → Int) : setV (setV V 0 f0) 1 f1 (l + 2) = V (l + 2) := by
  rw [setV_other _ _ _ _ (by omega), setV_other _ _ _ _ (by omega)]
set_option maxRecDepth 100000 in
set_option maxHeartbeats 4000000 in
theorem dwrite_any (V : Nat → Nat → Int) (loc tt mo : Int) (m : Nat → Int) (w : World) :
    Calls Try.prog 10 #[.agg (vsC V), .int .i64 loc, .int .i64 tt, .int .u8 mo, .agg (vwC m)] w (Made (.returned (.tuple #[.agg (vsC (dwriteV V loc tt mo)), .agg (vwC (dwriteM V loc tt mo m)), .bool (writeOk V loc tt mo)])) w) := by
  have HB := Lib.hid (wrD_new w V m)
  by_cases p1 : loc < 0
  ·
    have hk : Hid (writeOk V loc tt mo = false) := Lib.hid (by unfold writeOk lowT; simp; omega)
    have hv : Hid (dwriteV V loc tt mo = V) := Lib.hid (by unfold dwriteV; rw [hk.out]; rfl)
    have hm : Hid (dwriteM V loc tt mo m = zeroF) := Lib.hid (by unfold dwriteM; rw [hk.out]; rfl)
    go_enter Try.func10, Try.ntmps10
    go_upto_region 2 with (fail)
    generalize ((((w.alloc (.cells (vsC V) 33)).alloc (.cells (vwC m) 30)).alloc (.cells zero48 33)).alloc (.cells zero8 30)).alloc (.cells zero8 30) = w0 at HB ⊢
    go_upto_region 3 with (fail)
    refine wp_flowM [some 45, some 46, none, none, some 12] [2, 3] [0, 1, 0, 0, 2] [eqV (.agg (vsC (V))), eqV (.agg (vwC (zeroF))), fun _ _ => True, fun _ _ => True, eqV (.bool false)] (fun j W => match j with | 0 => WrD w (V) m (zero48) (zero8) W | 1 => WrD w (V) m (vsC (V)) (zero8) W | _ => WrD w (V) m (vsC (V)) (vwC (zeroF)) W) (by kernel_rfl) (by kernel_rfl) (by kernel_rfl) (by rfl)
      (by simp only [List.mem_cons, List.not_mem_nil, or_false, forall_eq_or_imp, forall_eq]; refine ⟨?_, ?_, ?_, ?_, ?_⟩ <;> (first | exact eqV_monoB _ _ | exact rowB_mono _ _ _ _ | exact true_monoB _))
      (fun j W W' h hb => by rcases j with _ | _ | j <;> first | exact (WrD.grown h hb)) (HB.out) ?_ ?_ ?_
    · intro i o hi ho hc j A W hj hz hMj hk he
      simp only [List.length_cons, List.length_nil, Nat.zero_add, Nat.reduceAdd] at hi
      obtain rfl | rfl | rfl | rfl | rfl : i = 0 ∨ i = 1 ∨ i = 2 ∨ i = 3 ∨ i = 4 := by omega
      · obtain rfl : j = 0 := Nat.le_zero.1 hj
        have hMs : WrD w (V) m (zero48) (zero8) W := hMj
        injection ho with ho; subst ho
        refine .inl ⟨wanted_free rfl, ?_⟩
        have h5 : A.tmps[5]?.getD undef = .pointer (some ⟨w.heap.size, 0, none⟩) := hk 5 (by rfl)
        exact y_load (cs := vsC (V)) rfl h5 (sits_range (hMs.at5)) Try.underlying33 rfl rsSize
      · have hj2 : j ≤ 1 := hj
        rcases j with _ | _ | j
        · have hMs : WrD w (V) m (zero48) (zero8) W := hMj
          injection ho with ho; subst ho
          refine .inl ⟨wanted_free rfl, ?_⟩
          have h13 : A.tmps[13]?.getD undef = .pointer (some ⟨w.heap.size + 1 + 1 + 1 + 1, 0, none⟩) := hk 13 (by rfl)
          exact y_load (cs := vwC (zeroF)) rfl h13 (sits_range (hMs.at13)) Try.underlying30 rfl rvSize
        · have hMs : WrD w (V) m (vsC (V)) (zero8) W := hMj
          injection ho with ho; subst ho
          refine .inl ⟨wanted_free rfl, ?_⟩
          have h13 : A.tmps[13]?.getD undef = .pointer (some ⟨w.heap.size + 1 + 1 + 1 + 1, 0, none⟩) := hk 13 (by rfl)
          exact y_load (cs := vwC (zeroF)) rfl h13 (sits_range (hMs.at13)) Try.underlying30 rfl rvSize
        · omega
      · exact absurd hc (by decide)
      · exact absurd hc (by decide)
      · injection ho with ho; subst ho
        refine .inl ⟨wanted_free rfl, ?_⟩
        go_simp
        exact ⟨rfl, Below.refl _ _⟩
    · intro j i o hji ho A W hz hMj hk he
      rcases j with _ | _ | j
      · obtain rfl : 2 = i := Option.some.inj hji
        injection ho with ho; subst ho
        refine .inl ⟨wanted_free rfl, ?_⟩
        have hMs : WrD w (V) m (zero48) (zero8) W := hMj
        have h10 : A.tmps[10]?.getD undef = .pointer (some ⟨w.heap.size + 1 + 1, 0, none⟩) := hk 10 (by rfl)
        have h45 : A.tmps[45]?.getD undef = .agg (vsC (V)) := he 0 (by kernel_rfl) (by rfl)
        exact y_store rfl h10 h45 hMs.at10 (by rw [vsC_size]; exact rsSize) (zero48_size.trans (vsC_size _).symm) (vsC_one _) (by have := HB.out.grow; omega) (fun _ _ => trivial) (hMs.out _)
      · obtain rfl : 3 = i := Option.some.inj hji
        injection ho with ho; subst ho
        refine .inl ⟨wanted_free rfl, ?_⟩
        have hMs : WrD w (V) m (vsC (V)) (zero8) W := hMj
        have h11 : A.tmps[11]?.getD undef = .pointer (some ⟨w.heap.size + 1 + 1 + 1, 0, none⟩) := hk 11 (by rfl)
        have h46 : A.tmps[46]?.getD undef = .agg (vwC (zeroF)) := he 1 (by kernel_rfl) (by rfl)
        exact y_store rfl h11 h46 hMs.at11 rvSize rfl (vwC_one _) (by have := HB.out.grow; omega) (fun _ _ => trivial) (hMs.out2 _)
      · simp at hji
    · intro xs W hz hMe hV
      have hMe : WrD w (V) m (vsC (V)) (vwC (zeroF)) W := hMe
      have e12 : xs 4 = .bool false := hV 4 (by simp) rfl
      simp only [putM, Act.put, List.setIfInBounds_toArray, List.set_cons_zero, List.set_cons_succ, Nat.zero_add, Nat.reduceAdd, e12]
      clear hV e12
      generalize W = WL at hMe ⊢
      have HZ := Lib.hid hMe
      clear hMe hz HB
      go_wp2_with fail
      exact bodyPost_ret (v := .tuple #[.agg (vsC (V)), .agg (vwC (zeroF)), .bool false]) (dresult_svb Try.results10 rfl rfl rfl HZ.out.at10 HZ.out.at11) rfl ⟨by rw [hv.out, hm.out, hk.out], HZ.out.low⟩
  by_cases p2 : 3 < loc
  ·
    have hk : Hid (writeOk V loc tt mo = false) := Lib.hid (by unfold writeOk lowT; simp; omega)
    have hv : Hid (dwriteV V loc tt mo = V) := Lib.hid (by unfold dwriteV; rw [hk.out]; rfl)
    have hm : Hid (dwriteM V loc tt mo m = zeroF) := Lib.hid (by unfold dwriteM; rw [hk.out]; rfl)
    go_enter Try.func10, Try.ntmps10
    go_upto_region 2 with (fail)
    generalize ((((w.alloc (.cells (vsC V) 33)).alloc (.cells (vwC m) 30)).alloc (.cells zero48 33)).alloc (.cells zero8 30)).alloc (.cells zero8 30) = w0 at HB ⊢
    go_upto_region 3 with (fail)
    refine wp_flowM [some 45, some 46, none, none, some 12] [2, 3] [0, 1, 0, 0, 2] [eqV (.agg (vsC (V))), eqV (.agg (vwC (zeroF))), fun _ _ => True, fun _ _ => True, eqV (.bool false)] (fun j W => match j with | 0 => WrD w (V) m (zero48) (zero8) W | 1 => WrD w (V) m (vsC (V)) (zero8) W | _ => WrD w (V) m (vsC (V)) (vwC (zeroF)) W) (by kernel_rfl) (by kernel_rfl) (by kernel_rfl) (by rfl)
      (by simp only [List.mem_cons, List.not_mem_nil, or_false, forall_eq_or_imp, forall_eq]; refine ⟨?_, ?_, ?_, ?_, ?_⟩ <;> (first | exact eqV_monoB _ _ | exact rowB_mono _ _ _ _ | exact true_monoB _))
      (fun j W W' h hb => by rcases j with _ | _ | j <;> first | exact (WrD.grown h hb)) (HB.out) ?_ ?_ ?_
    · intro i o hi ho hc j A W hj hz hMj hk he
      simp only [List.length_cons, List.length_nil, Nat.zero_add, Nat.reduceAdd] at hi
      obtain rfl | rfl | rfl | rfl | rfl : i = 0 ∨ i = 1 ∨ i = 2 ∨ i = 3 ∨ i = 4 := by omega
      · obtain rfl : j = 0 := Nat.le_zero.1 hj
        have hMs : WrD w (V) m (zero48) (zero8) W := hMj
        injection ho with ho; subst ho
        refine .inl ⟨wanted_free rfl, ?_⟩
        have h5 : A.tmps[5]?.getD undef = .pointer (some ⟨w.heap.size, 0, none⟩) := hk 5 (by rfl)
        exact y_load (cs := vsC (V)) rfl h5 (sits_range (hMs.at5)) Try.underlying33 rfl rsSize
      · have hj2 : j ≤ 1 := hj
        rcases j with _ | _ | j
        · have hMs : WrD w (V) m (zero48) (zero8) W := hMj
          injection ho with ho; subst ho
          refine .inl ⟨wanted_free rfl, ?_⟩
          have h13 : A.tmps[13]?.getD undef = .pointer (some ⟨w.heap.size + 1 + 1 + 1 + 1, 0, none⟩) := hk 13 (by rfl)
          exact y_load (cs := vwC (zeroF)) rfl h13 (sits_range (hMs.at13)) Try.underlying30 rfl rvSize
        · have hMs : WrD w (V) m (vsC (V)) (zero8) W := hMj
          injection ho with ho; subst ho
          refine .inl ⟨wanted_free rfl, ?_⟩
          have h13 : A.tmps[13]?.getD undef = .pointer (some ⟨w.heap.size + 1 + 1 + 1 + 1, 0, none⟩) := hk 13 (by rfl)
          exact y_load (cs := vwC (zeroF)) rfl h13 (sits_range (hMs.at13)) Try.underlying30 rfl rvSize
        · omega
      · exact absurd hc (by decide)
      · exact absurd hc (by decide)
      · injection ho with ho; subst ho
        refine .inl ⟨wanted_free rfl, ?_⟩
        go_simp
        exact ⟨rfl, Below.refl _ _⟩
    · intro j i o hji ho A W hz hMj hk he
      rcases j with _ | _ | j
      · obtain rfl : 2 = i := Option.some.inj hji
        injection ho with ho; subst ho
        refine .inl ⟨wanted_free rfl, ?_⟩
        have hMs : WrD w (V) m (zero48) (zero8) W := hMj
        have h10 : A.tmps[10]?.getD undef = .pointer (some ⟨w.heap.size + 1 + 1, 0, none⟩) := hk 10 (by rfl)
        have h45 : A.tmps[45]?.getD undef = .agg (vsC (V)) := he 0 (by kernel_rfl) (by rfl)
        exact y_store rfl h10 h45 hMs.at10 (by rw [vsC_size]; exact rsSize) (zero48_size.trans (vsC_size _).symm) (vsC_one _) (by have := HB.out.grow; omega) (fun _ _ => trivial) (hMs.out _)
      · obtain rfl : 3 = i := Option.some.inj hji
        injection ho with ho; subst ho
        refine .inl ⟨wanted_free rfl, ?_⟩
        have hMs : WrD w (V) m (vsC (V)) (zero8) W := hMj
        have h11 : A.tmps[11]?.getD undef = .pointer (some ⟨w.heap.size + 1 + 1 + 1, 0, none⟩) := hk 11 (by rfl)
        have h46 : A.tmps[46]?.getD undef = .agg (vwC (zeroF)) := he 1 (by kernel_rfl) (by rfl)
        exact y_store rfl h11 h46 hMs.at11 rvSize rfl (vwC_one _) (by have := HB.out.grow; omega) (fun _ _ => trivial) (hMs.out2 _)
      · simp at hji
    · intro xs W hz hMe hV
      have hMe : WrD w (V) m (vsC (V)) (vwC (zeroF)) W := hMe
      have e12 : xs 4 = .bool false := hV 4 (by simp) rfl
      simp only [putM, Act.put, List.setIfInBounds_toArray, List.set_cons_zero, List.set_cons_succ, Nat.zero_add, Nat.reduceAdd, e12]
      clear hV e12
      generalize W = WL at hMe ⊢
      have HZ := Lib.hid hMe
      clear hMe hz HB
      go_wp2_with fail
      exact bodyPost_ret (v := .tuple #[.agg (vsC (V)), .agg (vwC (zeroF)), .bool false]) (dresult_svb Try.results10 rfl rfl rfl HZ.out.at10 HZ.out.at11) rfl ⟨by rw [hv.out, hm.out, hk.out], HZ.out.low⟩
  by_cases p3 : tt < 0
  ·
    have hk : Hid (writeOk V loc tt mo = false) := Lib.hid (by unfold writeOk lowT; simp; omega)
    have hv : Hid (dwriteV V loc tt mo = V) := Lib.hid (by unfold dwriteV; rw [hk.out]; rfl)
    have hm : Hid (dwriteM V loc tt mo m = zeroF) := Lib.hid (by unfold dwriteM; rw [hk.out]; rfl)
    go_enter Try.func10, Try.ntmps10
    go_upto_region 2 with (fail)
    generalize ((((w.alloc (.cells (vsC V) 33)).alloc (.cells (vwC m) 30)).alloc (.cells zero48 33)).alloc (.cells zero8 30)).alloc (.cells zero8 30) = w0 at HB ⊢
    go_upto_region 3 with (fail)
    refine wp_flowM [some 45, some 46, none, none, some 12] [2, 3] [0, 1, 0, 0, 2] [eqV (.agg (vsC (V))), eqV (.agg (vwC (zeroF))), fun _ _ => True, fun _ _ => True, eqV (.bool false)] (fun j W => match j with | 0 => WrD w (V) m (zero48) (zero8) W | 1 => WrD w (V) m (vsC (V)) (zero8) W | _ => WrD w (V) m (vsC (V)) (vwC (zeroF)) W) (by kernel_rfl) (by kernel_rfl) (by kernel_rfl) (by rfl)
      (by simp only [List.mem_cons, List.not_mem_nil, or_false, forall_eq_or_imp, forall_eq]; refine ⟨?_, ?_, ?_, ?_, ?_⟩ <;> (first | exact eqV_monoB _ _ | exact rowB_mono _ _ _ _ | exact true_monoB _))
      (fun j W W' h hb => by rcases j with _ | _ | j <;> first | exact (WrD.grown h hb)) (HB.out) ?_ ?_ ?_
    · intro i o hi ho hc j A W hj hz hMj hk he
      simp only [List.length_cons, List.length_nil, Nat.zero_add, Nat.reduceAdd] at hi
      obtain rfl | rfl | rfl | rfl | rfl : i = 0 ∨ i = 1 ∨ i = 2 ∨ i = 3 ∨ i = 4 := by omega
      · obtain rfl : j = 0 := Nat.le_zero.1 hj
        have hMs : WrD w (V) m (zero48) (zero8) W := hMj
        injection ho with ho; subst ho
        refine .inl ⟨wanted_free rfl, ?_⟩
        have h5 : A.tmps[5]?.getD undef = .pointer (some ⟨w.heap.size, 0, none⟩) := hk 5 (by rfl)
        exact y_load (cs := vsC (V)) rfl h5 (sits_range (hMs.at5)) Try.underlying33 rfl rsSize
      · have hj2 : j ≤ 1 := hj
        rcases j with _ | _ | j
        · have hMs : WrD w (V) m (zero48) (zero8) W := hMj
          injection ho with ho; subst ho
          refine .inl ⟨wanted_free rfl, ?_⟩
          have h13 : A.tmps[13]?.getD undef = .pointer (some ⟨w.heap.size + 1 + 1 + 1 + 1, 0, none⟩) := hk 13 (by rfl)
          exact y_load (cs := vwC (zeroF)) rfl h13 (sits_range (hMs.at13)) Try.underlying30 rfl rvSize
        · have hMs : WrD w (V) m (vsC (V)) (zero8) W := hMj
          injection ho with ho; subst ho
          refine .inl ⟨wanted_free rfl, ?_⟩
          have h13 : A.tmps[13]?.getD undef = .pointer (some ⟨w.heap.size + 1 + 1 + 1 + 1, 0, none⟩) := hk 13 (by rfl)
          exact y_load (cs := vwC (zeroF)) rfl h13 (sits_range (hMs.at13)) Try.underlying30 rfl rvSize
        · omega
      · exact absurd hc (by decide)
      · exact absurd hc (by decide)
      · injection ho with ho; subst ho
        refine .inl ⟨wanted_free rfl, ?_⟩
        go_simp
        exact ⟨rfl, Below.refl _ _⟩
    · intro j i o hji ho A W hz hMj hk he
      rcases j with _ | _ | j
      · obtain rfl : 2 = i := Option.some.inj hji
        injection ho with ho; subst ho
        refine .inl ⟨wanted_free rfl, ?_⟩
        have hMs : WrD w (V) m (zero48) (zero8) W := hMj
        have h10 : A.tmps[10]?.getD undef = .pointer (some ⟨w.heap.size + 1 + 1, 0, none⟩) := hk 10 (by rfl)
        have h45 : A.tmps[45]?.getD undef = .agg (vsC (V)) := he 0 (by kernel_rfl) (by rfl)
        exact y_store rfl h10 h45 hMs.at10 (by rw [vsC_size]; exact rsSize) (zero48_size.trans (vsC_size _).symm) (vsC_one _) (by have := HB.out.grow; omega) (fun _ _ => trivial) (hMs.out _)
      · obtain rfl : 3 = i := Option.some.inj hji
        injection ho with ho; subst ho
        refine .inl ⟨wanted_free rfl, ?_⟩
        have hMs : WrD w (V) m (vsC (V)) (zero8) W := hMj
        have h11 : A.tmps[11]?.getD undef = .pointer (some ⟨w.heap.size + 1 + 1 + 1, 0, none⟩) := hk 11 (by rfl)
        have h46 : A.tmps[46]?.getD undef = .agg (vwC (zeroF)) := he 1 (by kernel_rfl) (by rfl)
        exact y_store rfl h11 h46 hMs.at11 rvSize rfl (vwC_one _) (by have := HB.out.grow; omega) (fun _ _ => trivial) (hMs.out2 _)
      · simp at hji
    · intro xs W hz hMe hV
      have hMe : WrD w (V) m (vsC (V)) (vwC (zeroF)) W := hMe
      have e12 : xs 4 = .bool false := hV 4 (by simp) rfl
      simp only [putM, Act.put, List.setIfInBounds_toArray, List.set_cons_zero, List.set_cons_succ, Nat.zero_add, Nat.reduceAdd, e12]
      clear hV e12
      generalize W = WL at hMe ⊢
      have HZ := Lib.hid hMe
      clear hMe hz HB
      go_wp2_with fail
      exact bodyPost_ret (v := .tuple #[.agg (vsC (V)), .agg (vwC (zeroF)), .bool false]) (dresult_svb Try.results10 rfl rfl rfl HZ.out.at10 HZ.out.at11) rfl ⟨by rw [hv.out, hm.out, hk.out], HZ.out.low⟩
  by_cases q1 : ¬ (mo = 1 ∨ mo = 2 ∨ mo = 4)
  ·
    have hk : Hid (writeOk V loc tt mo = false) := Lib.hid (by unfold writeOk lowT; simp; omega)
    have hv : Hid (dwriteV V loc tt mo = V) := Lib.hid (by unfold dwriteV; rw [hk.out]; rfl)
    have hm : Hid (dwriteM V loc tt mo m = zeroF) := Lib.hid (by unfold dwriteM; rw [hk.out]; rfl)
    have e1 : ((mo : Int) == 1) = false := by simp; omega
    have e2 : ((mo : Int) == 2) = false := by simp; omega
    have e4 : ((mo : Int) == 4) = false := by simp; omega
    have f1 : ((mo : Int) != 1) = true := by simp; omega
    have f2 : ((mo : Int) != 2) = true := by simp; omega
    have f4 : ((mo : Int) != 4) = true := by simp; omega
    clear q1
    go_enter Try.func10, Try.ntmps10
    go_upto_region 2 with (fail)
    generalize ((((w.alloc (.cells (vsC V) 33)).alloc (.cells (vwC m) 30)).alloc (.cells zero48 33)).alloc (.cells zero8 30)).alloc (.cells zero8 30) = w0 at HB ⊢
    go_upto_region 3 with (fail)
    refine wp_flowM [some 45, some 46, none, none, some 12] [2, 3] [0, 1, 0, 0, 2] [eqV (.agg (vsC (V))), eqV (.agg (vwC (zeroF))), fun _ _ => True, fun _ _ => True, eqV (.bool false)] (fun j W => match j with | 0 => WrD w (V) m (zero48) (zero8) W | 1 => WrD w (V) m (vsC (V)) (zero8) W | _ => WrD w (V) m (vsC (V)) (vwC (zeroF)) W) (by kernel_rfl) (by kernel_rfl) (by kernel_rfl) (by rfl)
      (by simp only [List.mem_cons, List.not_mem_nil, or_false, forall_eq_or_imp, forall_eq]; refine ⟨?_, ?_, ?_, ?_, ?_⟩ <;> (first | exact eqV_monoB _ _ | exact rowB_mono _ _ _ _ | exact true_monoB _))
      (fun j W W' h hb => by rcases j with _ | _ | j <;> first | exact (WrD.grown h hb)) (HB.out) ?_ ?_ ?_
    · intro i o hi ho hc j A W hj hz hMj hk he
      simp only [List.length_cons, List.length_nil, Nat.zero_add, Nat.reduceAdd] at hi
      obtain rfl | rfl | rfl | rfl | rfl : i = 0 ∨ i = 1 ∨ i = 2 ∨ i = 3 ∨ i = 4 := by omega
      · obtain rfl : j = 0 := Nat.le_zero.1 hj
        have hMs : WrD w (V) m (zero48) (zero8) W := hMj
        injection ho with ho; subst ho
        refine .inl ⟨wanted_free rfl, ?_⟩
        have h5 : A.tmps[5]?.getD undef = .pointer (some ⟨w.heap.size, 0, none⟩) := hk 5 (by rfl)
        exact y_load (cs := vsC (V)) rfl h5 (sits_range (hMs.at5)) Try.underlying33 rfl rsSize
      · have hj2 : j ≤ 1 := hj
        rcases j with _ | _ | j
        · have hMs : WrD w (V) m (zero48) (zero8) W := hMj
          injection ho with ho; subst ho
          refine .inl ⟨wanted_free rfl, ?_⟩
          have h13 : A.tmps[13]?.getD undef = .pointer (some ⟨w.heap.size + 1 + 1 + 1 + 1, 0, none⟩) := hk 13 (by rfl)
          exact y_load (cs := vwC (zeroF)) rfl h13 (sits_range (hMs.at13)) Try.underlying30 rfl rvSize
        · have hMs : WrD w (V) m (vsC (V)) (zero8) W := hMj
          injection ho with ho; subst ho
          refine .inl ⟨wanted_free rfl, ?_⟩
          have h13 : A.tmps[13]?.getD undef = .pointer (some ⟨w.heap.size + 1 + 1 + 1 + 1, 0, none⟩) := hk 13 (by rfl)
          exact y_load (cs := vwC (zeroF)) rfl h13 (sits_range (hMs.at13)) Try.underlying30 rfl rvSize
        · omega
      · exact absurd hc (by decide)
      · exact absurd hc (by decide)
      · injection ho with ho; subst ho
        refine .inl ⟨wanted_free rfl, ?_⟩
        go_simp
        exact ⟨rfl, Below.refl _ _⟩
    · intro j i o hji ho A W hz hMj hk he
      rcases j with _ | _ | j
      · obtain rfl : 2 = i := Option.some.inj hji
        injection ho with ho; subst ho
        refine .inl ⟨wanted_free rfl, ?_⟩
        have hMs : WrD w (V) m (zero48) (zero8) W := hMj
        have h10 : A.tmps[10]?.getD undef = .pointer (some ⟨w.heap.size + 1 + 1, 0, none⟩) := hk 10 (by rfl)
        have h45 : A.tmps[45]?.getD undef = .agg (vsC (V)) := he 0 (by kernel_rfl) (by rfl)
        exact y_store rfl h10 h45 hMs.at10 (by rw [vsC_size]; exact rsSize) (zero48_size.trans (vsC_size _).symm) (vsC_one _) (by have := HB.out.grow; omega) (fun _ _ => trivial) (hMs.out _)
      · obtain rfl : 3 = i := Option.some.inj hji
        injection ho with ho; subst ho
        refine .inl ⟨wanted_free rfl, ?_⟩
        have hMs : WrD w (V) m (vsC (V)) (zero8) W := hMj
        have h11 : A.tmps[11]?.getD undef = .pointer (some ⟨w.heap.size + 1 + 1 + 1, 0, none⟩) := hk 11 (by rfl)
        have h46 : A.tmps[46]?.getD undef = .agg (vwC (zeroF)) := he 1 (by kernel_rfl) (by rfl)
        exact y_store rfl h11 h46 hMs.at11 rvSize rfl (vwC_one _) (by have := HB.out.grow; omega) (fun _ _ => trivial) (hMs.out2 _)
      · simp at hji
    · intro xs W hz hMe hV
      have hMe : WrD w (V) m (vsC (V)) (vwC (zeroF)) W := hMe
      have e12 : xs 4 = .bool false := hV 4 (by simp) rfl
      simp only [putM, Act.put, List.setIfInBounds_toArray, List.set_cons_zero, List.set_cons_succ, Nat.zero_add, Nat.reduceAdd, e12]
      clear hV e12
      generalize W = WL at hMe ⊢
      have HZ := Lib.hid hMe
      clear hMe hz HB
      go_wp2_with fail
      exact bodyPost_ret (v := .tuple #[.agg (vsC (V)), .agg (vwC (zeroF)), .bool false]) (dresult_svb Try.results10 rfl rfl rfl HZ.out.at10 HZ.out.at11) rfl ⟨by rw [hv.out, hm.out, hk.out], HZ.out.low⟩
  obtain ⟨l, hloc⟩ : ∃ l : Nat, loc = (l : Int) := ⟨loc.toNat, by omega⟩
  have hl : l < 4 := by omega
  have HL := Lib.hid hl
  have HN : Hid (loc.toNat = l) := Lib.hid (by omega)
  have hlow : lowT loc tt = true := by simp [lowT]; omega
  by_cases h1 : mo = 1
  ·
    subst h1
    clear q1
    by_cases hfr : tt ≤ V 0 (l + 4)
    ·
      have hk : Hid (writeOk V loc tt 1 = false) := Lib.hid (by unfold writeOk; rw [HN.out]; simp [hlow]; omega)
      have hv : Hid (dwriteV V loc tt 1 = V) := Lib.hid (by unfold dwriteV; rw [hk.out]; rfl)
      have hm : Hid (dwriteM V loc tt 1 m = zeroF) := Lib.hid (by unfold dwriteM; rw [hk.out]; rfl)
      clear hlow
      subst hloc
      go_enter Try.func10, Try.ntmps10
      go_upto_region 2 with (fail)
      generalize ((((w.alloc (.cells (vsC V) 33)).alloc (.cells (vwC m) 30)).alloc (.cells zero48 33)).alloc (.cells zero8 30)).alloc (.cells zero8 30) = w0 at HB ⊢
      have d0 : w0.cell? ⟨w.heap.size, 4 + l, none⟩ = some (.int .i64 (V 0 (l + 4))) := by rw [Nat.add_comm 4 l]; exact HB.out.cur (l + 4) (by have := HL.out; omega)
      have i0 : (0 : Int) ≤ (l : Int) := by omega
      have i4 : (l : Int) < 4 := by have := HL.out; omega
      go_upto_region 3 with (fail)
      clear d0
      refine wp_flowM [some 45, some 46, none, none, some 12] [2, 3] [0, 1, 0, 0, 2] [eqV (.agg (vsC (V))), eqV (.agg (vwC (zeroF))), fun _ _ => True, fun _ _ => True, eqV (.bool false)] (fun j W => match j with | 0 => WrD w (V) m (zero48) (zero8) W | 1 => WrD w (V) m (vsC (V)) (zero8) W | _ => WrD w (V) m (vsC (V)) (vwC (zeroF)) W) (by kernel_rfl) (by kernel_rfl) (by kernel_rfl) (by rfl)
        (by simp only [List.mem_cons, List.not_mem_nil, or_false, forall_eq_or_imp, forall_eq]; refine ⟨?_, ?_, ?_, ?_, ?_⟩ <;> (first | exact eqV_monoB _ _ | exact rowB_mono _ _ _ _ | exact true_monoB _))
        (fun j W W' h hb => by rcases j with _ | _ | j <;> first | exact (WrD.grown h hb)) (HB.out) ?_ ?_ ?_
      · intro i o hi ho hc j A W hj hz hMj hk he
        simp only [List.length_cons, List.length_nil, Nat.zero_add, Nat.reduceAdd] at hi
        obtain rfl | rfl | rfl | rfl | rfl : i = 0 ∨ i = 1 ∨ i = 2 ∨ i = 3 ∨ i = 4 := by omega
        · obtain rfl : j = 0 := Nat.le_zero.1 hj
          have hMs : WrD w (V) m (zero48) (zero8) W := hMj
          injection ho with ho; subst ho
          refine .inl ⟨wanted_free rfl, ?_⟩
          have h5 : A.tmps[5]?.getD undef = .pointer (some ⟨w.heap.size, 0, none⟩) := hk 5 (by rfl)
          exact y_load (cs := vsC (V)) rfl h5 (sits_range (hMs.at5)) Try.underlying33 rfl rsSize
        · have hj2 : j ≤ 1 := hj
          rcases j with _ | _ | j
          · have hMs : WrD w (V) m (zero48) (zero8) W := hMj
            injection ho with ho; subst ho
            refine .inl ⟨wanted_free rfl, ?_⟩
            have h13 : A.tmps[13]?.getD undef = .pointer (some ⟨w.heap.size + 1 + 1 + 1 + 1, 0, none⟩) := hk 13 (by rfl)
            exact y_load (cs := vwC (zeroF)) rfl h13 (sits_range (hMs.at13)) Try.underlying30 rfl rvSize
          · have hMs : WrD w (V) m (vsC (V)) (zero8) W := hMj
            injection ho with ho; subst ho
            refine .inl ⟨wanted_free rfl, ?_⟩
            have h13 : A.tmps[13]?.getD undef = .pointer (some ⟨w.heap.size + 1 + 1 + 1 + 1, 0, none⟩) := hk 13 (by rfl)
            exact y_load (cs := vwC (zeroF)) rfl h13 (sits_range (hMs.at13)) Try.underlying30 rfl rvSize
          · omega
        · exact absurd hc (by decide)
        · exact absurd hc (by decide)
        · injection ho with ho; subst ho
          refine .inl ⟨wanted_free rfl, ?_⟩
          go_simp
          exact ⟨rfl, Below.refl _ _⟩
      · intro j i o hji ho A W hz hMj hk he
        rcases j with _ | _ | j
        · obtain rfl : 2 = i := Option.some.inj hji
          injection ho with ho; subst ho
          refine .inl ⟨wanted_free rfl, ?_⟩
          have hMs : WrD w (V) m (zero48) (zero8) W := hMj
          have h10 : A.tmps[10]?.getD undef = .pointer (some ⟨w.heap.size + 1 + 1, 0, none⟩) := hk 10 (by rfl)
          have h45 : A.tmps[45]?.getD undef = .agg (vsC (V)) := he 0 (by kernel_rfl) (by rfl)
          exact y_store rfl h10 h45 hMs.at10 (by rw [vsC_size]; exact rsSize) (zero48_size.trans (vsC_size _).symm) (vsC_one _) (by have := HB.out.grow; omega) (fun _ _ => trivial) (hMs.out _)
        · obtain rfl : 3 = i := Option.some.inj hji
          injection ho with ho; subst ho
          refine .inl ⟨wanted_free rfl, ?_⟩
          have hMs : WrD w (V) m (vsC (V)) (zero8) W := hMj
          have h11 : A.tmps[11]?.getD undef = .pointer (some ⟨w.heap.size + 1 + 1 + 1, 0, none⟩) := hk 11 (by rfl)
          have h46 : A.tmps[46]?.getD undef = .agg (vwC (zeroF)) := he 1 (by kernel_rfl) (by rfl)
          exact y_store rfl h11 h46 hMs.at11 rvSize rfl (vwC_one _) (by have := HB.out.grow; omega) (fun _ _ => trivial) (hMs.out2 _)
        · simp at hji
      · intro xs W hz hMe hV
        have hMe : WrD w (V) m (vsC (V)) (vwC (zeroF)) W := hMe
        have e12 : xs 4 = .bool false := hV 4 (by simp) rfl
        simp only [putM, Act.put, List.setIfInBounds_toArray, List.set_cons_zero, List.set_cons_succ, Nat.zero_add, Nat.reduceAdd, e12]
        clear hV e12
        generalize W = WL at hMe ⊢
        have HZ := Lib.hid hMe
        clear hMe hz HB
        go_wp2_with fail
        exact bodyPost_ret (v := .tuple #[.agg (vsC (V)), .agg (vwC (zeroF)), .bool false]) (dresult_svb Try.results10 rfl rfl rfl HZ.out.at10 HZ.out.at11) rfl ⟨by rw [hv.out, hm.out, hk.out], HZ.out.low⟩
    have hk : Hid (writeOk V loc tt 1 = true) := Lib.hid (by unfold writeOk; rw [HN.out]; simp [hlow]; omega)
    have hv : Hid (dwriteV V loc tt 1 = dwU V l tt) := Lib.hid (by unfold dwriteV; rw [hk.out, HN.out]; rfl)
    have hm : Hid (dwriteM V loc tt 1 m = zeroF) := Lib.hid (by unfold dwriteM; rw [hk.out, HN.out]; rfl)
    clear hlow
    subst hloc
    go_enter Try.func10, Try.ntmps10
    go_upto_region 2 with (fail)
    generalize ((((w.alloc (.cells (vsC V) 33)).alloc (.cells (vwC m) 30)).alloc (.cells zero48 33)).alloc (.cells zero8 30)).alloc (.cells zero8 30) = w0 at HB ⊢
    have d0 : w0.cell? ⟨w.heap.size, 4 + l, none⟩ = some (.int .i64 (V 0 (l + 4))) := by rw [Nat.add_comm 4 l]; exact HB.out.cur (l + 4) (by have := HL.out; omega)
    have i0 : (0 : Int) ≤ (l : Int) := by omega
    have i4 : (l : Int) < 4 := by have := HL.out; omega
    go_upto_region 4 with (fail)
    clear d0 hfr
    refine wp_flowS1 [some 47, some 48, some 49, some 50, some 51, some 52, none] [6] [0, 0, 0, 0, 0, 0, 0] [eqV (.pointer (some ⟨w.heap.size, 0, none⟩)), eqV (.agg (vwC (V 0))), eqV (.int .i64 (l : Nat)), eqV (.int .i64 tt), eqV (.agg (vwC (knowsF (V 0) l tt true))), eqV (.pointer (some ⟨w.heap.size, 0, none⟩)), fun _ _ => True] (fun j W => match j with | 0 => WrD w (V) m zero48 zero8 W | _ => WrD w (setV V (0) (knowsF (V 0) l tt true)) m zero48 zero8 W) (by kernel_rfl) (by kernel_rfl) (by kernel_rfl) (by rfl)
      (by simp only [List.mem_cons, List.not_mem_nil, or_false, forall_eq_or_imp, forall_eq]; refine ⟨?_, ?_, ?_, ?_, ?_, ?_, ?_⟩ <;> (first | exact eqV_monoB _ _ | exact rowB_mono _ _ _ _ | exact true_monoB _))
      (fun j W W' h hb => by rcases j with _ | j <;> first | exact (WrD.grown h hb)) (HB.out) ?_ ?_ ?_
    · intro i o hi ho hc j A W hj hz hMj hk he
      simp only [List.length_cons, List.length_nil, Nat.zero_add, Nat.reduceAdd] at hi
      obtain rfl | rfl | rfl | rfl | rfl | rfl | rfl : i = 0 ∨ i = 1 ∨ i = 2 ∨ i = 3 ∨ i = 4 ∨ i = 5 ∨ i = 6 := by omega
      · injection ho with ho; subst ho
        refine .inl ⟨wanted_free rfl, ?_⟩
        have h5 : A.tmps[5]?.getD undef = .pointer (some ⟨w.heap.size, 0, none⟩) := hk 5 (by rfl)
        go_simp
        exact ⟨rfl, Below.refl _ _⟩
      · obtain rfl : j = 0 := hj
        have hMs : WrD w (V) m zero48 zero8 W := hMj
        injection ho with ho; subst ho
        refine .inl ⟨wanted_free rfl, ?_⟩
        have h47 : A.tmps[47]?.getD undef = .pointer (some ⟨w.heap.size, 0, none⟩) := he 0 (by kernel_rfl) (by rfl)
        exact y_load (cs := vwC (V 0)) rfl h47 (vs_range (V := V) (hMs.at5) (0) _ (by omega) rfl) Try.underlying30 rfl rvSize
      · injection ho with ho; subst ho
        refine .inl ⟨wanted_free rfl, ?_⟩
        have h1 : A.tmps[1]?.getD undef = .int .i64 (l : Nat) := hk 1 (by rfl)
        go_simp
        exact ⟨rfl, Below.refl _ _⟩
      · injection ho with ho; subst ho
        refine .inl ⟨wanted_free rfl, ?_⟩
        have h2 : A.tmps[2]?.getD undef = .int .i64 tt := hk 2 (by rfl)
        go_simp
        exact ⟨rfl, Below.refl _ _⟩
      · obtain rfl : j = 0 := hj
        have hMs : WrD w (V) m zero48 zero8 W := hMj
        injection ho with ho; subst ho
        refine .inl ⟨wanted_free rfl, ?_⟩
        have h48 : A.tmps[48]?.getD undef = .agg (vwC (V 0)) := he 1 (by kernel_rfl) (by rfl)
        have h49 : A.tmps[49]?.getD undef = .int .i64 (l : Nat) := he 2 (by kernel_rfl) (by rfl)
        have h50 : A.tmps[50]?.getD undef = .int .i64 tt := he 3 (by kernel_rfl) (by rfl)
        go_simp
        refine Calls.mono (knows_any (V 0) l HL.out tt true W) ?_
        rintro e' w' ⟨rfl, hb⟩
        exact ⟨_, rfl, rfl, hb⟩
      · injection ho with ho; subst ho
        refine .inl ⟨wanted_free rfl, ?_⟩
        have h5 : A.tmps[5]?.getD undef = .pointer (some ⟨w.heap.size, 0, none⟩) := hk 5 (by rfl)
        go_simp
        exact ⟨rfl, Below.refl _ _⟩
      · exact absurd hc (by decide)
    · intro j i o hji ho A W hz hMj hk he
      rcases j with _ | j
      · obtain rfl : 6 = i := Option.some.inj hji
        injection ho with ho; subst ho
        refine .inl ⟨wanted_free rfl, ?_⟩
        have hMs : WrD w (V) m zero48 zero8 W := hMj
        have h52 : A.tmps[52]?.getD undef = .pointer (some ⟨w.heap.size, 0, none⟩) := he 5 (by kernel_rfl) (by rfl)
        have h51 : A.tmps[51]?.getD undef = .agg (vwC (knowsF (V 0) l tt true)) := he 4 (by kernel_rfl) (by rfl)
        exact y_storeK rfl h52 h51 hMs.at5 (k := 0) (by omega) (by omega) rvSize (by have := HB.out.grow; omega) (fun _ _ => trivial) (hMs.setK (0) _ _ (by omega))
      · simp at hji
    · intro xs W hz hMe hV
      have hMe : WrD w (setV V (0) (knowsF (V 0) l tt true)) m zero48 zero8 W := hMe
      simp only [putM, Act.put, List.setIfInBounds_toArray, List.set_cons_zero, List.set_cons_succ, Nat.zero_add, Nat.reduceAdd]
      clear hV
      generalize W = X1 at hMe ⊢
      have HX1 := Lib.hid hMe
      clear hMe hz HB
      go_upto_region 5 with (fail)
      refine wp_flowS1 [some 53, some 54, some 55, some 56, some 57, some 58, none] [6] [0, 0, 0, 0, 0, 0, 0] [eqV (.pointer (some ⟨w.heap.size, 8, none⟩)), eqV (.agg (vwC (V 1))), eqV (.int .i64 (l : Nat)), eqV (.int .i64 tt), eqV (.agg (vwC (knowsF (V 1) l tt true))), eqV (.pointer (some ⟨w.heap.size, 8, none⟩)), fun _ _ => True] (fun j W => match j with | 0 => WrD w (setV V (0) (knowsF (V 0) l tt true)) m zero48 zero8 W | _ => WrD w (setV (setV V (0) (knowsF (V 0) l tt true)) (1) (knowsF (V 1) l tt true)) m zero48 zero8 W) (by kernel_rfl) (by kernel_rfl) (by kernel_rfl) (by rfl)
        (by simp only [List.mem_cons, List.not_mem_nil, or_false, forall_eq_or_imp, forall_eq]; refine ⟨?_, ?_, ?_, ?_, ?_, ?_, ?_⟩ <;> (first | exact eqV_monoB _ _ | exact rowB_mono _ _ _ _ | exact true_monoB _))
        (fun j W W' h hb => by rcases j with _ | j <;> first | exact (WrD.grown h hb)) (HX1.out) ?_ ?_ ?_
      · intro i o hi ho hc j A W hj hz hMj hk he
        simp only [List.length_cons, List.length_nil, Nat.zero_add, Nat.reduceAdd] at hi
        obtain rfl | rfl | rfl | rfl | rfl | rfl | rfl : i = 0 ∨ i = 1 ∨ i = 2 ∨ i = 3 ∨ i = 4 ∨ i = 5 ∨ i = 6 := by omega
        · injection ho with ho; subst ho
          refine .inl ⟨wanted_free rfl, ?_⟩
          have h5 : A.tmps[5]?.getD undef = .pointer (some ⟨w.heap.size, 0, none⟩) := hk 5 (by rfl)
          go_simp
          exact ⟨rfl, Below.refl _ _⟩
        · obtain rfl : j = 0 := hj
          have hMs : WrD w (setV V (0) (knowsF (V 0) l tt true)) m zero48 zero8 W := hMj
          injection ho with ho; subst ho
          refine .inl ⟨wanted_free rfl, ?_⟩
          have h53 : A.tmps[53]?.getD undef = .pointer (some ⟨w.heap.size, 8, none⟩) := he 0 (by kernel_rfl) (by rfl)
          exact y_load (cs := vwC (V 1)) rfl h53 (vs_range (V := setV V (0) (knowsF (V 0) l tt true)) (hMs.at5) (1) _ (by omega) rfl) Try.underlying30 rfl rvSize
        · injection ho with ho; subst ho
          refine .inl ⟨wanted_free rfl, ?_⟩
          have h1 : A.tmps[1]?.getD undef = .int .i64 (l : Nat) := hk 1 (by rfl)
          go_simp
          exact ⟨rfl, Below.refl _ _⟩
        · injection ho with ho; subst ho
          refine .inl ⟨wanted_free rfl, ?_⟩
          have h2 : A.tmps[2]?.getD undef = .int .i64 tt := hk 2 (by rfl)
          go_simp
          exact ⟨rfl, Below.refl _ _⟩
        · obtain rfl : j = 0 := hj
          have hMs : WrD w (setV V (0) (knowsF (V 0) l tt true)) m zero48 zero8 W := hMj
          injection ho with ho; subst ho
          refine .inl ⟨wanted_free rfl, ?_⟩
          have h54 : A.tmps[54]?.getD undef = .agg (vwC (V 1)) := he 1 (by kernel_rfl) (by rfl)
          have h55 : A.tmps[55]?.getD undef = .int .i64 (l : Nat) := he 2 (by kernel_rfl) (by rfl)
          have h56 : A.tmps[56]?.getD undef = .int .i64 tt := he 3 (by kernel_rfl) (by rfl)
          go_simp
          refine Calls.mono (knows_any (V 1) l HL.out tt true W) ?_
          rintro e' w' ⟨rfl, hb⟩
          exact ⟨_, rfl, rfl, hb⟩
        · injection ho with ho; subst ho
          refine .inl ⟨wanted_free rfl, ?_⟩
          have h5 : A.tmps[5]?.getD undef = .pointer (some ⟨w.heap.size, 0, none⟩) := hk 5 (by rfl)
          go_simp
          exact ⟨rfl, Below.refl _ _⟩
        · exact absurd hc (by decide)
      · intro j i o hji ho A W hz hMj hk he
        rcases j with _ | j
        · obtain rfl : 6 = i := Option.some.inj hji
          injection ho with ho; subst ho
          refine .inl ⟨wanted_free rfl, ?_⟩
          have hMs : WrD w (setV V (0) (knowsF (V 0) l tt true)) m zero48 zero8 W := hMj
          have h58 : A.tmps[58]?.getD undef = .pointer (some ⟨w.heap.size, 8, none⟩) := he 5 (by kernel_rfl) (by rfl)
          have h57 : A.tmps[57]?.getD undef = .agg (vwC (knowsF (V 1) l tt true)) := he 4 (by kernel_rfl) (by rfl)
          exact y_storeK rfl h58 h57 hMs.at5 (k := 1) (by omega) (by omega) rvSize (by have := HX1.out.grow; omega) (fun _ _ => trivial) (hMs.setK (1) _ _ (by omega))
        · simp at hji
      · intro xs W hz hMe hV
        have hMe : WrD w (setV (setV V (0) (knowsF (V 0) l tt true)) (1) (knowsF (V 1) l tt true)) m zero48 zero8 W := hMe
        simp only [putM, Act.put, List.setIfInBounds_toArray, List.set_cons_zero, List.set_cons_succ, Nat.zero_add, Nat.reduceAdd]
        clear hV
        generalize W = X2 at hMe ⊢
        have HX2 := Lib.hid hMe
        clear hMe hz HX1
        go_upto_region 6 with (fail)
        refine wp_flowS1 [some 59, some 60, some 61, some 62, some 63, some 64, some 65, some 66, some 67, some 68, none] [10] [0, 0, 0, 0, 0, 0, 0, 0, 0, 0, 0] [eqV (.int .i64 (l : Nat)), eqV (.int .i64 (l : Nat)), eqV (.pointer (some ⟨w.heap.size, 16, none⟩)), eqV (.pointer (some ⟨w.heap.size, 16 + l * 8, none⟩)), eqV (.agg (vwC ((setV (setV V (0) (knowsF (V 0) l tt true)) (1) (knowsF (V 1) l tt true)) (l + 2)))), eqV (.int .i64 (l : Nat)), eqV (.int .i64 tt), eqV (.agg (vwC (knowsF ((setV (setV V (0) (knowsF (V 0) l tt true)) (1) (knowsF (V 1) l tt true)) (l + 2)) l tt true))), eqV (.pointer (some ⟨w.heap.size, 16, none⟩)), eqV (.pointer (some ⟨w.heap.size, 16 + l * 8, none⟩)), fun _ _ => True] (fun j W => match j with | 0 => WrD w (setV (setV V (0) (knowsF (V 0) l tt true)) (1) (knowsF (V 1) l tt true)) m zero48 zero8 W | _ => WrD w (dwU V l tt) m zero48 zero8 W) (by kernel_rfl) (by kernel_rfl) (by kernel_rfl) (by rfl)
          (by simp only [List.mem_cons, List.not_mem_nil, or_false, forall_eq_or_imp, forall_eq]; refine ⟨?_, ?_, ?_, ?_, ?_, ?_, ?_, ?_, ?_, ?_, ?_⟩ <;> (first | exact eqV_monoB _ _ | exact rowB_mono _ _ _ _ | exact true_monoB _))
          (fun j W W' h hb => by rcases j with _ | j <;> first | exact (WrD.grown h hb)) (HX2.out) ?_ ?_ ?_
        · intro i o hi ho hc j A W hj hz hMj hk he
          simp only [List.length_cons, List.length_nil, Nat.zero_add, Nat.reduceAdd] at hi
          obtain rfl | rfl | rfl | rfl | rfl | rfl | rfl | rfl | rfl | rfl | rfl : i = 0 ∨ i = 1 ∨ i = 2 ∨ i = 3 ∨ i = 4 ∨ i = 5 ∨ i = 6 ∨ i = 7 ∨ i = 8 ∨ i = 9 ∨ i = 10 := by omega
          · injection ho with ho; subst ho
            refine .inl ⟨wanted_free rfl, ?_⟩
            have h1 : A.tmps[1]?.getD undef = .int .i64 (l : Nat) := hk 1 (by rfl)
            go_simp
            exact ⟨rfl, Below.refl _ _⟩
          · injection ho with ho; subst ho
            refine .inl ⟨wanted_free rfl, ?_⟩
            have h1 : A.tmps[1]?.getD undef = .int .i64 (l : Nat) := hk 1 (by rfl)
            go_simp
            exact ⟨rfl, Below.refl _ _⟩
          · injection ho with ho; subst ho
            refine .inl ⟨wanted_free rfl, ?_⟩
            have h5 : A.tmps[5]?.getD undef = .pointer (some ⟨w.heap.size, 0, none⟩) := hk 5 (by rfl)
            go_simp
            exact ⟨rfl, Below.refl _ _⟩
          · injection ho with ho; subst ho
            refine .inl ⟨wanted_free rfl, ?_⟩
            have h61 : A.tmps[61]?.getD undef = .pointer (some ⟨w.heap.size, 16, none⟩) := he 2 (by kernel_rfl) (by rfl)
            have h60 : A.tmps[60]?.getD undef = .int .i64 (l : Nat) := he 1 (by kernel_rfl) (by rfl)
            go_simp
            exact ⟨rfl, Below.refl _ _⟩
          · obtain rfl : j = 0 := hj
            have hMs : WrD w (setV (setV V (0) (knowsF (V 0) l tt true)) (1) (knowsF (V 1) l tt true)) m zero48 zero8 W := hMj
            injection ho with ho; subst ho
            refine .inl ⟨wanted_free rfl, ?_⟩
            have h62 : A.tmps[62]?.getD undef = .pointer (some ⟨w.heap.size, 16 + l * 8, none⟩) := he 3 (by kernel_rfl) (by rfl)
            exact y_load (cs := vwC ((setV (setV V (0) (knowsF (V 0) l tt true)) (1) (knowsF (V 1) l tt true)) (l + 2))) rfl h62 (vs_range (V := setV (setV V (0) (knowsF (V 0) l tt true)) (1) (knowsF (V 1) l tt true)) (hMs.at5) ((l + 2)) _ (by have := HL.out; omega) (by omega)) Try.underlying30 rfl rvSize
          · injection ho with ho; subst ho
            refine .inl ⟨wanted_free rfl, ?_⟩
            have h1 : A.tmps[1]?.getD undef = .int .i64 (l : Nat) := hk 1 (by rfl)
            go_simp
            exact ⟨rfl, Below.refl _ _⟩
          · injection ho with ho; subst ho
            refine .inl ⟨wanted_free rfl, ?_⟩
            have h2 : A.tmps[2]?.getD undef = .int .i64 tt := hk 2 (by rfl)
            go_simp
            exact ⟨rfl, Below.refl _ _⟩
          · obtain rfl : j = 0 := hj
            have hMs : WrD w (setV (setV V (0) (knowsF (V 0) l tt true)) (1) (knowsF (V 1) l tt true)) m zero48 zero8 W := hMj
            injection ho with ho; subst ho
            refine .inl ⟨wanted_free rfl, ?_⟩
            have h63 : A.tmps[63]?.getD undef = .agg (vwC ((setV (setV V (0) (knowsF (V 0) l tt true)) (1) (knowsF (V 1) l tt true)) (l + 2))) := he 4 (by kernel_rfl) (by rfl)
            have h64 : A.tmps[64]?.getD undef = .int .i64 (l : Nat) := he 5 (by kernel_rfl) (by rfl)
            have h65 : A.tmps[65]?.getD undef = .int .i64 tt := he 6 (by kernel_rfl) (by rfl)
            go_simp
            refine Calls.mono (knows_any ((setV (setV V (0) (knowsF (V 0) l tt true)) (1) (knowsF (V 1) l tt true)) (l + 2)) l HL.out tt true W) ?_
            rintro e' w' ⟨rfl, hb⟩
            exact ⟨_, rfl, rfl, hb⟩
          · injection ho with ho; subst ho
            refine .inl ⟨wanted_free rfl, ?_⟩
            have h5 : A.tmps[5]?.getD undef = .pointer (some ⟨w.heap.size, 0, none⟩) := hk 5 (by rfl)
            go_simp
            exact ⟨rfl, Below.refl _ _⟩
          · injection ho with ho; subst ho
            refine .inl ⟨wanted_free rfl, ?_⟩
            have h67 : A.tmps[67]?.getD undef = .pointer (some ⟨w.heap.size, 16, none⟩) := he 8 (by kernel_rfl) (by rfl)
            have h59 : A.tmps[59]?.getD undef = .int .i64 (l : Nat) := he 0 (by kernel_rfl) (by rfl)
            go_simp
            exact ⟨rfl, Below.refl _ _⟩
          · exact absurd hc (by decide)
        · intro j i o hji ho A W hz hMj hk he
          rcases j with _ | j
          · obtain rfl : 10 = i := Option.some.inj hji
            injection ho with ho; subst ho
            refine .inl ⟨wanted_free rfl, ?_⟩
            have hMs : WrD w (setV (setV V (0) (knowsF (V 0) l tt true)) (1) (knowsF (V 1) l tt true)) m zero48 zero8 W := hMj
            have h68 : A.tmps[68]?.getD undef = .pointer (some ⟨w.heap.size, 16 + l * 8, none⟩) := he 9 (by kernel_rfl) (by rfl)
            have h66 : A.tmps[66]?.getD undef = .agg (vwC (knowsF ((setV (setV V (0) (knowsF (V 0) l tt true)) (1) (knowsF (V 1) l tt true)) (l + 2)) l tt true)) := he 7 (by kernel_rfl) (by rfl)
            exact y_storeK rfl h68 h66 hMs.at5 (k := l + 2) (by have := HL.out; omega) (by omega) rvSize (by have := HX2.out.grow; omega) (fun _ _ => trivial) (by have h := hMs.setK (l + 2) (16 + l * 8) (knowsF ((setV (setV V (0) (knowsF (V 0) l tt true)) (1) (knowsF (V 1) l tt true)) (l + 2)) l tt true) (by omega); rwa [dw_far] at h)
          · simp at hji
        · intro xs W hz hMe hV
          have hMe : WrD w (dwU V l tt) m zero48 zero8 W := hMe
          simp only [putM, Act.put, List.setIfInBounds_toArray, List.set_cons_zero, List.set_cons_succ, Nat.zero_add, Nat.reduceAdd]
          clear hV
          generalize W = X3 at hMe ⊢
          have HX3 := Lib.hid hMe
          clear hMe hz HX2
          go_upto_region 10 with (fail)
          refine wp_flowM [some 83, some 84, none, none, some 12] [2, 3] [0, 1, 0, 0, 2] [eqV (.agg (vsC (dwU V l tt))), eqV (.agg (vwC (zeroF))), fun _ _ => True, fun _ _ => True, eqV (.bool true)] (fun j W => match j with | 0 => WrD w (dwU V l tt) m (zero48) (zero8) W | 1 => WrD w (dwU V l tt) m (vsC (dwU V l tt)) (zero8) W | _ => WrD w (dwU V l tt) m (vsC (dwU V l tt)) (vwC (zeroF)) W) (by kernel_rfl) (by kernel_rfl) (by kernel_rfl) (by rfl)
            (by simp only [List.mem_cons, List.not_mem_nil, or_false, forall_eq_or_imp, forall_eq]; refine ⟨?_, ?_, ?_, ?_, ?_⟩ <;> (first | exact eqV_monoB _ _ | exact rowB_mono _ _ _ _ | exact true_monoB _))
            (fun j W W' h hb => by rcases j with _ | _ | j <;> first | exact (WrD.grown h hb)) (HX3.out) ?_ ?_ ?_
          · intro i o hi ho hc j A W hj hz hMj hk he
            simp only [List.length_cons, List.length_nil, Nat.zero_add, Nat.reduceAdd] at hi
            obtain rfl | rfl | rfl | rfl | rfl : i = 0 ∨ i = 1 ∨ i = 2 ∨ i = 3 ∨ i = 4 := by omega
            · obtain rfl : j = 0 := Nat.le_zero.1 hj
              have hMs : WrD w (dwU V l tt) m (zero48) (zero8) W := hMj
              injection ho with ho; subst ho
              refine .inl ⟨wanted_free rfl, ?_⟩
              have h5 : A.tmps[5]?.getD undef = .pointer (some ⟨w.heap.size, 0, none⟩) := hk 5 (by rfl)
              exact y_load (cs := vsC (dwU V l tt)) rfl h5 (sits_range (hMs.at5)) Try.underlying33 rfl rsSize
            · have hj2 : j ≤ 1 := hj
              rcases j with _ | _ | j
              · have hMs : WrD w (dwU V l tt) m (zero48) (zero8) W := hMj
                injection ho with ho; subst ho
                refine .inl ⟨wanted_free rfl, ?_⟩
                have h13 : A.tmps[13]?.getD undef = .pointer (some ⟨w.heap.size + 1 + 1 + 1 + 1, 0, none⟩) := hk 13 (by rfl)
                exact y_load (cs := vwC (zeroF)) rfl h13 (sits_range (hMs.at13)) Try.underlying30 rfl rvSize
              · have hMs : WrD w (dwU V l tt) m (vsC (dwU V l tt)) (zero8) W := hMj
                injection ho with ho; subst ho
                refine .inl ⟨wanted_free rfl, ?_⟩
                have h13 : A.tmps[13]?.getD undef = .pointer (some ⟨w.heap.size + 1 + 1 + 1 + 1, 0, none⟩) := hk 13 (by rfl)
                exact y_load (cs := vwC (zeroF)) rfl h13 (sits_range (hMs.at13)) Try.underlying30 rfl rvSize
              · omega
            · exact absurd hc (by decide)
            · exact absurd hc (by decide)
            · injection ho with ho; subst ho
              refine .inl ⟨wanted_free rfl, ?_⟩
              go_simp
              exact ⟨rfl, Below.refl _ _⟩
          · intro j i o hji ho A W hz hMj hk he
            rcases j with _ | _ | j
            · obtain rfl : 2 = i := Option.some.inj hji
              injection ho with ho; subst ho
              refine .inl ⟨wanted_free rfl, ?_⟩
              have hMs : WrD w (dwU V l tt) m (zero48) (zero8) W := hMj
              have h10 : A.tmps[10]?.getD undef = .pointer (some ⟨w.heap.size + 1 + 1, 0, none⟩) := hk 10 (by rfl)
              have h83 : A.tmps[83]?.getD undef = .agg (vsC (dwU V l tt)) := he 0 (by kernel_rfl) (by rfl)
              exact y_store rfl h10 h83 hMs.at10 (by rw [vsC_size]; exact rsSize) (zero48_size.trans (vsC_size _).symm) (vsC_one _) (by have := HX3.out.grow; omega) (fun _ _ => trivial) (hMs.out _)
            · obtain rfl : 3 = i := Option.some.inj hji
              injection ho with ho; subst ho
              refine .inl ⟨wanted_free rfl, ?_⟩
              have hMs : WrD w (dwU V l tt) m (vsC (dwU V l tt)) (zero8) W := hMj
              have h11 : A.tmps[11]?.getD undef = .pointer (some ⟨w.heap.size + 1 + 1 + 1, 0, none⟩) := hk 11 (by rfl)
              have h84 : A.tmps[84]?.getD undef = .agg (vwC (zeroF)) := he 1 (by kernel_rfl) (by rfl)
              exact y_store rfl h11 h84 hMs.at11 rvSize rfl (vwC_one _) (by have := HX3.out.grow; omega) (fun _ _ => trivial) (hMs.out2 _)
            · simp at hji
          · intro xs W hz hMe hV
            have hMe : WrD w (dwU V l tt) m (vsC (dwU V l tt)) (vwC (zeroF)) W := hMe
            have e12 : xs 4 = .bool true := hV 4 (by simp) rfl
            simp only [putM, Act.put, List.setIfInBounds_toArray, List.set_cons_zero, List.set_cons_succ, Nat.zero_add, Nat.reduceAdd, e12]
            clear hV e12
            generalize W = WL at hMe ⊢
            have HZ := Lib.hid hMe
            clear hMe hz HX3
            go_wp2_with fail
            exact bodyPost_ret (v := .tuple #[.agg (vsC (dwU V l tt)), .agg (vwC (zeroF)), .bool true]) (dresult_svb Try.results10 rfl rfl rfl HZ.out.at10 HZ.out.at11) rfl ⟨by rw [hv.out, hm.out, hk.out], HZ.out.low⟩
  by_cases h2 : mo = 2
  ·
    subst h2
    clear q1 h1
    by_cases hfr : tt ≤ V 0 (l + 4)
    ·
      have hk : Hid (writeOk V loc tt 2 = false) := Lib.hid (by unfold writeOk; rw [HN.out]; simp [hlow]; omega)
      have hv : Hid (dwriteV V loc tt 2 = V) := Lib.hid (by unfold dwriteV; rw [hk.out]; rfl)
      have hm : Hid (dwriteM V loc tt 2 m = zeroF) := Lib.hid (by unfold dwriteM; rw [hk.out]; rfl)
      clear hlow
      subst hloc
      go_enter Try.func10, Try.ntmps10
      go_upto_region 2 with (fail)
      generalize ((((w.alloc (.cells (vsC V) 33)).alloc (.cells (vwC m) 30)).alloc (.cells zero48 33)).alloc (.cells zero8 30)).alloc (.cells zero8 30) = w0 at HB ⊢
      have d0 : w0.cell? ⟨w.heap.size, 4 + l, none⟩ = some (.int .i64 (V 0 (l + 4))) := by rw [Nat.add_comm 4 l]; exact HB.out.cur (l + 4) (by have := HL.out; omega)
      have i0 : (0 : Int) ≤ (l : Int) := by omega
      have i4 : (l : Int) < 4 := by have := HL.out; omega
      go_upto_region 3 with (fail)
      clear d0
      refine wp_flowM [some 45, some 46, none, none, some 12] [2, 3] [0, 1, 0, 0, 2] [eqV (.agg (vsC (V))), eqV (.agg (vwC (zeroF))), fun _ _ => True, fun _ _ => True, eqV (.bool false)] (fun j W => match j with | 0 => WrD w (V) m (zero48) (zero8) W | 1 => WrD w (V) m (vsC (V)) (zero8) W | _ => WrD w (V) m (vsC (V)) (vwC (zeroF)) W) (by kernel_rfl) (by kernel_rfl) (by kernel_rfl) (by rfl)
        (by simp only [List.mem_cons, List.not_mem_nil, or_false, forall_eq_or_imp, forall_eq]; refine ⟨?_, ?_, ?_, ?_, ?_⟩ <;> (first | exact eqV_monoB _ _ | exact rowB_mono _ _ _ _ | exact true_monoB _))
        (fun j W W' h hb => by rcases j with _ | _ | j <;> first | exact (WrD.grown h hb)) (HB.out) ?_ ?_ ?_
      · intro i o hi ho hc j A W hj hz hMj hk he
        simp only [List.length_cons, List.length_nil, Nat.zero_add, Nat.reduceAdd] at hi
        obtain rfl | rfl | rfl | rfl | rfl : i = 0 ∨ i = 1 ∨ i = 2 ∨ i = 3 ∨ i = 4 := by omega
        · obtain rfl : j = 0 := Nat.le_zero.1 hj
          have hMs : WrD w (V) m (zero48) (zero8) W := hMj
          injection ho with ho; subst ho
          refine .inl ⟨wanted_free rfl, ?_⟩
          have h5 : A.tmps[5]?.getD undef = .pointer (some ⟨w.heap.size, 0, none⟩) := hk 5 (by rfl)
          exact y_load (cs := vsC (V)) rfl h5 (sits_range (hMs.at5)) Try.underlying33 rfl rsSize
        · have hj2 : j ≤ 1 := hj
          rcases j with _ | _ | j
          · have hMs : WrD w (V) m (zero48) (zero8) W := hMj
            injection ho with ho; subst ho
            refine .inl ⟨wanted_free rfl, ?_⟩
            have h13 : A.tmps[13]?.getD undef = .pointer (some ⟨w.heap.size + 1 + 1 + 1 + 1, 0, none⟩) := hk 13 (by rfl)
            exact y_load (cs := vwC (zeroF)) rfl h13 (sits_range (hMs.at13)) Try.underlying30 rfl rvSize
          · have hMs : WrD w (V) m (vsC (V)) (zero8) W := hMj
            injection ho with ho; subst ho
            refine .inl ⟨wanted_free rfl, ?_⟩
            have h13 : A.tmps[13]?.getD undef = .pointer (some ⟨w.heap.size + 1 + 1 + 1 + 1, 0, none⟩) := hk 13 (by rfl)
            exact y_load (cs := vwC (zeroF)) rfl h13 (sits_range (hMs.at13)) Try.underlying30 rfl rvSize
          · omega
        · exact absurd hc (by decide)
        · exact absurd hc (by decide)
        · injection ho with ho; subst ho
          refine .inl ⟨wanted_free rfl, ?_⟩
          go_simp
          exact ⟨rfl, Below.refl _ _⟩
      · intro j i o hji ho A W hz hMj hk he
        rcases j with _ | _ | j
        · obtain rfl : 2 = i := Option.some.inj hji
          injection ho with ho; subst ho
          refine .inl ⟨wanted_free rfl, ?_⟩
          have hMs : WrD w (V) m (zero48) (zero8) W := hMj
          have h10 : A.tmps[10]?.getD undef = .pointer (some ⟨w.heap.size + 1 + 1, 0, none⟩) := hk 10 (by rfl)
          have h45 : A.tmps[45]?.getD undef = .agg (vsC (V)) := he 0 (by kernel_rfl) (by rfl)
          exact y_store rfl h10 h45 hMs.at10 (by rw [vsC_size]; exact rsSize) (zero48_size.trans (vsC_size _).symm) (vsC_one _) (by have := HB.out.grow; omega) (fun _ _ => trivial) (hMs.out _)
        · obtain rfl : 3 = i := Option.some.inj hji
          injection ho with ho; subst ho
          refine .inl ⟨wanted_free rfl, ?_⟩
          have hMs : WrD w (V) m (vsC (V)) (zero8) W := hMj
          have h11 : A.tmps[11]?.getD undef = .pointer (some ⟨w.heap.size + 1 + 1 + 1, 0, none⟩) := hk 11 (by rfl)
          have h46 : A.tmps[46]?.getD undef = .agg (vwC (zeroF)) := he 1 (by kernel_rfl) (by rfl)
          exact y_store rfl h11 h46 hMs.at11 rvSize rfl (vwC_one _) (by have := HB.out.grow; omega) (fun _ _ => trivial) (hMs.out2 _)
        · simp at hji
      · intro xs W hz hMe hV
        have hMe : WrD w (V) m (vsC (V)) (vwC (zeroF)) W := hMe
        have e12 : xs 4 = .bool false := hV 4 (by simp) rfl
        simp only [putM, Act.put, List.setIfInBounds_toArray, List.set_cons_zero, List.set_cons_succ, Nat.zero_add, Nat.reduceAdd, e12]
        clear hV e12
        generalize W = WL at hMe ⊢
        have HZ := Lib.hid hMe
        clear hMe hz HB
        go_wp2_with fail
        exact bodyPost_ret (v := .tuple #[.agg (vsC (V)), .agg (vwC (zeroF)), .bool false]) (dresult_svb Try.results10 rfl rfl rfl HZ.out.at10 HZ.out.at11) rfl ⟨by rw [hv.out, hm.out, hk.out], HZ.out.low⟩
    have hk : Hid (writeOk V loc tt 2 = true) := Lib.hid (by unfold writeOk; rw [HN.out]; simp [hlow]; omega)
    have hv : Hid (dwriteV V loc tt 2 = dwU V l tt) := Lib.hid (by unfold dwriteV; rw [hk.out, HN.out]; rfl)
    have hm : Hid (dwriteM V loc tt 2 m = maxF ((dwU V l tt) (l + 2)) m) := Lib.hid (by unfold dwriteM; rw [hk.out, HN.out]; rfl)
    clear hlow
    subst hloc
    go_enter Try.func10, Try.ntmps10
    go_upto_region 2 with (fail)
    generalize ((((w.alloc (.cells (vsC V) 33)).alloc (.cells (vwC m) 30)).alloc (.cells zero48 33)).alloc (.cells zero8 30)).alloc (.cells zero8 30) = w0 at HB ⊢
    have d0 : w0.cell? ⟨w.heap.size, 4 + l, none⟩ = some (.int .i64 (V 0 (l + 4))) := by rw [Nat.add_comm 4 l]; exact HB.out.cur (l + 4) (by have := HL.out; omega)
    have i0 : (0 : Int) ≤ (l : Int) := by omega
    have i4 : (l : Int) < 4 := by have := HL.out; omega
    go_upto_region 4 with (fail)
    clear d0 hfr
    refine wp_flowS1 [some 47, some 48, some 49, some 50, some 51, some 52, none] [6] [0, 0, 0, 0, 0, 0, 0] [eqV (.pointer (some ⟨w.heap.size, 0, none⟩)), eqV (.agg (vwC (V 0))), eqV (.int .i64 (l : Nat)), eqV (.int .i64 tt), eqV (.agg (vwC (knowsF (V 0) l tt true))), eqV (.pointer (some ⟨w.heap.size, 0, none⟩)), fun _ _ => True] (fun j W => match j with | 0 => WrD w (V) m zero48 zero8 W | _ => WrD w (setV V (0) (knowsF (V 0) l tt true)) m zero48 zero8 W) (by kernel_rfl) (by kernel_rfl) (by kernel_rfl) (by rfl)
      (by simp only [List.mem_cons, List.not_mem_nil, or_false, forall_eq_or_imp, forall_eq]; refine ⟨?_, ?_, ?_, ?_, ?_, ?_, ?_⟩ <;> (first | exact eqV_monoB _ _ | exact rowB_mono _ _ _ _ | exact true_monoB _))
      (fun j W W' h hb => by rcases j with _ | j <;> first | exact (WrD.grown h hb)) (HB.out) ?_ ?_ ?_
    · intro i o hi ho hc j A W hj hz hMj hk he
      simp only [List.length_cons, List.length_nil, Nat.zero_add, Nat.reduceAdd] at hi
      obtain rfl | rfl | rfl | rfl | rfl | rfl | rfl : i = 0 ∨ i = 1 ∨ i = 2 ∨ i = 3 ∨ i = 4 ∨ i = 5 ∨ i = 6 := by omega
      · injection ho with ho; subst ho
        refine .inl ⟨wanted_free rfl, ?_⟩
        have h5 : A.tmps[5]?.getD undef = .pointer (some ⟨w.heap.size, 0, none⟩) := hk 5 (by rfl)
        go_simp
        exact ⟨rfl, Below.refl _ _⟩
      · obtain rfl : j = 0 := hj
        have hMs : WrD w (V) m zero48 zero8 W := hMj
        injection ho with ho; subst ho
        refine .inl ⟨wanted_free rfl, ?_⟩
        have h47 : A.tmps[47]?.getD undef = .pointer (some ⟨w.heap.size, 0, none⟩) := he 0 (by kernel_rfl) (by rfl)
        exact y_load (cs := vwC (V 0)) rfl h47 (vs_range (V := V) (hMs.at5) (0) _ (by omega) rfl) Try.underlying30 rfl rvSize
      · injection ho with ho; subst ho
        refine .inl ⟨wanted_free rfl, ?_⟩
        have h1 : A.tmps[1]?.getD undef = .int .i64 (l : Nat) := hk 1 (by rfl)
        go_simp
        exact ⟨rfl, Below.refl _ _⟩
      · injection ho with ho; subst ho
        refine .inl ⟨wanted_free rfl, ?_⟩
        have h2 : A.tmps[2]?.getD undef = .int .i64 tt := hk 2 (by rfl)
        go_simp
        exact ⟨rfl, Below.refl _ _⟩
      · obtain rfl : j = 0 := hj
        have hMs : WrD w (V) m zero48 zero8 W := hMj
        injection ho with ho; subst ho
        refine .inl ⟨wanted_free rfl, ?_⟩
        have h48 : A.tmps[48]?.getD undef = .agg (vwC (V 0)) := he 1 (by kernel_rfl) (by rfl)
        have h49 : A.tmps[49]?.getD undef = .int .i64 (l : Nat) := he 2 (by kernel_rfl) (by rfl)
        have h50 : A.tmps[50]?.getD undef = .int .i64 tt := he 3 (by kernel_rfl) (by rfl)
        go_simp
        refine Calls.mono (knows_any (V 0) l HL.out tt true W) ?_
        rintro e' w' ⟨rfl, hb⟩
        exact ⟨_, rfl, rfl, hb⟩
      · injection ho with ho; subst ho
        refine .inl ⟨wanted_free rfl, ?_⟩
        have h5 : A.tmps[5]?.getD undef = .pointer (some ⟨w.heap.size, 0, none⟩) := hk 5 (by rfl)
        go_simp
        exact ⟨rfl, Below.refl _ _⟩
      · exact absurd hc (by decide)
    · intro j i o hji ho A W hz hMj hk he
      rcases j with _ | j
      · obtain rfl : 6 = i := Option.some.inj hji
        injection ho with ho; subst ho
        refine .inl ⟨wanted_free rfl, ?_⟩
        have hMs : WrD w (V) m zero48 zero8 W := hMj
        have h52 : A.tmps[52]?.getD undef = .pointer (some ⟨w.heap.size, 0, none⟩) := he 5 (by kernel_rfl) (by rfl)
        have h51 : A.tmps[51]?.getD undef = .agg (vwC (knowsF (V 0) l tt true)) := he 4 (by kernel_rfl) (by rfl)
        exact y_storeK rfl h52 h51 hMs.at5 (k := 0) (by omega) (by omega) rvSize (by have := HB.out.grow; omega) (fun _ _ => trivial) (hMs.setK (0) _ _ (by omega))
      · simp at hji
    · intro xs W hz hMe hV
      have hMe : WrD w (setV V (0) (knowsF (V 0) l tt true)) m zero48 zero8 W := hMe
      simp only [putM, Act.put, List.setIfInBounds_toArray, List.set_cons_zero, List.set_cons_succ, Nat.zero_add, Nat.reduceAdd]
      clear hV
      generalize W = X1 at hMe ⊢
      have HX1 := Lib.hid hMe
      clear hMe hz HB
      go_upto_region 5 with (fail)
      refine wp_flowS1 [some 53, some 54, some 55, some 56, some 57, some 58, none] [6] [0, 0, 0, 0, 0, 0, 0] [eqV (.pointer (some ⟨w.heap.size, 8, none⟩)), eqV (.agg (vwC (V 1))), eqV (.int .i64 (l : Nat)), eqV (.int .i64 tt), eqV (.agg (vwC (knowsF (V 1) l tt true))), eqV (.pointer (some ⟨w.heap.size, 8, none⟩)), fun _ _ => True] (fun j W => match j with | 0 => WrD w (setV V (0) (knowsF (V 0) l tt true)) m zero48 zero8 W | _ => WrD w (setV (setV V (0) (knowsF (V 0) l tt true)) (1) (knowsF (V 1) l tt true)) m zero48 zero8 W) (by kernel_rfl) (by kernel_rfl) (by kernel_rfl) (by rfl)
        (by simp only [List.mem_cons, List.not_mem_nil, or_false, forall_eq_or_imp, forall_eq]; refine ⟨?_, ?_, ?_, ?_, ?_, ?_, ?_⟩ <;> (first | exact eqV_monoB _ _ | exact rowB_mono _ _ _ _ | exact true_monoB _))
        (fun j W W' h hb => by rcases j with _ | j <;> first | exact (WrD.grown h hb)) (HX1.out) ?_ ?_ ?_
      · intro i o hi ho hc j A W hj hz hMj hk he
        simp only [List.length_cons, List.length_nil, Nat.zero_add, Nat.reduceAdd] at hi
        obtain rfl | rfl | rfl | rfl | rfl | rfl | rfl : i = 0 ∨ i = 1 ∨ i = 2 ∨ i = 3 ∨ i = 4 ∨ i = 5 ∨ i = 6 := by omega
        · injection ho with ho; subst ho
          refine .inl ⟨wanted_free rfl, ?_⟩
          have h5 : A.tmps[5]?.getD undef = .pointer (some ⟨w.heap.size, 0, none⟩) := hk 5 (by rfl)
          go_simp
          exact ⟨rfl, Below.refl _ _⟩
        · obtain rfl : j = 0 := hj
          have hMs : WrD w (setV V (0) (knowsF (V 0) l tt true)) m zero48 zero8 W := hMj
          injection ho with ho; subst ho
          refine .inl ⟨wanted_free rfl, ?_⟩
          have h53 : A.tmps[53]?.getD undef = .pointer (some ⟨w.heap.size, 8, none⟩) := he 0 (by kernel_rfl) (by rfl)
          exact y_load (cs := vwC (V 1)) rfl h53 (vs_range (V := setV V (0) (knowsF (V 0) l tt true)) (hMs.at5) (1) _ (by omega) rfl) Try.underlying30 rfl rvSize
        · injection ho with ho; subst ho
          refine .inl ⟨wanted_free rfl, ?_⟩
          have h1 : A.tmps[1]?.getD undef = .int .i64 (l : Nat) := hk 1 (by rfl)
          go_simp
          exact ⟨rfl, Below.refl _ _⟩
        · injection ho with ho; subst ho
          refine .inl ⟨wanted_free rfl, ?_⟩
          have h2 : A.tmps[2]?.getD undef = .int .i64 tt := hk 2 (by rfl)
          go_simp
          exact ⟨rfl, Below.refl _ _⟩
        · obtain rfl : j = 0 := hj
          have hMs : WrD w (setV V (0) (knowsF (V 0) l tt true)) m zero48 zero8 W := hMj
          injection ho with ho; subst ho
          refine .inl ⟨wanted_free rfl, ?_⟩
          have h54 : A.tmps[54]?.getD undef = .agg (vwC (V 1)) := he 1 (by kernel_rfl) (by rfl)
          have h55 : A.tmps[55]?.getD undef = .int .i64 (l : Nat) := he 2 (by kernel_rfl) (by rfl)
          have h56 : A.tmps[56]?.getD undef = .int .i64 tt := he 3 (by kernel_rfl) (by rfl)
          go_simp
          refine Calls.mono (knows_any (V 1) l HL.out tt true W) ?_
          rintro e' w' ⟨rfl, hb⟩
          exact ⟨_, rfl, rfl, hb⟩
        · injection ho with ho; subst ho
          refine .inl ⟨wanted_free rfl, ?_⟩
          have h5 : A.tmps[5]?.getD undef = .pointer (some ⟨w.heap.size, 0, none⟩) := hk 5 (by rfl)
          go_simp
          exact ⟨rfl, Below.refl _ _⟩
        · exact absurd hc (by decide)
      · intro j i o hji ho A W hz hMj hk he
        rcases j with _ | j
        · obtain rfl : 6 = i := Option.some.inj hji
          injection ho with ho; subst ho
          refine .inl ⟨wanted_free rfl, ?_⟩
          have hMs : WrD w (setV V (0) (knowsF (V 0) l tt true)) m zero48 zero8 W := hMj
          have h58 : A.tmps[58]?.getD undef = .pointer (some ⟨w.heap.size, 8, none⟩) := he 5 (by kernel_rfl) (by rfl)
          have h57 : A.tmps[57]?.getD undef = .agg (vwC (knowsF (V 1) l tt true)) := he 4 (by kernel_rfl) (by rfl)
          exact y_storeK rfl h58 h57 hMs.at5 (k := 1) (by omega) (by omega) rvSize (by have := HX1.out.grow; omega) (fun _ _ => trivial) (hMs.setK (1) _ _ (by omega))
        · simp at hji
      · intro xs W hz hMe hV
        have hMe : WrD w (setV (setV V (0) (knowsF (V 0) l tt true)) (1) (knowsF (V 1) l tt true)) m zero48 zero8 W := hMe
        simp only [putM, Act.put, List.setIfInBounds_toArray, List.set_cons_zero, List.set_cons_succ, Nat.zero_add, Nat.reduceAdd]
        clear hV
        generalize W = X2 at hMe ⊢
        have HX2 := Lib.hid hMe
        clear hMe hz HX1
        go_upto_region 6 with (fail)
        refine wp_flowS1 [some 59, some 60, some 61, some 62, some 63, some 64, some 65, some 66, some 67, some 68, none] [10] [0, 0, 0, 0, 0, 0, 0, 0, 0, 0, 0] [eqV (.int .i64 (l : Nat)), eqV (.int .i64 (l : Nat)), eqV (.pointer (some ⟨w.heap.size, 16, none⟩)), eqV (.pointer (some ⟨w.heap.size, 16 + l * 8, none⟩)), eqV (.agg (vwC ((setV (setV V (0) (knowsF (V 0) l tt true)) (1) (knowsF (V 1) l tt true)) (l + 2)))), eqV (.int .i64 (l : Nat)), eqV (.int .i64 tt), eqV (.agg (vwC (knowsF ((setV (setV V (0) (knowsF (V 0) l tt true)) (1) (knowsF (V 1) l tt true)) (l + 2)) l tt true))), eqV (.pointer (some ⟨w.heap.size, 16, none⟩)), eqV (.pointer (some ⟨w.heap.size, 16 + l * 8, none⟩)), fun _ _ => True] (fun j W => match j with | 0 => WrD w (setV (setV V (0) (knowsF (V 0) l tt true)) (1) (knowsF (V 1) l tt true)) m zero48 zero8 W | _ => WrD w (dwU V l tt) m zero48 zero8 W) (by kernel_rfl) (by kernel_rfl) (by kernel_rfl) (by rfl)
          (by simp only [List.mem_cons, List.not_mem_nil, or_false, forall_eq_or_imp, forall_eq]; refine ⟨?_, ?_, ?_, ?_, ?_, ?_, ?_, ?_, ?_, ?_, ?_⟩ <;> (first | exact eqV_monoB _ _ | exact rowB_mono _ _ _ _ | exact true_monoB _))
          (fun j W W' h hb => by rcases j with _ | j <;> first | exact (WrD.grown h hb)) (HX2.out) ?_ ?_ ?_
        · intro i o hi ho hc j A W hj hz hMj hk he
          simp only [List.length_cons, List.length_nil, Nat.zero_add, Nat.reduceAdd] at hi
          obtain rfl | rfl | rfl | rfl | rfl | rfl | rfl | rfl | rfl | rfl | rfl : i = 0 ∨ i = 1 ∨ i = 2 ∨ i = 3 ∨ i = 4 ∨ i = 5 ∨ i = 6 ∨ i = 7 ∨ i = 8 ∨ i = 9 ∨ i = 10 := by omega
          · injection ho with ho; subst ho
            refine .inl ⟨wanted_free rfl, ?_⟩
            have h1 : A.tmps[1]?.getD undef = .int .i64 (l : Nat) := hk 1 (by rfl)
            go_simp
            exact ⟨rfl, Below.refl _ _⟩
          · injection ho with ho; subst ho
            refine .inl ⟨wanted_free rfl, ?_⟩
            have h1 : A.tmps[1]?.getD undef = .int .i64 (l : Nat) := hk 1 (by rfl)
            go_simp
            exact ⟨rfl, Below.refl _ _⟩
          · injection ho with ho; subst ho
            refine .inl ⟨wanted_free rfl, ?_⟩
            have h5 : A.tmps[5]?.getD undef = .pointer (some ⟨w.heap.size, 0, none⟩) := hk 5 (by rfl)
            go_simp
            exact ⟨rfl, Below.refl _ _⟩
          · injection ho with ho; subst ho
            refine .inl ⟨wanted_free rfl, ?_⟩
            have h61 : A.tmps[61]?.getD undef = .pointer (some ⟨w.heap.size, 16, none⟩) := he 2 (by kernel_rfl) (by rfl)
            have h60 : A.tmps[60]?.getD undef = .int .i64 (l : Nat) := he 1 (by kernel_rfl) (by rfl)
            go_simp
            exact ⟨rfl, Below.refl _ _⟩
          · obtain rfl : j = 0 := hj
            have hMs : WrD w (setV (setV V (0) (knowsF (V 0) l tt true)) (1) (knowsF (V 1) l tt true)) m zero48 zero8 W := hMj
            injection ho with ho; subst ho
            refine .inl ⟨wanted_free rfl, ?_⟩
            have h62 : A.tmps[62]?.getD undef = .pointer (some ⟨w.heap.size, 16 + l * 8, none⟩) := he 3 (by kernel_rfl) (by rfl)
            exact y_load (cs := vwC ((setV (setV V (0) (knowsF (V 0) l tt true)) (1) (knowsF (V 1) l tt true)) (l + 2))) rfl h62 (vs_range (V := setV (setV V (0) (knowsF (V 0) l tt true)) (1) (knowsF (V 1) l tt true)) (hMs.at5) ((l + 2)) _ (by have := HL.out; omega) (by omega)) Try.underlying30 rfl rvSize
          · injection ho with ho; subst ho
            refine .inl ⟨wanted_free rfl, ?_⟩
            have h1 : A.tmps[1]?.getD undef = .int .i64 (l : Nat) := hk 1 (by rfl)
            go_simp
            exact ⟨rfl, Below.refl _ _⟩
          · injection ho with ho; subst ho
            refine .inl ⟨wanted_free rfl, ?_⟩
            have h2 : A.tmps[2]?.getD undef = .int .i64 tt := hk 2 (by rfl)
            go_simp
            exact ⟨rfl, Below.refl _ _⟩
          · obtain rfl : j = 0 := hj
            have hMs : WrD w (setV (setV V (0) (knowsF (V 0) l tt true)) (1) (knowsF (V 1) l tt true)) m zero48 zero8 W := hMj
            injection ho with ho; subst ho
            refine .inl ⟨wanted_free rfl, ?_⟩
            have h63 : A.tmps[63]?.getD undef = .agg (vwC ((setV (setV V (0) (knowsF (V 0) l tt true)) (1) (knowsF (V 1) l tt true)) (l + 2))) := he 4 (by kernel_rfl) (by rfl)
            have h64 : A.tmps[64]?.getD undef = .int .i64 (l : Nat) := he 5 (by kernel_rfl) (by rfl)
            have h65 : A.tmps[65]?.getD undef = .int .i64 tt := he 6 (by kernel_rfl) (by rfl)
            go_simp
            refine Calls.mono (knows_any ((setV (setV V (0) (knowsF (V 0) l tt true)) (1) (knowsF (V 1) l tt true)) (l + 2)) l HL.out tt true W) ?_
            rintro e' w' ⟨rfl, hb⟩
            exact ⟨_, rfl, rfl, hb⟩
          · injection ho with ho; subst ho
            refine .inl ⟨wanted_free rfl, ?_⟩
            have h5 : A.tmps[5]?.getD undef = .pointer (some ⟨w.heap.size, 0, none⟩) := hk 5 (by rfl)
            go_simp
            exact ⟨rfl, Below.refl _ _⟩
          · injection ho with ho; subst ho
            refine .inl ⟨wanted_free rfl, ?_⟩
            have h67 : A.tmps[67]?.getD undef = .pointer (some ⟨w.heap.size, 16, none⟩) := he 8 (by kernel_rfl) (by rfl)
            have h59 : A.tmps[59]?.getD undef = .int .i64 (l : Nat) := he 0 (by kernel_rfl) (by rfl)
            go_simp
            exact ⟨rfl, Below.refl _ _⟩
          · exact absurd hc (by decide)
        · intro j i o hji ho A W hz hMj hk he
          rcases j with _ | j
          · obtain rfl : 10 = i := Option.some.inj hji
            injection ho with ho; subst ho
            refine .inl ⟨wanted_free rfl, ?_⟩
            have hMs : WrD w (setV (setV V (0) (knowsF (V 0) l tt true)) (1) (knowsF (V 1) l tt true)) m zero48 zero8 W := hMj
            have h68 : A.tmps[68]?.getD undef = .pointer (some ⟨w.heap.size, 16 + l * 8, none⟩) := he 9 (by kernel_rfl) (by rfl)
            have h66 : A.tmps[66]?.getD undef = .agg (vwC (knowsF ((setV (setV V (0) (knowsF (V 0) l tt true)) (1) (knowsF (V 1) l tt true)) (l + 2)) l tt true)) := he 7 (by kernel_rfl) (by rfl)
            exact y_storeK rfl h68 h66 hMs.at5 (k := l + 2) (by have := HL.out; omega) (by omega) rvSize (by have := HX2.out.grow; omega) (fun _ _ => trivial) (by have h := hMs.setK (l + 2) (16 + l * 8) (knowsF ((setV (setV V (0) (knowsF (V 0) l tt true)) (1) (knowsF (V 1) l tt true)) (l + 2)) l tt true) (by omega); rwa [dw_far] at h)
          · simp at hji
        · intro xs W hz hMe hV
          have hMe : WrD w (dwU V l tt) m zero48 zero8 W := hMe
          simp only [putM, Act.put, List.setIfInBounds_toArray, List.set_cons_zero, List.set_cons_succ, Nat.zero_add, Nat.reduceAdd]
          clear hV
          generalize W = X3 at hMe ⊢
          have HX3 := Lib.hid hMe
          clear hMe hz HX2
          go_upto_region 11 with (fail)
          refine wp_flowM [some 85, some 86, some 87, some 88, some 89, some 90, some 91, none, none, some 12] [7, 8] [0, 1, 1, 1, 1, 1, 0, 0, 0, 2] [eqV (.agg (vsC (dwU V l tt))), eqV (.int .i64 (l : Nat)), eqV (.pointer (some ⟨w.heap.size, 16, none⟩)), eqV (.pointer (some ⟨w.heap.size, 16 + l * 8, none⟩)), eqV (.agg (vwC ((dwU V l tt) (l + 2)))), eqV (.agg (vwC (m))), eqV (.agg (vwC (maxF ((dwU V l tt) (l + 2)) m))), fun _ _ => True, fun _ _ => True, eqV (.bool true)] (fun j W => match j with | 0 => WrD w (dwU V l tt) m (zero48) (zero8) W | 1 => WrD w (dwU V l tt) m (vsC (dwU V l tt)) (zero8) W | _ => WrD w (dwU V l tt) m (vsC (dwU V l tt)) (vwC (maxF ((dwU V l tt) (l + 2)) m)) W) (by kernel_rfl) (by kernel_rfl) (by kernel_rfl) (by rfl)
            (by simp only [List.mem_cons, List.not_mem_nil, or_false, forall_eq_or_imp, forall_eq]; refine ⟨?_, ?_, ?_, ?_, ?_, ?_, ?_, ?_, ?_, ?_⟩ <;> (first | exact eqV_monoB _ _ | exact rowB_mono _ _ _ _ | exact true_monoB _))
            (fun j W W' h hb => by rcases j with _ | _ | j <;> first | exact (WrD.grown h hb)) (HX3.out) ?_ ?_ ?_
          · intro i o hi ho hc j A W hj hz hMj hk he
            simp only [List.length_cons, List.length_nil, Nat.zero_add, Nat.reduceAdd] at hi
            obtain rfl | rfl | rfl | rfl | rfl | rfl | rfl | rfl | rfl | rfl : i = 0 ∨ i = 1 ∨ i = 2 ∨ i = 3 ∨ i = 4 ∨ i = 5 ∨ i = 6 ∨ i = 7 ∨ i = 8 ∨ i = 9 := by omega
            · obtain rfl : j = 0 := Nat.le_zero.1 hj
              have hMs : WrD w (dwU V l tt) m (zero48) (zero8) W := hMj
              injection ho with ho; subst ho
              refine .inl ⟨wanted_free rfl, ?_⟩
              have h5 : A.tmps[5]?.getD undef = .pointer (some ⟨w.heap.size, 0, none⟩) := hk 5 (by rfl)
              exact y_load (cs := vsC (dwU V l tt)) rfl h5 (sits_range (hMs.at5)) Try.underlying33 rfl rsSize
            · injection ho with ho; subst ho
              refine .inl ⟨wanted_free rfl, ?_⟩
              have h1 : A.tmps[1]?.getD undef = .int .i64 (l : Nat) := hk 1 (by rfl)
              go_simp
              exact ⟨rfl, Below.refl _ _⟩
            · injection ho with ho; subst ho
              refine .inl ⟨wanted_free rfl, ?_⟩
              have h5 : A.tmps[5]?.getD undef = .pointer (some ⟨w.heap.size, 0, none⟩) := hk 5 (by rfl)
              go_simp
              exact ⟨rfl, Below.refl _ _⟩
            · injection ho with ho; subst ho
              refine .inl ⟨wanted_free rfl, ?_⟩
              have h87 : A.tmps[87]?.getD undef = .pointer (some ⟨w.heap.size, 16, none⟩) := he 2 (by kernel_rfl) (by rfl)
              have h86 : A.tmps[86]?.getD undef = .int .i64 (l : Nat) := he 1 (by kernel_rfl) (by rfl)
              go_simp
              exact ⟨rfl, Below.refl _ _⟩
            · have hj2 : j ≤ 1 := hj
              rcases j with _ | _ | j
              · have hMs : WrD w (dwU V l tt) m (zero48) (zero8) W := hMj
                injection ho with ho; subst ho
                refine .inl ⟨wanted_free rfl, ?_⟩
                have h88 : A.tmps[88]?.getD undef = .pointer (some ⟨w.heap.size, 16 + l * 8, none⟩) := he 3 (by kernel_rfl) (by rfl)
                exact y_load (cs := vwC ((dwU V l tt) (l + 2))) rfl h88 (vs_range (V := dwU V l tt) (hMs.at5) ((l + 2)) _ (by have := HL.out; omega) (by omega)) Try.underlying30 rfl rvSize
              · have hMs : WrD w (dwU V l tt) m (vsC (dwU V l tt)) (zero8) W := hMj
                injection ho with ho; subst ho
                refine .inl ⟨wanted_free rfl, ?_⟩
                have h88 : A.tmps[88]?.getD undef = .pointer (some ⟨w.heap.size, 16 + l * 8, none⟩) := he 3 (by kernel_rfl) (by rfl)
                exact y_load (cs := vwC ((dwU V l tt) (l + 2))) rfl h88 (vs_range (V := dwU V l tt) (hMs.at5) ((l + 2)) _ (by have := HL.out; omega) (by omega)) Try.underlying30 rfl rvSize
              · omega
            · have hj2 : j ≤ 1 := hj
              rcases j with _ | _ | j
              · have hMs : WrD w (dwU V l tt) m (zero48) (zero8) W := hMj
                injection ho with ho; subst ho
                refine .inl ⟨wanted_free rfl, ?_⟩
                have h9 : A.tmps[9]?.getD undef = .pointer (some ⟨w.heap.size + 1, 0, none⟩) := hk 9 (by rfl)
                exact y_load (cs := vwC (m)) rfl h9 (sits_range (hMs.at9)) Try.underlying30 rfl rvSize
              · have hMs : WrD w (dwU V l tt) m (vsC (dwU V l tt)) (zero8) W := hMj
                injection ho with ho; subst ho
                refine .inl ⟨wanted_free rfl, ?_⟩
                have h9 : A.tmps[9]?.getD undef = .pointer (some ⟨w.heap.size + 1, 0, none⟩) := hk 9 (by rfl)
                exact y_load (cs := vwC (m)) rfl h9 (sits_range (hMs.at9)) Try.underlying30 rfl rvSize
              · omega
            · obtain rfl : j = 0 := Nat.le_zero.1 hj
              have hMs : WrD w (dwU V l tt) m (zero48) (zero8) W := hMj
              injection ho with ho; subst ho
              refine .inl ⟨wanted_free rfl, ?_⟩
              have h89 : A.tmps[89]?.getD undef = .agg (vwC ((dwU V l tt) (l + 2))) := he 4 (by kernel_rfl) (by rfl)
              have h90 : A.tmps[90]?.getD undef = .agg (vwC (m)) := he 5 (by kernel_rfl) (by rfl)
              go_simp
              refine Calls.mono (djoin_any ((dwU V l tt) (l + 2)) m W) ?_
              rintro e' w' ⟨rfl, hb⟩
              exact ⟨_, rfl, rfl, hb⟩
            · exact absurd hc (by decide)
            · exact absurd hc (by decide)
            · injection ho with ho; subst ho
              refine .inl ⟨wanted_free rfl, ?_⟩
              go_simp
              exact ⟨rfl, Below.refl _ _⟩
          · intro j i o hji ho A W hz hMj hk he
            rcases j with _ | _ | j
            · obtain rfl : 7 = i := Option.some.inj hji
              injection ho with ho; subst ho
              refine .inl ⟨wanted_free rfl, ?_⟩
              have hMs : WrD w (dwU V l tt) m (zero48) (zero8) W := hMj
              have h10 : A.tmps[10]?.getD undef = .pointer (some ⟨w.heap.size + 1 + 1, 0, none⟩) := hk 10 (by rfl)
              have h85 : A.tmps[85]?.getD undef = .agg (vsC (dwU V l tt)) := he 0 (by kernel_rfl) (by rfl)
              exact y_store rfl h10 h85 hMs.at10 (by rw [vsC_size]; exact rsSize) (zero48_size.trans (vsC_size _).symm) (vsC_one _) (by have := HX3.out.grow; omega) (fun _ _ => trivial) (hMs.out _)
            · obtain rfl : 8 = i := Option.some.inj hji
              injection ho with ho; subst ho
              refine .inl ⟨wanted_free rfl, ?_⟩
              have hMs : WrD w (dwU V l tt) m (vsC (dwU V l tt)) (zero8) W := hMj
              have h11 : A.tmps[11]?.getD undef = .pointer (some ⟨w.heap.size + 1 + 1 + 1, 0, none⟩) := hk 11 (by rfl)
              have h91 : A.tmps[91]?.getD undef = .agg (vwC (maxF ((dwU V l tt) (l + 2)) m)) := he 6 (by kernel_rfl) (by rfl)
              exact y_store rfl h11 h91 hMs.at11 rvSize rfl (vwC_one _) (by have := HX3.out.grow; omega) (fun _ _ => trivial) (hMs.out2 _)
            · simp at hji
          · intro xs W hz hMe hV
            have hMe : WrD w (dwU V l tt) m (vsC (dwU V l tt)) (vwC (maxF ((dwU V l tt) (l + 2)) m)) W := hMe
            have e12 : xs 9 = .bool true := hV 9 (by simp) rfl
            simp only [putM, Act.put, List.setIfInBounds_toArray, List.set_cons_zero, List.set_cons_succ, Nat.zero_add, Nat.reduceAdd, e12]
            clear hV e12
            generalize W = WL at hMe ⊢
            have HZ := Lib.hid hMe
            clear hMe hz HX3
            go_wp2_with fail
            exact bodyPost_ret (v := .tuple #[.agg (vsC (dwU V l tt)), .agg (vwC (maxF ((dwU V l tt) (l + 2)) m)), .bool true]) (dresult_svb Try.results10 rfl rfl rfl HZ.out.at10 HZ.out.at11) rfl ⟨by rw [hv.out, hm.out, hk.out], HZ.out.low⟩
  obtain h4 : mo = 4 := by omega
  subst h4
  clear q1 h1 h2
  by_cases hfr : tt ≤ V 0 (l + 4)
  ·
    have hk : Hid (writeOk V loc tt 4 = false) := Lib.hid (by unfold writeOk; rw [HN.out]; simp [hlow]; omega)
    have hv : Hid (dwriteV V loc tt 4 = V) := Lib.hid (by unfold dwriteV; rw [hk.out]; rfl)
    have hm : Hid (dwriteM V loc tt 4 m = zeroF) := Lib.hid (by unfold dwriteM; rw [hk.out]; rfl)
    clear hlow
    subst hloc
    go_enter Try.func10, Try.ntmps10
    go_upto_region 2 with (fail)
    generalize ((((w.alloc (.cells (vsC V) 33)).alloc (.cells (vwC m) 30)).alloc (.cells zero48 33)).alloc (.cells zero8 30)).alloc (.cells zero8 30) = w0 at HB ⊢
    have d0 : w0.cell? ⟨w.heap.size, 4 + l, none⟩ = some (.int .i64 (V 0 (l + 4))) := by rw [Nat.add_comm 4 l]; exact HB.out.cur (l + 4) (by have := HL.out; omega)
    have i0 : (0 : Int) ≤ (l : Int) := by omega
    have i4 : (l : Int) < 4 := by have := HL.out; omega
    go_upto_region 3 with (fail)
    clear d0
    refine wp_flowM [some 45, some 46, none, none, some 12] [2, 3] [0, 1, 0, 0, 2] [eqV (.agg (vsC (V))), eqV (.agg (vwC (zeroF))), fun _ _ => True, fun _ _ => True, eqV (.bool false)] (fun j W => match j with | 0 => WrD w (V) m (zero48) (zero8) W | 1 => WrD w (V) m (vsC (V)) (zero8) W | _ => WrD w (V) m (vsC (V)) (vwC (zeroF)) W) (by kernel_rfl) (by kernel_rfl) (by kernel_rfl) (by rfl)
      (by simp only [List.mem_cons, List.not_mem_nil, or_false, forall_eq_or_imp, forall_eq]; refine ⟨?_, ?_, ?_, ?_, ?_⟩ <;> (first | exact eqV_monoB _ _ | exact rowB_mono _ _ _ _ | exact true_monoB _))
      (fun j W W' h hb => by rcases j with _ | _ | j <;> first | exact (WrD.grown h hb)) (HB.out) ?_ ?_ ?_
    · intro i o hi ho hc j A W hj hz hMj hk he
      simp only [List.length_cons, List.length_nil, Nat.zero_add, Nat.reduceAdd] at hi
      obtain rfl | rfl | rfl | rfl | rfl : i = 0 ∨ i = 1 ∨ i = 2 ∨ i = 3 ∨ i = 4 := by omega
      · obtain rfl : j = 0 := Nat.le_zero.1 hj
        have hMs : WrD w (V) m (zero48) (zero8) W := hMj
        injection ho with ho; subst ho
        refine .inl ⟨wanted_free rfl, ?_⟩
        have h5 : A.tmps[5]?.getD undef = .pointer (some ⟨w.heap.size, 0, none⟩) := hk 5 (by rfl)
        exact y_load (cs := vsC (V)) rfl h5 (sits_range (hMs.at5)) Try.underlying33 rfl rsSize
      · have hj2 : j ≤ 1 := hj
        rcases j with _ | _ | j
        · have hMs : WrD w (V) m (zero48) (zero8) W := hMj
          injection ho with ho; subst ho
          refine .inl ⟨wanted_free rfl, ?_⟩
          have h13 : A.tmps[13]?.getD undef = .pointer (some ⟨w.heap.size + 1 + 1 + 1 + 1, 0, none⟩) := hk 13 (by rfl)
          exact y_load (cs := vwC (zeroF)) rfl h13 (sits_range (hMs.at13)) Try.underlying30 rfl rvSize
        · have hMs : WrD w (V) m (vsC (V)) (zero8) W := hMj
          injection ho with ho; subst ho
          refine .inl ⟨wanted_free rfl, ?_⟩
          have h13 : A.tmps[13]?.getD undef = .pointer (some ⟨w.heap.size + 1 + 1 + 1 + 1, 0, none⟩) := hk 13 (by rfl)
          exact y_load (cs := vwC (zeroF)) rfl h13 (sits_range (hMs.at13)) Try.underlying30 rfl rvSize
        · omega
      · exact absurd hc (by decide)
      · exact absurd hc (by decide)
      · injection ho with ho; subst ho
        refine .inl ⟨wanted_free rfl, ?_⟩
        go_simp
        exact ⟨rfl, Below.refl _ _⟩
    · intro j i o hji ho A W hz hMj hk he
      rcases j with _ | _ | j
      · obtain rfl : 2 = i := Option.some.inj hji
        injection ho with ho; subst ho
        refine .inl ⟨wanted_free rfl, ?_⟩
        have hMs : WrD w (V) m (zero48) (zero8) W := hMj
        have h10 : A.tmps[10]?.getD undef = .pointer (some ⟨w.heap.size + 1 + 1, 0, none⟩) := hk 10 (by rfl)
        have h45 : A.tmps[45]?.getD undef = .agg (vsC (V)) := he 0 (by kernel_rfl) (by rfl)
        exact y_store rfl h10 h45 hMs.at10 (by rw [vsC_size]; exact rsSize) (zero48_size.trans (vsC_size _).symm) (vsC_one _) (by have := HB.out.grow; omega) (fun _ _ => trivial) (hMs.out _)
      · obtain rfl : 3 = i := Option.some.inj hji
        injection ho with ho; subst ho
        refine .inl ⟨wanted_free rfl, ?_⟩
        have hMs : WrD w (V) m (vsC (V)) (zero8) W := hMj
        have h11 : A.tmps[11]?.getD undef = .pointer (some ⟨w.heap.size + 1 + 1 + 1, 0, none⟩) := hk 11 (by rfl)
        have h46 : A.tmps[46]?.getD undef = .agg (vwC (zeroF)) := he 1 (by kernel_rfl) (by rfl)
        exact y_store rfl h11 h46 hMs.at11 rvSize rfl (vwC_one _) (by have := HB.out.grow; omega) (fun _ _ => trivial) (hMs.out2 _)
      · simp at hji
    · intro xs W hz hMe hV
      have hMe : WrD w (V) m (vsC (V)) (vwC (zeroF)) W := hMe
      have e12 : xs 4 = .bool false := hV 4 (by simp) rfl
      simp only [putM, Act.put, List.setIfInBounds_toArray, List.set_cons_zero, List.set_cons_succ, Nat.zero_add, Nat.reduceAdd, e12]
      clear hV e12
      generalize W = WL at hMe ⊢
      have HZ := Lib.hid hMe
      clear hMe hz HB
      go_wp2_with fail
      exact bodyPost_ret (v := .tuple #[.agg (vsC (V)), .agg (vwC (zeroF)), .bool false]) (dresult_svb Try.results10 rfl rfl rfl HZ.out.at10 HZ.out.at11) rfl ⟨by rw [hv.out, hm.out, hk.out], HZ.out.low⟩
  have hk : Hid (writeOk V loc tt 4 = true) := Lib.hid (by unfold writeOk; rw [HN.out]; simp [hlow]; omega)
  have hv : Hid (dwriteV V loc tt 4 = setV (dwU V l tt) (l + 2) (maxF (dwU V l tt (l + 2)) (dwU V l tt 0))) := Lib.hid (by unfold dwriteV; rw [hk.out, HN.out]; rfl)
  have hm : Hid (dwriteM V loc tt 4 m = maxF ((setV (dwU V l tt) (l + 2) (maxF (dwU V l tt (l + 2)) (dwU V l tt 0))) (l + 2)) m) := Lib.hid (by unfold dwriteM; rw [hk.out, HN.out]; rfl)
  clear hlow
  subst hloc
  go_enter Try.func10, Try.ntmps10
  go_upto_region 2 with (fail)
  generalize ((((w.alloc (.cells (vsC V) 33)).alloc (.cells (vwC m) 30)).alloc (.cells zero48 33)).alloc (.cells zero8 30)).alloc (.cells zero8 30) = w0 at HB ⊢
  have d0 : w0.cell? ⟨w.heap.size, 4 + l, none⟩ = some (.int .i64 (V 0 (l + 4))) := by rw [Nat.add_comm 4 l]; exact HB.out.cur (l + 4) (by have := HL.out; omega)
  have i0 : (0 : Int) ≤ (l : Int) := by omega
  have i4 : (l : Int) < 4 := by have := HL.out; omega
  go_upto_region 4 with (fail)
  clear d0 hfr
  refine wp_flowS1 [some 47, some 48, some 49, some 50, some 51, some 52, none] [6] [0, 0, 0, 0, 0, 0, 0] [eqV (.pointer (some ⟨w.heap.size, 0, none⟩)), eqV (.agg (vwC (V 0))), eqV (.int .i64 (l : Nat)), eqV (.int .i64 tt), eqV (.agg (vwC (knowsF (V 0) l tt true))), eqV (.pointer (some ⟨w.heap.size, 0, none⟩)), fun _ _ => True] (fun j W => match j with | 0 => WrD w (V) m zero48 zero8 W | _ => WrD w (setV V (0) (knowsF (V 0) l tt true)) m zero48 zero8 W) (by kernel_rfl) (by kernel_rfl) (by kernel_rfl) (by rfl)
    (by simp only [List.mem_cons, List.not_mem_nil, or_false, forall_eq_or_imp, forall_eq]; refine ⟨?_, ?_, ?_, ?_, ?_, ?_, ?_⟩ <;> (first | exact eqV_monoB _ _ | exact rowB_mono _ _ _ _ | exact true_monoB _))
    (fun j W W' h hb => by rcases j with _ | j <;> first | exact (WrD.grown h hb)) (HB.out) ?_ ?_ ?_
  · intro i o hi ho hc j A W hj hz hMj hk he
    simp only [List.length_cons, List.length_nil, Nat.zero_add, Nat.reduceAdd] at hi
    obtain rfl | rfl | rfl | rfl | rfl | rfl | rfl : i = 0 ∨ i = 1 ∨ i = 2 ∨ i = 3 ∨ i = 4 ∨ i = 5 ∨ i = 6 := by omega
    · injection ho with ho; subst ho
      refine .inl ⟨wanted_free rfl, ?_⟩
      have h5 : A.tmps[5]?.getD undef = .pointer (some ⟨w.heap.size, 0, none⟩) := hk 5 (by rfl)
      go_simp
      exact ⟨rfl, Below.refl _ _⟩
    · obtain rfl : j = 0 := hj
      have hMs : WrD w (V) m zero48 zero8 W := hMj
      injection ho with ho; subst ho
      refine .inl ⟨wanted_free rfl, ?_⟩
      have h47 : A.tmps[47]?.getD undef = .pointer (some ⟨w.heap.size, 0, none⟩) := he 0 (by kernel_rfl) (by rfl)
      exact y_load (cs := vwC (V 0)) rfl h47 (vs_range (V := V) (hMs.at5) (0) _ (by omega) rfl) Try.underlying30 rfl rvSize
    · injection ho with ho; subst ho
      refine .inl ⟨wanted_free rfl, ?_⟩
      have h1 : A.tmps[1]?.getD undef = .int .i64 (l : Nat) := hk 1 (by rfl)
      go_simp
      exact ⟨rfl, Below.refl _ _⟩
    · injection ho with ho; subst ho
      refine .inl ⟨wanted_free rfl, ?_⟩
      have h2 : A.tmps[2]?.getD undef = .int .i64 tt := hk 2 (by rfl)
      go_simp
      exact ⟨rfl, Below.refl _ _⟩
    · obtain rfl : j = 0 := hj
      have hMs : WrD w (V) m zero48 zero8 W := hMj
      injection ho with ho; subst ho
      refine .inl ⟨wanted_free rfl, ?_⟩
      have h48 : A.tmps[48]?.getD undef = .agg (vwC (V 0)) := he 1 (by kernel_rfl) (by rfl)
      have h49 : A.tmps[49]?.getD undef = .int .i64 (l : Nat) := he 2 (by kernel_rfl) (by rfl)
      have h50 : A.tmps[50]?.getD undef = .int .i64 tt := he 3 (by kernel_rfl) (by rfl)
      go_simp
      refine Calls.mono (knows_any (V 0) l HL.out tt true W) ?_
      rintro e' w' ⟨rfl, hb⟩
      exact ⟨_, rfl, rfl, hb⟩
    · injection ho with ho; subst ho
      refine .inl ⟨wanted_free rfl, ?_⟩
      have h5 : A.tmps[5]?.getD undef = .pointer (some ⟨w.heap.size, 0, none⟩) := hk 5 (by rfl)
      go_simp
      exact ⟨rfl, Below.refl _ _⟩
    · exact absurd hc (by decide)
  · intro j i o hji ho A W hz hMj hk he
    rcases j with _ | j
    · obtain rfl : 6 = i := Option.some.inj hji
      injection ho with ho; subst ho
      refine .inl ⟨wanted_free rfl, ?_⟩
      have hMs : WrD w (V) m zero48 zero8 W := hMj
      have h52 : A.tmps[52]?.getD undef = .pointer (some ⟨w.heap.size, 0, none⟩) := he 5 (by kernel_rfl) (by rfl)
      have h51 : A.tmps[51]?.getD undef = .agg (vwC (knowsF (V 0) l tt true)) := he 4 (by kernel_rfl) (by rfl)
      exact y_storeK rfl h52 h51 hMs.at5 (k := 0) (by omega) (by omega) rvSize (by have := HB.out.grow; omega) (fun _ _ => trivial) (hMs.setK (0) _ _ (by omega))
    · simp at hji
  · intro xs W hz hMe hV
    have hMe : WrD w (setV V (0) (knowsF (V 0) l tt true)) m zero48 zero8 W := hMe
    simp only [putM, Act.put, List.setIfInBounds_toArray, List.set_cons_zero, List.set_cons_succ, Nat.zero_add, Nat.reduceAdd]
    clear hV
    generalize W = X1 at hMe ⊢
    have HX1 := Lib.hid hMe
    clear hMe hz HB
    go_upto_region 5 with (fail)
    refine wp_flowS1 [some 53, some 54, some 55, some 56, some 57, some 58, none] [6] [0, 0, 0, 0, 0, 0, 0] [eqV (.pointer (some ⟨w.heap.size, 8, none⟩)), eqV (.agg (vwC (V 1))), eqV (.int .i64 (l : Nat)), eqV (.int .i64 tt), eqV (.agg (vwC (knowsF (V 1) l tt true))), eqV (.pointer (some ⟨w.heap.size, 8, none⟩)), fun _ _ => True] (fun j W => match j with | 0 => WrD w (setV V (0) (knowsF (V 0) l tt true)) m zero48 zero8 W | _ => WrD w (setV (setV V (0) (knowsF (V 0) l tt true)) (1) (knowsF (V 1) l tt true)) m zero48 zero8 W) (by kernel_rfl) (by kernel_rfl) (by kernel_rfl) (by rfl)
      (by simp only [List.mem_cons, List.not_mem_nil, or_false, forall_eq_or_imp, forall_eq]; refine ⟨?_, ?_, ?_, ?_, ?_, ?_, ?_⟩ <;> (first | exact eqV_monoB _ _ | exact rowB_mono _ _ _ _ | exact true_monoB _))
      (fun j W W' h hb => by rcases j with _ | j <;> first | exact (WrD.grown h hb)) (HX1.out) ?_ ?_ ?_
    · intro i o hi ho hc j A W hj hz hMj hk he
      simp only [List.length_cons, List.length_nil, Nat.zero_add, Nat.reduceAdd] at hi
      obtain rfl | rfl | rfl | rfl | rfl | rfl | rfl : i = 0 ∨ i = 1 ∨ i = 2 ∨ i = 3 ∨ i = 4 ∨ i = 5 ∨ i = 6 := by omega
      · injection ho with ho; subst ho
        refine .inl ⟨wanted_free rfl, ?_⟩
        have h5 : A.tmps[5]?.getD undef = .pointer (some ⟨w.heap.size, 0, none⟩) := hk 5 (by rfl)
        go_simp
        exact ⟨rfl, Below.refl _ _⟩
      · obtain rfl : j = 0 := hj
        have hMs : WrD w (setV V (0) (knowsF (V 0) l tt true)) m zero48 zero8 W := hMj
        injection ho with ho; subst ho
        refine .inl ⟨wanted_free rfl, ?_⟩
        have h53 : A.tmps[53]?.getD undef = .pointer (some ⟨w.heap.size, 8, none⟩) := he 0 (by kernel_rfl) (by rfl)
        exact y_load (cs := vwC (V 1)) rfl h53 (vs_range (V := setV V (0) (knowsF (V 0) l tt true)) (hMs.at5) (1) _ (by omega) rfl) Try.underlying30 rfl rvSize
      · injection ho with ho; subst ho
        refine .inl ⟨wanted_free rfl, ?_⟩
        have h1 : A.tmps[1]?.getD undef = .int .i64 (l : Nat) := hk 1 (by rfl)
        go_simp
        exact ⟨rfl, Below.refl _ _⟩
      · injection ho with ho; subst ho
        refine .inl ⟨wanted_free rfl, ?_⟩
        have h2 : A.tmps[2]?.getD undef = .int .i64 tt := hk 2 (by rfl)
        go_simp
        exact ⟨rfl, Below.refl _ _⟩
      · obtain rfl : j = 0 := hj
        have hMs : WrD w (setV V (0) (knowsF (V 0) l tt true)) m zero48 zero8 W := hMj
        injection ho with ho; subst ho
        refine .inl ⟨wanted_free rfl, ?_⟩
        have h54 : A.tmps[54]?.getD undef = .agg (vwC (V 1)) := he 1 (by kernel_rfl) (by rfl)
        have h55 : A.tmps[55]?.getD undef = .int .i64 (l : Nat) := he 2 (by kernel_rfl) (by rfl)
        have h56 : A.tmps[56]?.getD undef = .int .i64 tt := he 3 (by kernel_rfl) (by rfl)
        go_simp
        refine Calls.mono (knows_any (V 1) l HL.out tt true W) ?_
        rintro e' w' ⟨rfl, hb⟩
        exact ⟨_, rfl, rfl, hb⟩
      · injection ho with ho; subst ho
        refine .inl ⟨wanted_free rfl, ?_⟩
        have h5 : A.tmps[5]?.getD undef = .pointer (some ⟨w.heap.size, 0, none⟩) := hk 5 (by rfl)
        go_simp
        exact ⟨rfl, Below.refl _ _⟩
      · exact absurd hc (by decide)
    · intro j i o hji ho A W hz hMj hk he
      rcases j with _ | j
      · obtain rfl : 6 = i := Option.some.inj hji
        injection ho with ho; subst ho
        refine .inl ⟨wanted_free rfl, ?_⟩
        have hMs : WrD w (setV V (0) (knowsF (V 0) l tt true)) m zero48 zero8 W := hMj
        have h58 : A.tmps[58]?.getD undef = .pointer (some ⟨w.heap.size, 8, none⟩) := he 5 (by kernel_rfl) (by rfl)
        have h57 : A.tmps[57]?.getD undef = .agg (vwC (knowsF (V 1) l tt true)) := he 4 (by kernel_rfl) (by rfl)
        exact y_storeK rfl h58 h57 hMs.at5 (k := 1) (by omega) (by omega) rvSize (by have := HX1.out.grow; omega) (fun _ _ => trivial) (hMs.setK (1) _ _ (by omega))
      · simp at hji
    · intro xs W hz hMe hV
      have hMe : WrD w (setV (setV V (0) (knowsF (V 0) l tt true)) (1) (knowsF (V 1) l tt true)) m zero48 zero8 W := hMe
      simp only [putM, Act.put, List.setIfInBounds_toArray, List.set_cons_zero, List.set_cons_succ, Nat.zero_add, Nat.reduceAdd]
      clear hV
      generalize W = X2 at hMe ⊢
      have HX2 := Lib.hid hMe
      clear hMe hz HX1
      go_upto_region 6 with (fail)
      refine wp_flowS1 [some 59, some 60, some 61, some 62, some 63, some 64, some 65, some 66, some 67, some 68, none] [10] [0, 0, 0, 0, 0, 0, 0, 0, 0, 0, 0] [eqV (.int .i64 (l : Nat)), eqV (.int .i64 (l : Nat)), eqV (.pointer (some ⟨w.heap.size, 16, none⟩)), eqV (.pointer (some ⟨w.heap.size, 16 + l * 8, none⟩)), eqV (.agg (vwC ((setV (setV V (0) (knowsF (V 0) l tt true)) (1) (knowsF (V 1) l tt true)) (l + 2)))), eqV (.int .i64 (l : Nat)), eqV (.int .i64 tt), eqV (.agg (vwC (knowsF ((setV (setV V (0) (knowsF (V 0) l tt true)) (1) (knowsF (V 1) l tt true)) (l + 2)) l tt true))), eqV (.pointer (some ⟨w.heap.size, 16, none⟩)), eqV (.pointer (some ⟨w.heap.size, 16 + l * 8, none⟩)), fun _ _ => True] (fun j W => match j with | 0 => WrD w (setV (setV V (0) (knowsF (V 0) l tt true)) (1) (knowsF (V 1) l tt true)) m zero48 zero8 W | _ => WrD w (dwU V l tt) m zero48 zero8 W) (by kernel_rfl) (by kernel_rfl) (by kernel_rfl) (by rfl)
        (by simp only [List.mem_cons, List.not_mem_nil, or_false, forall_eq_or_imp, forall_eq]; refine ⟨?_, ?_, ?_, ?_, ?_, ?_, ?_, ?_, ?_, ?_, ?_⟩ <;> (first | exact eqV_monoB _ _ | exact rowB_mono _ _ _ _ | exact true_monoB _))
        (fun j W W' h hb => by rcases j with _ | j <;> first | exact (WrD.grown h hb)) (HX2.out) ?_ ?_ ?_
      · intro i o hi ho hc j A W hj hz hMj hk he
        simp only [List.length_cons, List.length_nil, Nat.zero_add, Nat.reduceAdd] at hi
        obtain rfl | rfl | rfl | rfl | rfl | rfl | rfl | rfl | rfl | rfl | rfl : i = 0 ∨ i = 1 ∨ i = 2 ∨ i = 3 ∨ i = 4 ∨ i = 5 ∨ i = 6 ∨ i = 7 ∨ i = 8 ∨ i = 9 ∨ i = 10 := by omega
        · injection ho with ho; subst ho
          refine .inl ⟨wanted_free rfl, ?_⟩
          have h1 : A.tmps[1]?.getD undef = .int .i64 (l : Nat) := hk 1 (by rfl)
          go_simp
          exact ⟨rfl, Below.refl _ _⟩
        · injection ho with ho; subst ho
          refine .inl ⟨wanted_free rfl, ?_⟩
          have h1 : A.tmps[1]?.getD undef = .int .i64 (l : Nat) := hk 1 (by rfl)
          go_simp
          exact ⟨rfl, Below.refl _ _⟩
        · injection ho with ho; subst ho
          refine .inl ⟨wanted_free rfl, ?_⟩
          have h5 : A.tmps[5]?.getD undef = .pointer (some ⟨w.heap.size, 0, none⟩) := hk 5 (by rfl)
          go_simp
          exact ⟨rfl, Below.refl _ _⟩
        · injection ho with ho; subst ho
          refine .inl ⟨wanted_free rfl, ?_⟩
          have h61 : A.tmps[61]?.getD undef = .pointer (some ⟨w.heap.size, 16, none⟩) := he 2 (by kernel_rfl) (by rfl)
          have h60 : A.tmps[60]?.getD undef = .int .i64 (l : Nat) := he 1 (by kernel_rfl) (by rfl)
          go_simp
          exact ⟨rfl, Below.refl _ _⟩
        · obtain rfl : j = 0 := hj
          have hMs : WrD w (setV (setV V (0) (knowsF (V 0) l tt true)) (1) (knowsF (V 1) l tt true)) m zero48 zero8 W := hMj
          injection ho with ho; subst ho
          refine .inl ⟨wanted_free rfl, ?_⟩
          have h62 : A.tmps[62]?.getD undef = .pointer (some ⟨w.heap.size, 16 + l * 8, none⟩) := he 3 (by kernel_rfl) (by rfl)
          exact y_load (cs := vwC ((setV (setV V (0) (knowsF (V 0) l tt true)) (1) (knowsF (V 1) l tt true)) (l + 2))) rfl h62 (vs_range (V := setV (setV V (0) (knowsF (V 0) l tt true)) (1) (knowsF (V 1) l tt true)) (hMs.at5) ((l + 2)) _ (by have := HL.out; omega) (by omega)) Try.underlying30 rfl rvSize
        · injection ho with ho; subst ho
          refine .inl ⟨wanted_free rfl, ?_⟩
          have h1 : A.tmps[1]?.getD undef = .int .i64 (l : Nat) := hk 1 (by rfl)
          go_simp
          exact ⟨rfl, Below.refl _ _⟩
        · injection ho with ho; subst ho
          refine .inl ⟨wanted_free rfl, ?_⟩
          have h2 : A.tmps[2]?.getD undef = .int .i64 tt := hk 2 (by rfl)
          go_simp
          exact ⟨rfl, Below.refl _ _⟩
        · obtain rfl : j = 0 := hj
          have hMs : WrD w (setV (setV V (0) (knowsF (V 0) l tt true)) (1) (knowsF (V 1) l tt true)) m zero48 zero8 W := hMj
          injection ho with ho; subst ho
          refine .inl ⟨wanted_free rfl, ?_⟩
          have h63 : A.tmps[63]?.getD undef = .agg (vwC ((setV (setV V (0) (knowsF (V 0) l tt true)) (1) (knowsF (V 1) l tt true)) (l + 2))) := he 4 (by kernel_rfl) (by rfl)
          have h64 : A.tmps[64]?.getD undef = .int .i64 (l : Nat) := he 5 (by kernel_rfl) (by rfl)
          have h65 : A.tmps[65]?.getD undef = .int .i64 tt := he 6 (by kernel_rfl) (by rfl)
          go_simp
          refine Calls.mono (knows_any ((setV (setV V (0) (knowsF (V 0) l tt true)) (1) (knowsF (V 1) l tt true)) (l + 2)) l HL.out tt true W) ?_
          rintro e' w' ⟨rfl, hb⟩
          exact ⟨_, rfl, rfl, hb⟩
        · injection ho with ho; subst ho
          refine .inl ⟨wanted_free rfl, ?_⟩
          have h5 : A.tmps[5]?.getD undef = .pointer (some ⟨w.heap.size, 0, none⟩) := hk 5 (by rfl)
          go_simp
          exact ⟨rfl, Below.refl _ _⟩
        · injection ho with ho; subst ho
          refine .inl ⟨wanted_free rfl, ?_⟩
          have h67 : A.tmps[67]?.getD undef = .pointer (some ⟨w.heap.size, 16, none⟩) := he 8 (by kernel_rfl) (by rfl)
          have h59 : A.tmps[59]?.getD undef = .int .i64 (l : Nat) := he 0 (by kernel_rfl) (by rfl)
          go_simp
          exact ⟨rfl, Below.refl _ _⟩
        · exact absurd hc (by decide)
      · intro j i o hji ho A W hz hMj hk he
        rcases j with _ | j
        · obtain rfl : 10 = i := Option.some.inj hji
          injection ho with ho; subst ho
          refine .inl ⟨wanted_free rfl, ?_⟩
          have hMs : WrD w (setV (setV V (0) (knowsF (V 0) l tt true)) (1) (knowsF (V 1) l tt true)) m zero48 zero8 W := hMj
          have h68 : A.tmps[68]?.getD undef = .pointer (some ⟨w.heap.size, 16 + l * 8, none⟩) := he 9 (by kernel_rfl) (by rfl)
          have h66 : A.tmps[66]?.getD undef = .agg (vwC (knowsF ((setV (setV V (0) (knowsF (V 0) l tt true)) (1) (knowsF (V 1) l tt true)) (l + 2)) l tt true)) := he 7 (by kernel_rfl) (by rfl)
          exact y_storeK rfl h68 h66 hMs.at5 (k := l + 2) (by have := HL.out; omega) (by omega) rvSize (by have := HX2.out.grow; omega) (fun _ _ => trivial) (by have h := hMs.setK (l + 2) (16 + l * 8) (knowsF ((setV (setV V (0) (knowsF (V 0) l tt true)) (1) (knowsF (V 1) l tt true)) (l + 2)) l tt true) (by omega); rwa [dw_far] at h)
        · simp at hji
      · intro xs W hz hMe hV
        have hMe : WrD w (dwU V l tt) m zero48 zero8 W := hMe
        simp only [putM, Act.put, List.setIfInBounds_toArray, List.set_cons_zero, List.set_cons_succ, Nat.zero_add, Nat.reduceAdd]
        clear hV
        generalize W = X3 at hMe ⊢
        have HX3 := Lib.hid hMe
        clear hMe hz HX2
        go_upto_region 8 with (fail)
        refine wp_flowM [some 71, some 72, some 73, some 74, some 75, some 76, some 77, some 78, some 79, some 80, none] [10] [0, 0, 0, 0, 0, 0, 0, 0, 1, 0, 0] [eqV (.int .i64 (l : Nat)), eqV (.int .i64 (l : Nat)), eqV (.pointer (some ⟨w.heap.size, 16, none⟩)), eqV (.pointer (some ⟨w.heap.size, 16 + l * 8, none⟩)), eqV (.agg (vwC (dwU V l tt (l + 2)))), eqV (.pointer (some ⟨w.heap.size, 0, none⟩)), eqV (.agg (vwC (dwU V l tt 0))), eqV (.agg (vwC (maxF (dwU V l tt (l + 2)) (dwU V l tt 0)))), eqV (.pointer (some ⟨w.heap.size, 16, none⟩)), eqV (.pointer (some ⟨w.heap.size, 16 + l * 8, none⟩)), fun _ _ => True] (fun j W => match j with | 0 => WrD w (dwU V l tt) m zero48 zero8 W | _ => WrD w (setV (dwU V l tt) (l + 2) (maxF (dwU V l tt (l + 2)) (dwU V l tt 0))) m zero48 zero8 W) (by kernel_rfl) (by kernel_rfl) (by kernel_rfl) (by rfl)
          (by simp only [List.mem_cons, List.not_mem_nil, or_false, forall_eq_or_imp, forall_eq]; refine ⟨?_, ?_, ?_, ?_, ?_, ?_, ?_, ?_, ?_, ?_, ?_⟩ <;> (first | exact eqV_monoB _ _ | exact rowB_mono _ _ _ _ | exact true_monoB _))
          (fun j W W' h hb => by rcases j with _ | j <;> first | exact (WrD.grown h hb)) (HX3.out) ?_ ?_ ?_
        · intro i o hi ho hc j A W hj hz hMj hk he
          simp only [List.length_cons, List.length_nil, Nat.zero_add, Nat.reduceAdd] at hi
          obtain rfl | rfl | rfl | rfl | rfl | rfl | rfl | rfl | rfl | rfl | rfl : i = 0 ∨ i = 1 ∨ i = 2 ∨ i = 3 ∨ i = 4 ∨ i = 5 ∨ i = 6 ∨ i = 7 ∨ i = 8 ∨ i = 9 ∨ i = 10 := by omega
          · injection ho with ho; subst ho
            refine .inl ⟨wanted_free rfl, ?_⟩
            have h1 : A.tmps[1]?.getD undef = .int .i64 (l : Nat) := hk 1 (by rfl)
            go_simp
            exact ⟨rfl, Below.refl _ _⟩
          · injection ho with ho; subst ho
            refine .inl ⟨wanted_free rfl, ?_⟩
            have h1 : A.tmps[1]?.getD undef = .int .i64 (l : Nat) := hk 1 (by rfl)
            go_simp
            exact ⟨rfl, Below.refl _ _⟩
          · injection ho with ho; subst ho
            refine .inl ⟨wanted_free rfl, ?_⟩
            have h5 : A.tmps[5]?.getD undef = .pointer (some ⟨w.heap.size, 0, none⟩) := hk 5 (by rfl)
            go_simp
            exact ⟨rfl, Below.refl _ _⟩
          · injection ho with ho; subst ho
            refine .inl ⟨wanted_free rfl, ?_⟩
            have h73 : A.tmps[73]?.getD undef = .pointer (some ⟨w.heap.size, 16, none⟩) := he 2 (by kernel_rfl) (by rfl)
            have h72 : A.tmps[72]?.getD undef = .int .i64 (l : Nat) := he 1 (by kernel_rfl) (by rfl)
            go_simp
            exact ⟨rfl, Below.refl _ _⟩
          · obtain rfl : j = 0 := Nat.le_zero.1 hj
            have hMs : WrD w (dwU V l tt) m zero48 zero8 W := hMj
            injection ho with ho; subst ho
            refine .inl ⟨wanted_free rfl, ?_⟩
            have h74 : A.tmps[74]?.getD undef = .pointer (some ⟨w.heap.size, 16 + l * 8, none⟩) := he 3 (by kernel_rfl) (by rfl)
            exact y_load (cs := vwC (dwU V l tt (l + 2))) rfl h74 (vs_range (V := dwU V l tt) (hMs.at5) ((l + 2)) _ (by have := HL.out; omega) (by omega)) Try.underlying30 rfl rvSize
          · injection ho with ho; subst ho
            refine .inl ⟨wanted_free rfl, ?_⟩
            have h5 : A.tmps[5]?.getD undef = .pointer (some ⟨w.heap.size, 0, none⟩) := hk 5 (by rfl)
            go_simp
            exact ⟨rfl, Below.refl _ _⟩
          · obtain rfl : j = 0 := Nat.le_zero.1 hj
            have hMs : WrD w (dwU V l tt) m zero48 zero8 W := hMj
            injection ho with ho; subst ho
            refine .inl ⟨wanted_free rfl, ?_⟩
            have h76 : A.tmps[76]?.getD undef = .pointer (some ⟨w.heap.size, 0, none⟩) := he 5 (by kernel_rfl) (by rfl)
            exact y_load (cs := vwC (dwU V l tt 0)) rfl h76 (vs_range (V := dwU V l tt) (hMs.at5) (0) _ (by omega) rfl) Try.underlying30 rfl rvSize
          · obtain rfl : j = 0 := Nat.le_zero.1 hj
            have hMs : WrD w (dwU V l tt) m zero48 zero8 W := hMj
            injection ho with ho; subst ho
            refine .inl ⟨wanted_free rfl, ?_⟩
            have h75 : A.tmps[75]?.getD undef = .agg (vwC (dwU V l tt (l + 2))) := he 4 (by kernel_rfl) (by rfl)
            have h77 : A.tmps[77]?.getD undef = .agg (vwC (dwU V l tt 0)) := he 6 (by kernel_rfl) (by rfl)
            go_simp
            refine Calls.mono (djoin_any (dwU V l tt (l + 2)) (dwU V l tt 0) W) ?_
            rintro e' w' ⟨rfl, hb⟩
            exact ⟨_, rfl, rfl, hb⟩
          · injection ho with ho; subst ho
            refine .inl ⟨wanted_free rfl, ?_⟩
            have h5 : A.tmps[5]?.getD undef = .pointer (some ⟨w.heap.size, 0, none⟩) := hk 5 (by rfl)
            go_simp
            exact ⟨rfl, Below.refl _ _⟩
          · injection ho with ho; subst ho
            refine .inl ⟨wanted_free rfl, ?_⟩
            have h79 : A.tmps[79]?.getD undef = .pointer (some ⟨w.heap.size, 16, none⟩) := he 8 (by kernel_rfl) (by rfl)
            have h71 : A.tmps[71]?.getD undef = .int .i64 (l : Nat) := he 0 (by kernel_rfl) (by rfl)
            go_simp
            exact ⟨rfl, Below.refl _ _⟩
          · exact absurd hc (by decide)
        · intro j i o hji ho A W hz hMj hk he
          rcases j with _ | j
          · obtain rfl : 10 = i := Option.some.inj hji
            injection ho with ho; subst ho
            refine .inl ⟨wanted_free rfl, ?_⟩
            have hMs : WrD w (dwU V l tt) m zero48 zero8 W := hMj
            have h80 : A.tmps[80]?.getD undef = .pointer (some ⟨w.heap.size, 16 + l * 8, none⟩) := he 9 (by kernel_rfl) (by rfl)
            have h78 : A.tmps[78]?.getD undef = .agg (vwC (maxF (dwU V l tt (l + 2)) (dwU V l tt 0))) := he 7 (by kernel_rfl) (by rfl)
            exact y_storeK rfl h80 h78 hMs.at5 (k := l + 2) (by have := HL.out; omega) (by omega) rvSize (by have := HX3.out.grow; omega) (fun _ _ => trivial) (hMs.setK (l + 2) _ _ (by omega))
          · simp at hji
        · intro xs W hz hMe hV
          have hMe : WrD w (setV (dwU V l tt) (l + 2) (maxF (dwU V l tt (l + 2)) (dwU V l tt 0))) m zero48 zero8 W := hMe
          simp only [putM, Act.put, List.setIfInBounds_toArray, List.set_cons_zero, List.set_cons_succ, Nat.zero_add, Nat.reduceAdd]
          clear hV
          generalize W = X4 at hMe ⊢
          have HX4 := Lib.hid hMe
          clear hMe hz HX3
          go_upto_region 11 with (fail)
          refine wp_flowM [some 85, some 86, some 87, some 88, some 89, some 90, some 91, none, none, some 12] [7, 8] [0, 1, 1, 1, 1, 1, 0, 0, 0, 2] [eqV (.agg (vsC (setV (dwU V l tt) (l + 2) (maxF (dwU V l tt (l + 2)) (dwU V l tt 0))))), eqV (.int .i64 (l : Nat)), eqV (.pointer (some ⟨w.heap.size, 16, none⟩)), eqV (.pointer (some ⟨w.heap.size, 16 + l * 8, none⟩)), eqV (.agg (vwC ((setV (dwU V l tt) (l + 2) (maxF (dwU V l tt (l + 2)) (dwU V l tt 0))) (l + 2)))), eqV (.agg (vwC (m))), eqV (.agg (vwC (maxF ((setV (dwU V l tt) (l + 2) (maxF (dwU V l tt (l + 2)) (dwU V l tt 0))) (l + 2)) m))), fun _ _ => True, fun _ _ => True, eqV (.bool true)] (fun j W => match j with | 0 => WrD w (setV (dwU V l tt) (l + 2) (maxF (dwU V l tt (l + 2)) (dwU V l tt 0))) m (zero48) (zero8) W | 1 => WrD w (setV (dwU V l tt) (l + 2) (maxF (dwU V l tt (l + 2)) (dwU V l tt 0))) m (vsC (setV (dwU V l tt) (l + 2) (maxF (dwU V l tt (l + 2)) (dwU V l tt 0)))) (zero8) W | _ => WrD w (setV (dwU V l tt) (l + 2) (maxF (dwU V l tt (l + 2)) (dwU V l tt 0))) m (vsC (setV (dwU V l tt) (l + 2) (maxF (dwU V l tt (l + 2)) (dwU V l tt 0)))) (vwC (maxF ((setV (dwU V l tt) (l + 2) (maxF (dwU V l tt (l + 2)) (dwU V l tt 0))) (l + 2)) m)) W) (by kernel_rfl) (by kernel_rfl) (by kernel_rfl) (by rfl)
            (by simp only [List.mem_cons, List.not_mem_nil, or_false, forall_eq_or_imp, forall_eq]; refine ⟨?_, ?_, ?_, ?_, ?_, ?_, ?_, ?_, ?_, ?_⟩ <;> (first | exact eqV_monoB _ _ | exact rowB_mono _ _ _ _ | exact true_monoB _))
            (fun j W W' h hb => by rcases j with _ | _ | j <;> first | exact (WrD.grown h hb)) (HX4.out) ?_ ?_ ?_
          · intro i o hi ho hc j A W hj hz hMj hk he
            simp only [List.length_cons, List.length_nil, Nat.zero_add, Nat.reduceAdd] at hi
            obtain rfl | rfl | rfl | rfl | rfl | rfl | rfl | rfl | rfl | rfl : i = 0 ∨ i = 1 ∨ i = 2 ∨ i = 3 ∨ i = 4 ∨ i = 5 ∨ i = 6 ∨ i = 7 ∨ i = 8 ∨ i = 9 := by omega
            · obtain rfl : j = 0 := Nat.le_zero.1 hj
              have hMs : WrD w (setV (dwU V l tt) (l + 2) (maxF (dwU V l tt (l + 2)) (dwU V l tt 0))) m (zero48) (zero8) W := hMj
              injection ho with ho; subst ho
              refine .inl ⟨wanted_free rfl, ?_⟩
              have h5 : A.tmps[5]?.getD undef = .pointer (some ⟨w.heap.size, 0, none⟩) := hk 5 (by rfl)
              exact y_load (cs := vsC (setV (dwU V l tt) (l + 2) (maxF (dwU V l tt (l + 2)) (dwU V l tt 0)))) rfl h5 (sits_range (hMs.at5)) Try.underlying33 rfl rsSize
            · injection ho with ho; subst ho
              refine .inl ⟨wanted_free rfl, ?_⟩
              have h1 : A.tmps[1]?.getD undef = .int .i64 (l : Nat) := hk 1 (by rfl)
              go_simp
              exact ⟨rfl, Below.refl _ _⟩
            · injection ho with ho; subst ho
              refine .inl ⟨wanted_free rfl, ?_⟩
              have h5 : A.tmps[5]?.getD undef = .pointer (some ⟨w.heap.size, 0, none⟩) := hk 5 (by rfl)
              go_simp
              exact ⟨rfl, Below.refl _ _⟩
            · injection ho with ho; subst ho
              refine .inl ⟨wanted_free rfl, ?_⟩
              have h87 : A.tmps[87]?.getD undef = .pointer (some ⟨w.heap.size, 16, none⟩) := he 2 (by kernel_rfl) (by rfl)
              have h86 : A.tmps[86]?.getD undef = .int .i64 (l : Nat) := he 1 (by kernel_rfl) (by rfl)
              go_simp
              exact ⟨rfl, Below.refl _ _⟩
            · have hj2 : j ≤ 1 := hj
              rcases j with _ | _ | j
              · have hMs : WrD w (setV (dwU V l tt) (l + 2) (maxF (dwU V l tt (l + 2)) (dwU V l tt 0))) m (zero48) (zero8) W := hMj
                injection ho with ho; subst ho
                refine .inl ⟨wanted_free rfl, ?_⟩
                have h88 : A.tmps[88]?.getD undef = .pointer (some ⟨w.heap.size, 16 + l * 8, none⟩) := he 3 (by kernel_rfl) (by rfl)
                exact y_load (cs := vwC ((setV (dwU V l tt) (l + 2) (maxF (dwU V l tt (l + 2)) (dwU V l tt 0))) (l + 2))) rfl h88 (vs_range (V := setV (dwU V l tt) (l + 2) (maxF (dwU V l tt (l + 2)) (dwU V l tt 0))) (hMs.at5) ((l + 2)) _ (by have := HL.out; omega) (by omega)) Try.underlying30 rfl rvSize
              · have hMs : WrD w (setV (dwU V l tt) (l + 2) (maxF (dwU V l tt (l + 2)) (dwU V l tt 0))) m (vsC (setV (dwU V l tt) (l + 2) (maxF (dwU V l tt (l + 2)) (dwU V l tt 0)))) (zero8) W := hMj
                injection ho with ho; subst ho
                refine .inl ⟨wanted_free rfl, ?_⟩
                have h88 : A.tmps[88]?.getD undef = .pointer (some ⟨w.heap.size, 16 + l * 8, none⟩) := he 3 (by kernel_rfl) (by rfl)
                exact y_load (cs := vwC ((setV (dwU V l tt) (l + 2) (maxF (dwU V l tt (l + 2)) (dwU V l tt 0))) (l + 2))) rfl h88 (vs_range (V := setV (dwU V l tt) (l + 2) (maxF (dwU V l tt (l + 2)) (dwU V l tt 0))) (hMs.at5) ((l + 2)) _ (by have := HL.out; omega) (by omega)) Try.underlying30 rfl rvSize
              · omega
            · have hj2 : j ≤ 1 := hj
              rcases j with _ | _ | j
              · have hMs : WrD w (setV (dwU V l tt) (l + 2) (maxF (dwU V l tt (l + 2)) (dwU V l tt 0))) m (zero48) (zero8) W := hMj
                injection ho with ho; subst ho
                refine .inl ⟨wanted_free rfl, ?_⟩
                have h9 : A.tmps[9]?.getD undef = .pointer (some ⟨w.heap.size + 1, 0, none⟩) := hk 9 (by rfl)
                exact y_load (cs := vwC (m)) rfl h9 (sits_range (hMs.at9)) Try.underlying30 rfl rvSize
              · have hMs : WrD w (setV (dwU V l tt) (l + 2) (maxF (dwU V l tt (l + 2)) (dwU V l tt 0))) m (vsC (setV (dwU V l tt) (l + 2) (maxF (dwU V l tt (l + 2)) (dwU V l tt 0)))) (zero8) W := hMj
                injection ho with ho; subst ho
                refine .inl ⟨wanted_free rfl, ?_⟩
                have h9 : A.tmps[9]?.getD undef = .pointer (some ⟨w.heap.size + 1, 0, none⟩) := hk 9 (by rfl)
                exact y_load (cs := vwC (m)) rfl h9 (sits_range (hMs.at9)) Try.underlying30 rfl rvSize
              · omega
            · obtain rfl : j = 0 := Nat.le_zero.1 hj
              have hMs : WrD w (setV (dwU V l tt) (l + 2) (maxF (dwU V l tt (l + 2)) (dwU V l tt 0))) m (zero48) (zero8) W := hMj
              injection ho with ho; subst ho
              refine .inl ⟨wanted_free rfl, ?_⟩
              have h89 : A.tmps[89]?.getD undef = .agg (vwC ((setV (dwU V l tt) (l + 2) (maxF (dwU V l tt (l + 2)) (dwU V l tt 0))) (l + 2))) := he 4 (by kernel_rfl) (by rfl)
              have h90 : A.tmps[90]?.getD undef = .agg (vwC (m)) := he 5 (by kernel_rfl) (by rfl)
              go_simp
              refine Calls.mono (djoin_any ((setV (dwU V l tt) (l + 2) (maxF (dwU V l tt (l + 2)) (dwU V l tt 0))) (l + 2)) m W) ?_
              rintro e' w' ⟨rfl, hb⟩
              exact ⟨_, rfl, rfl, hb⟩
            · exact absurd hc (by decide)
            · exact absurd hc (by decide)
            · injection ho with ho; subst ho
              refine .inl ⟨wanted_free rfl, ?_⟩
              go_simp
              exact ⟨rfl, Below.refl _ _⟩
          · intro j i o hji ho A W hz hMj hk he
            rcases j with _ | _ | j
            · obtain rfl : 7 = i := Option.some.inj hji
              injection ho with ho; subst ho
              refine .inl ⟨wanted_free rfl, ?_⟩
              have hMs : WrD w (setV (dwU V l tt) (l + 2) (maxF (dwU V l tt (l + 2)) (dwU V l tt 0))) m (zero48) (zero8) W := hMj
              have h10 : A.tmps[10]?.getD undef = .pointer (some ⟨w.heap.size + 1 + 1, 0, none⟩) := hk 10 (by rfl)
              have h85 : A.tmps[85]?.getD undef = .agg (vsC (setV (dwU V l tt) (l + 2) (maxF (dwU V l tt (l + 2)) (dwU V l tt 0)))) := he 0 (by kernel_rfl) (by rfl)
              exact y_store rfl h10 h85 hMs.at10 (by rw [vsC_size]; exact rsSize) (zero48_size.trans (vsC_size _).symm) (vsC_one _) (by have := HX4.out.grow; omega) (fun _ _ => trivial) (hMs.out _)
            · obtain rfl : 8 = i := Option.some.inj hji
              injection ho with ho; subst ho
              refine .inl ⟨wanted_free rfl, ?_⟩
              have hMs : WrD w (setV (dwU V l tt) (l + 2) (maxF (dwU V l tt (l + 2)) (dwU V l tt 0))) m (vsC (setV (dwU V l tt) (l + 2) (maxF (dwU V l tt (l + 2)) (dwU V l tt 0)))) (zero8) W := hMj
              have h11 : A.tmps[11]?.getD undef = .pointer (some ⟨w.heap.size + 1 + 1 + 1, 0, none⟩) := hk 11 (by rfl)
              have h91 : A.tmps[91]?.getD undef = .agg (vwC (maxF ((setV (dwU V l tt) (l + 2) (maxF (dwU V l tt (l + 2)) (dwU V l tt 0))) (l + 2)) m)) := he 6 (by kernel_rfl) (by rfl)
              exact y_store rfl h11 h91 hMs.at11 rvSize rfl (vwC_one _) (by have := HX4.out.grow; omega) (fun _ _ => trivial) (hMs.out2 _)
            · simp at hji
          · intro xs W hz hMe hV
            have hMe : WrD w (setV (dwU V l tt) (l + 2) (maxF (dwU V l tt (l + 2)) (dwU V l tt 0))) m (vsC (setV (dwU V l tt) (l + 2) (maxF (dwU V l tt (l + 2)) (dwU V l tt 0)))) (vwC (maxF ((setV (dwU V l tt) (l + 2) (maxF (dwU V l tt (l + 2)) (dwU V l tt 0))) (l + 2)) m)) W := hMe
            have e12 : xs 9 = .bool true := hV 9 (by simp) rfl
            simp only [putM, Act.put, List.setIfInBounds_toArray, List.set_cons_zero, List.set_cons_succ, Nat.zero_add, Nat.reduceAdd, e12]
            clear hV e12
            generalize W = WL at hMe ⊢
            have HZ := Lib.hid hMe
            clear hMe hz HX4
            go_wp2_with fail
            exact bodyPost_ret (v := .tuple #[.agg (vsC (setV (dwU V l tt) (l + 2) (maxF (dwU V l tt (l + 2)) (dwU V l tt 0)))), .agg (vwC (maxF ((setV (dwU V l tt) (l + 2) (maxF (dwU V l tt (l + 2)) (dwU V l tt 0))) (l + 2)) m)), .bool true]) (dresult_svb Try.results10 rfl rfl rfl HZ.out.at10 HZ.out.at11) rfl ⟨by rw [hv.out, hm.out, hk.out], HZ.out.low⟩
end Go.Proofs.Ytanbkclomjbokaa.Tvw
