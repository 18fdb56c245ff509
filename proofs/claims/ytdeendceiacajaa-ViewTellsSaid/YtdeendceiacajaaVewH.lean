/- Layer 10 (view): a view as it is handed over: opened and shut. -/
import Derived.Test.YtdeendceiacajaaVewA
import Derived.ProofKit
import Derived.OpenShut
import Derived.Lib.SmallJoins
namespace Go.Proofs.Ytdeendceiacajaa.Vew
open Go.RowKit Go.ChangeShapes Go.WideShapes Go.ChangeAt Go.Joins Go.Proofs.Ytdeendceiacajaa.Mem

theorem own : ownKnob Try.prog.godebug = none := by kernel_rfl
theorem cellsVew : Try.prog.cellsOf 24 = 8 := by kernel_rfl
theorem cellsArr : Try.prog.cellsOf 22 = 4 := by kernel_rfl
theorem cellsInt : Try.prog.cellsOf 3 = 1 := by kernel_rfl
section
variable {H : Type} {enc : TypeId × Value → H} {P : Program}
/-- A call that is known below alone: what was there is as it was, so it reads as it did. -/
theorem post_below {f : Func} {s : ChangeSpec} {apart fresh handsOn again : Bool} {W W' : World} {args : Array Value} {v : Value} {ds gs : List (DataW H)} {before pa pv : List MemPlace}
    (hW : DataW.Whole enc P f.params.toList s.vars apart W args.toList ds gs before)
    (hres : ∀ (b : Nat) (sp : Nat → Bool) (hd : Bool), DataW.TrodAll enc P W' b sp hd f.resultTypes.toList (v.resultList f.resultTypes.size) (s.fn H (ds ++ gs)).results [])
    (hargs : ∀ sp : Nat → Bool, (∀ p ∈ before, sp p.block = true) → DataW.TrodAll enc P W' 0 sp true f.params.toList args.toList (s.fn H (ds ++ gs)).args pa)
    (hvars : ∀ sp : Nat → Bool, (∀ p ∈ before, sp p.block = true) → DataW.TrodVars enc P W' sp s.vars (s.fn H (ds ++ gs)).vars pv)
    (hps : before = pa ++ pv) (hb : Below W.heap.size W W')
    (hok : ∀ (j : Nat) (t : TypeId) (r : Value), f.resultTypes[j]? = some t → (v.resultList f.resultTypes.size)[j]? = some r → Value.okWide P W' .any 0 t r) :
    s.post enc P f apart fresh handsOn again W args v W' := by
  have hin : ∀ p ∈ before, p.block < W.heap.size := fun p hp => hW.lt p hp
  have hyes : ∀ p ∈ before, (fun b => decide (b < W.heap.size)) p.block = true := fun p hp => decide_eq_true (hin p hp)
  refine ⟨ds, gs, before, [], pa, pv, hW, hres _ _ _, hargs _ hyes, hvars _ hyes, World.keptBut_mono (fun p hp => ⟨hp, ?_⟩) (hb.frame (· ∈ before)), fun _ => ?_⟩
  · rw [hps, List.mem_append] at hp; exact Or.inr hp
  · obtain ⟨_, _, _, _, _, hfz, hnd⟩ := hW
    refine ⟨hok, _, _, ([] ++ pa) ++ pv, ⟨[] ++ pa, pv, trodAll_append (hargs _ (fun _ _ => rfl)) (hres _ _ _), hvars _ (fun _ _ => rfl), rfl, fun b off hp => ?_, fun ha => ?_⟩, fun p hp _ => ?_⟩
    · have hp' : MemPlace.cell b off ∈ before := by rw [hps]; simpa using hp
      rw [hb.frozen (hin _ hp')]; exact hfz b off hp'
    · have h2 := hnd ha
      rw [hps] at h2; simpa using h2
    · rw [hps]; simpa using hp
end
abbrev litI {H : Type} (a : Int) : DataW H := .lit (.int .i64 a)
/-- A view as data. -/
abbrev vewD {H : Type} (f : Nat → Int) : DataW H := .agg [.agg [litI (f 0), litI (f 1), litI (f 2), litI (f 3)], .agg [litI (f 4), litI (f 5), litI (f 6), litI (f 7)]]
def OkF (f : Nat → Int) : Prop := ∀ i, i < 8 → (Lit.int .i64 (f i)).wf = true
section
variable {H : Type} {enc : TypeId × Value → H} {W : World} {base : Nat} {sp : Nat → Bool} {held : Bool}
theorem arr_open {n : Nat} {c0 c1 c2 c3 : Value} {y : DataW H × List MemPlace} (h : DataW.trod enc Try.prog W base sp held n 22 [c0, c1, c2, c3] = some y) :
    ∃ a b c d : Int, c0 = .int .i64 a ∧ c1 = .int .i64 b ∧ c2 = .int .i64 c ∧ c3 = .int .i64 d ∧ y = (.agg [litI a, litI b, litI c, litI d], []) ∧
      (Lit.int .i64 a).wf = true ∧ (Lit.int .i64 b).wf = true ∧ (Lit.int .i64 c).wf = true ∧ (Lit.int .i64 d).wf = true := by
  cases n with
  | zero => simp [DataW.trod] at h
  | succ n =>
    unfold DataW.trod at h
    simp only [Try.underlying22, cellsArr, cellsInt, List.length_cons, List.length_nil, Nat.zero_add, Nat.reduceAdd, if_true] at h
    rw [show List.range 4 = [0, 1, 2, 3] from rfl] at h
    simp only [List.mapM_cons, List.mapM_nil, bind, pure, Option.map_eq_some_iff, Option.bind_eq_some_iff, Option.some.injEq] at h
    obtain ⟨xs, ⟨y0, h0, r0, ⟨y1, h1, r1, ⟨y2, h2, r2, ⟨y3, h3, r3, rfl, rfl⟩, rfl⟩, rfl⟩, rfl⟩, rfl⟩ := h
    obtain ⟨a, q0, rfl, w0⟩ := DataW.trod_int Try.underlying3 h0
    obtain ⟨b, q1, rfl, w1⟩ := DataW.trod_int Try.underlying3 h1
    obtain ⟨c, q2, rfl, w2⟩ := DataW.trod_int Try.underlying3 h2
    obtain ⟨d, q3, rfl, w3⟩ := DataW.trod_int Try.underlying3 h3
    simp at q0 q1 q2 q3
    exact ⟨a, b, c, d, q0, q1, q2, q3, rfl, w0, w1, w2, w3⟩
theorem array8 {α : Type} {cs : Array α} (h : cs.size = 8) : ∃ a b c d e f g i, cs = #[a, b, c, d, e, f, g, i] := by
  obtain ⟨l⟩ := cs
  rcases l with _ | ⟨a, _ | ⟨b, _ | ⟨c, _ | ⟨d, _ | ⟨e, _ | ⟨f, _ | ⟨g, _ | ⟨i, _ | ⟨j, l⟩⟩⟩⟩⟩⟩⟩⟩⟩ <;> simp at h
  exact ⟨a, b, c, d, e, f, g, i, rfl⟩
theorem vew_open {b0 : Nat} {v : Value} {d : DataW H} {ps : List MemPlace} (hv : Value.okWide Try.prog W .any b0 24 v) (h : DataW.Trod enc Try.prog W base sp held 24 v d ps) :
    ∃ f : Nat → Int, v = vewV f ∧ d = vewD f ∧ ps = [] ∧ OkF f := by
  obtain ⟨cs, rfl, hsz⟩ := okWide_struct Try.underlying24 hv
  obtain ⟨c0, c1, c2, c3, c4, c5, c6, c7, rfl⟩ := array8 (hsz.trans cellsVew)
  obtain ⟨fuel, hf⟩ := h
  obtain ⟨y0, y1, n, hx, _, h0, h1⟩ := trod_struct2 Try.underlying24 hf
  simp only [cellsArr, Value.cells, List.drop_zero, List.drop_succ_cons, List.take_succ_cons, List.take_zero] at h0 h1
  obtain ⟨p0, p1, p2, p3, rfl, rfl, rfl, rfl, rfl, w0, w1, w2, w3⟩ := arr_open h0
  obtain ⟨p4, p5, p6, p7, rfl, rfl, rfl, rfl, rfl, w4, w5, w6, w7⟩ := arr_open h1
  simp only [Prod.mk.injEq] at hx
  refine ⟨fun i => [p0, p1, p2, p3, p4, p5, p6, p7].getD i 0, rfl, hx.1, by rw [hx.2]; rfl, fun i hi => ?_⟩
  rcases (by omega : i = 0 ∨ i = 1 ∨ i = 2 ∨ i = 3 ∨ i = 4 ∨ i = 5 ∨ i = 6 ∨ i = 7) with rfl | rfl | rfl | rfl | rfl | rfl | rfl | rfl <;> assumption
theorem vew_shut {f : Nat → Int} (h : OkF f) : DataW.Trod enc Try.prog W base sp held 24 (vewV f) (vewD f) [] := by
  have w0 := h 0 (by decide); have w1 := h 1 (by decide); have w2 := h 2 (by decide); have w3 := h 3 (by decide)
  have w4 := h 4 (by decide); have w5 := h 5 (by decide); have w6 := h 6 (by decide); have w7 := h 7 (by decide)
  have ea : ∀ a b c d : Int, (Lit.int .i64 a).wf = true → (Lit.int .i64 b).wf = true → (Lit.int .i64 c).wf = true → (Lit.int .i64 d).wf = true →
      DataW.trod enc Try.prog W base sp held 2 22 [.int .i64 a, .int .i64 b, .int .i64 c, .int .i64 d] = some (.agg [litI a, litI b, litI c, litI d], []) := by
    intro a b c d wa wb wc wd
    unfold DataW.trod
    simp only [Try.underlying22, cellsArr, cellsInt, List.length_cons, List.length_nil, Nat.zero_add, Nat.reduceAdd, if_true]
    rw [show List.range 4 = [0, 1, 2, 3] from rfl]
    simp [DataW.trod, Try.underlying3, wa, wb, wc, wd]
  refine ⟨3, ?_⟩
  unfold DataW.trod
  simp only [Try.underlying24, Value.cells, cellsVew]
  simp [cellsArr, ea _ _ _ _ w0 w1 w2 w3, ea _ _ _ _ w4 w5 w6 w7]
end
end Go.Proofs.Ytdeendceiacajaa.Vew
