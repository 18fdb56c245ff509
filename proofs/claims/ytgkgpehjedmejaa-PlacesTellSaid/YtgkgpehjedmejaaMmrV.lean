/- Layer 11 (memory): the arguments of the laws, opened: a row of numbers, a row of acts. -/
import Derived.Test.YtgkgpehjedmejaaMmrT
import Derived.ProofKit
import Derived.OpenShut
import Derived.Lib.SmallJoins
import Derived.WideKeyArgs
import Derived.Deep.Slices
import Derived.Laws.IdiomArrays
namespace Go.Proofs.Ytgkgpehjedmejaa.Mmr
open Go.RowKit Go.ChangeShapes Go.WideShapes Go.ChangeAt Go.Joins Go.Proofs.Ytgkgpehjedmejaa.Mem Go.Deep

section
variable {H : Type} {enc : TypeId × Value → H} {P : Program}
/-- A call that is known below alone: what was there is as it was, so it reads as it did. -/
theorem post_below {f : Func} {s : ChangeSpec} {apart fresh handsOn again : Bool} {W W' : World} {args : Array Value} {v : Value} {ds gs : List (DataW H)} {before pa pv : List MemPlace}
    (hW : DataW.Whole enc P f.params.toList s.vars apart W args.toList ds gs before)
    (hres : ∀ (b : Nat) (sp : Nat → Bool) (hd : Bool), DataW.TrodAll enc P W' b sp hd f.resultTypes.toList (v.resultList f.resultTypes.size) (s.fn H (ds ++ gs)).results [])
    (hargs : ∀ sp : Nat → Bool, (∀ p ∈ before, sp p.block = true) → DataW.TrodAll enc P W' 0 sp true f.params.toList args.toList (s.fn H (ds ++ gs)).args pa)
    (hvars : ∀ sp : Nat → Bool, (∀ p ∈ before, sp p.block = true) → DataW.TrodVars enc P W' sp s.vars (s.fn H (ds ++ gs)).vars pv)
    (hps : before = pa ++ pv) (hb : Below W.heap.size W W')
    (hok : ∀ (j : Nat) (t : TypeId) (r : Value), f.resultTypes[j]? = some t → (v.resultList f.resultTypes.size)[j]? = some r → Value.okWide P W' .any 0 t r) :
    s.post enc P f apart fresh handsOn again W args v W' := by
  have hin : ∀ p ∈ before, p.block < W.heap.size := fun p hp => hW.lt p hp
  have hyes : ∀ p ∈ before, (fun b => decide (b < W.heap.size)) p.block = true := fun p hp => decide_eq_true (hin p hp)
  refine ⟨ds, gs, before, [], pa, pv, hW, hres _ _ _, hargs _ hyes, hvars _ hyes, World.keptBut_mono (fun p hp => ⟨hp, ?_⟩) (hb.frame (· ∈ before)), fun _ => ?_⟩
  · rw [hps, List.mem_append] at hp; exact Or.inr hp
  · obtain ⟨_, _, _, _, _, hfz, hnd⟩ := hW
    refine ⟨hok, _, _, ([] ++ pa) ++ pv, ⟨[] ++ pa, pv, trodAll_append (hargs _ (fun _ _ => rfl)) (hres _ _ _), hvars _ (fun _ _ => rfl), rfl, fun b off hp => ?_, fun ha => ?_⟩, fun p hp _ => ?_⟩
    · have hp' : MemPlace.cell b off ∈ before := by rw [hps]; simpa using hp
      rw [hb.frozen (hin _ hp')]; exact hfz b off hp'
    · have h2 := hnd ha
      rw [hps] at h2; simpa using h2
    · rw [hps]; simpa using hp
theorem trodAll_below {H : Type} {enc : TypeId × Value → H} {P : Program} {W W' : World} {sp : Nat → Bool} (hl : laidOutB P = true) (hb : Below W.heap.size W W') :
    ∀ {ts : List TypeId} {vs : List Value} {ds : List (DataW H)} {ps : List MemPlace}, (∀ t ∈ ts, P.readableRec t = true ∧ t < P.types.size) → DataW.TrodAll enc P W 0 (fun _ => true) true ts vs ds ps →
      (∀ x ∈ ps, x.block < W.heap.size) → (∀ x ∈ ps, sp x.block = true) → DataW.TrodAll enc P W' 0 sp true ts vs ds ps
  | [], [], [], _, _, h, _, _ => h
  | _ :: _, _ :: _, _ :: _, _, hT, ⟨p, q, h1, h2, e⟩, hlt, hs =>
    ⟨p, q, WideElems.Trod_stays hl (hT _ (List.mem_cons.2 (.inl rfl))).1 (hT _ (List.mem_cons.2 (.inl rfl))).2 h1 (fun x hx => hb.same (hlt x (by rw [e]; exact List.mem_append_left _ hx))) (fun x hx => hs x (by rw [e]; exact List.mem_append_left _ hx)),
      trodAll_below hl hb (fun t ht => hT t (List.mem_cons.2 (.inr ht))) h2 (fun x hx => hlt x (by rw [e]; exact List.mem_append_right _ hx)) (fun x hx => hs x (by rw [e]; exact List.mem_append_right _ hx)), e⟩
/-- A field of a struct that is read: so many cells from there. -/
theorem field_cells {w : World} {base : Nat} {sp : Nat → Bool} {held : Bool} {n : Nat} {fs : Array Field} {xs : List (DataW H × List MemPlace)} {cs : List Value} {j o z : Nat} {t : TypeId}
    (hi : (fs[j]?).map (fun f => (f.type, f.offset, P.cellsOf f.type)) = some (t, o, z)) (hx : xs.length = fs.size)
    (h : ∀ (i : Nat) (f : Field), fs[i]? = some f → DataW.trod enc P w base sp held n f.type ((cs.drop f.offset).take (P.cellsOf f.type)) = xs[i]?) : ∃ x, DataW.trod enc P w base sp held n t ((cs.drop o).take z) = some x := by
  obtain ⟨f, hf, he⟩ := Option.map_eq_some_iff.1 hi
  simp only [Prod.mk.injEq] at he
  obtain ⟨rfl, rfl, hc⟩ := he
  have hj : j < xs.length := by rw [hx]; exact (Array.getElem?_eq_some_iff.1 hf).1
  have h1 := h j f hf
  rw [List.getElem?_eq_getElem hj, hc] at h1
  exact ⟨_, h1⟩
theorem one_cell {cs : List Value} {o : Nat} {v : Value} (h : (cs.drop o).take 1 = [v]) : cs[o]? = some v := by
  have := congrArg (·[0]?) h
  simpa [List.getElem?_take, List.getElem?_drop] using this
theorem int_at {w : World} {base : Nat} {sp : Nat → Bool} {held : Bool} {n : Nat} {cs : List Value} {o : Nat} {t : TypeId} {k : IntKind} (ht : P.underlying t = some (.int k)) (h : ∃ x, DataW.trod enc P w base sp held n t ((cs.drop o).take 1) = some x) : ∃ z, cs[o]? = some (.int k z) ∧ (Lit.int k z).wf = true := by
  obtain ⟨x, h⟩ := h
  obtain ⟨z, hz, _, hw⟩ := DataW.trod_int ht h
  exact ⟨z, one_cell hz, hw⟩
theorem bool_at {w : World} {base : Nat} {sp : Nat → Bool} {held : Bool} {n : Nat} {cs : List Value} {o : Nat} {t : TypeId} (ht : P.underlying t = some .bool) (h : ∃ x, DataW.trod enc P w base sp held n t ((cs.drop o).take 1) = some x) : ∃ b, cs[o]? = some (.bool b) := by
  obtain ⟨x, h⟩ := h
  obtain ⟨b, hb, _⟩ := DataW.trod_bool ht h
  exact ⟨b, one_cell hb⟩
end
theorem list_of {α : Type} {n : Nat} {Q : Nat → α → Prop} (h : ∀ i, i < n → ∃ a, Q i a) : ∃ l : List α, l.length = n ∧ ∀ i a, l[i]? = some a → Q i a := by
  induction n with
  | zero => exact ⟨[], rfl, fun i a h => by simp at h⟩
  | succ n ih =>
    obtain ⟨l, hl, hq⟩ := ih (fun i hi => h i (by omega))
    obtain ⟨a, ha⟩ := h n (by omega)
    refine ⟨l ++ [a], by simp [hl], fun i b hb => ?_⟩
    by_cases hi : i < n
    · exact hq i b (by rwa [List.getElem?_append_left (by omega)] at hb)
    · have hlt := (List.getElem?_eq_some_iff.1 hb).1
      simp [hl] at hlt
      obtain rfl : i = n := by omega
      rw [List.getElem?_append_right (by omega), hl, Nat.sub_self] at hb
      cases hb
      exact ha
noncomputable def fieldsAt (t : TypeId) : Array Field := match Try.prog.underlying t with
  | some (.struct fs) => fs
  | _ => #[]
theorem item_under : Try.prog.underlying 60 = some (.struct (fieldsAt 60)) := by unfold fieldsAt; rw [Try.underlying60]
theorem pair_under : Try.prog.underlying 57 = some (.struct (fieldsAt 57)) := by unfold fieldsAt; rw [Try.underlying57]
theorem rview_under : Try.prog.underlying 58 = some (.struct (fieldsAt 58)) := by unfold fieldsAt; rw [Try.underlying58]
noncomputable abbrev FA (t : TypeId) (j : Nat) : Option (TypeId × Nat × Nat) := ((fieldsAt t)[j]?).map fun f => (f.type, f.offset, Try.prog.cellsOf f.type)
theorem item_0 : FA 60 0 = some (3, 0, 1) := by kernel_rfl
theorem item_1 : FA 60 1 = some (57, 1, 2) := by kernel_rfl
theorem item_2 : FA 60 2 = some (44, 3, 1) := by kernel_rfl
theorem item_3 : FA 60 3 = some (58, 4, 8) := by kernel_rfl
theorem item_4 : FA 60 4 = some (4, 12, 1) := by kernel_rfl
theorem item_5 : FA 60 5 = some (3, 13, 1) := by kernel_rfl
theorem pair_0 : FA 57 0 = some (3, 0, 1) := by kernel_rfl
theorem pair_1 : FA 57 1 = some (3, 1, 1) := by kernel_rfl
theorem rview_0 : FA 58 0 = some (48, 0, 4) := by kernel_rfl
theorem rview_1 : FA 58 1 = some (48, 4, 4) := by kernel_rfl
theorem int_cells : Try.prog.cellsOf 3 = 1 := by kernel_rfl
section
variable {H : Type} {enc : TypeId × Value → H} {w : World} {base : Nat} {sp : Nat → Bool} {held : Bool}
theorem drop_take {cs : List Value} {o z i : Nat} (hi : i < z) : ((cs.drop o).take z)[i]? = cs[o + i]? := by
  rw [List.getElem?_take_of_lt hi, List.getElem?_drop]
theorem ints4 {n : Nat} {cs : List Value} {o : Nat} (hlen : o + 4 ≤ cs.length) (h : ∃ x, DataW.trod enc Try.prog w base sp held n 48 ((cs.drop o).take 4) = some x) : ∃ f : Nat → Int, ∀ i, i < 4 → cs[o + i]? = some (.int .i64 (f i)) := by
  obtain ⟨x, h⟩ := h
  have e : (cs.drop o).take 4 = [cs[o]'(by omega), cs[o + 1]'(by omega), cs[o + 2]'(by omega), cs[o + 3]'(by omega)] := by
    apply List.ext_getElem?
    intro i
    by_cases hi : i < 4
    · rw [drop_take hi]
      obtain rfl | rfl | rfl | rfl : i = 0 ∨ i = 1 ∨ i = 2 ∨ i = 3 := by omega
      · rw [List.getElem?_eq_getElem (by omega)]; rfl
      · rw [List.getElem?_eq_getElem (by omega)]; rfl
      · rw [List.getElem?_eq_getElem (by omega)]; rfl
      · rw [List.getElem?_eq_getElem (by omega)]; rfl
    · rw [List.getElem?_eq_none (by simp; omega), List.getElem?_eq_none (by simp; omega)]
  rw [e] at h
  obtain ⟨y0, y1, y2, y3, m, _, h0, h1, h2, h3⟩ := trod_array4 Try.underlying48 int_cells h
  obtain ⟨a, q0, _, _⟩ := DataW.trod_int Try.underlying3 h0
  obtain ⟨b, q1, _, _⟩ := DataW.trod_int Try.underlying3 h1
  obtain ⟨c, q2, _, _⟩ := DataW.trod_int Try.underlying3 h2
  obtain ⟨d, q3, _, _⟩ := DataW.trod_int Try.underlying3 h3
  simp at q0 q1 q2 q3
  refine ⟨fun i => [a, b, c, d].getD i 0, fun i hi => ?_⟩
  obtain rfl | rfl | rfl | rfl : i = 0 ∨ i = 1 ∨ i = 2 ∨ i = 3 := by omega
  · rw [List.getElem?_eq_getElem (by omega)]; exact congrArg some q0
  · rw [List.getElem?_eq_getElem (by omega)]; exact congrArg some q1
  · rw [List.getElem?_eq_getElem (by omega)]; exact congrArg some q2
  · rw [List.getElem?_eq_getElem (by omega)]; exact congrArg some q3
theorem abs_i64 {a : Int} (w : (Lit.int .i64 a).wf = true) : a.natAbs ≤ 2 ^ 64 := by
  have := bounds_i64 w
  omega
theorem view_open {n : Nat} {cs : List Value} {x : DataW H × List MemPlace} (hl : cs.length = 8) (h : DataW.trod enc Try.prog w base sp held n 58 cs = some x) : ∃ v : Nat → Int, ∀ i, i < 8 → cs[i]? = some (.int .i64 (v i)) := by
  obtain ⟨xs, n', _, _, _, hxl, hf⟩ := DataW.trod_struct rview_under h
  obtain ⟨f, h0⟩ := ints4 (o := 0) (by omega) (field_cells rview_0 hxl hf)
  obtain ⟨g, h1⟩ := ints4 (o := 4) (by omega) (field_cells rview_1 hxl hf)
  refine ⟨fun i => if i < 4 then f i else g (i - 4), fun i hi => ?_⟩
  by_cases h4 : i < 4
  · have := h0 i h4
    rw [Nat.zero_add] at this
    simp only [if_pos h4]; exact this
  · have := h1 (i - 4) (by omega)
    rw [show 4 + (i - 4) = i by omega] at this
    simp only [if_neg h4]; exact this
theorem item_open {n : Nat} {cs : List Value} {x : DataW H × List MemPlace} (hl : cs.length = 14) (h : DataW.trod enc Try.prog w base sp held n 60 cs = some x) : ∃ y : It, Rng y ∧ ∀ i, i < 14 → cs[i]? = (rtCells y)[i]? := by
  obtain ⟨xs, n', _, _, _, hxl, hf⟩ := DataW.trod_struct item_under h
  obtain ⟨lc, e0, _⟩ := int_at Try.underlying3 (field_cells item_0 hxl hf)
  obtain ⟨nn, e3, _⟩ := int_at Try.underlying44 (field_cells item_2 hxl hf)
  obtain ⟨rs, e12⟩ := bool_at Try.underlying4 (field_cells item_4 hxl hf)
  obtain ⟨ow, e13, _⟩ := int_at Try.underlying3 (field_cells item_5 hxl hf)
  obtain ⟨xv, hv⟩ := field_cells item_3 hxl hf
  obtain ⟨v, ev⟩ := view_open (by rw [List.length_take, List.length_drop]; omega) hv
  obtain ⟨xp, hp⟩ := field_cells item_1 hxl hf
  obtain ⟨ys, n2, _, _, _, hyl, hg⟩ := DataW.trod_struct pair_under hp
  obtain ⟨a, e1, wa⟩ := int_at Try.underlying3 (field_cells pair_0 hyl hg)
  obtain ⟨b, e2, wb⟩ := int_at Try.underlying3 (field_cells pair_1 hyl hg)
  rw [drop_take (by omega)] at e1 e2
  have ev' : ∀ i, i < 8 → cs[4 + i]? = some (.int .i64 (v i)) := fun i hi => by rw [← drop_take (z := 8) hi]; exact ev i hi
  refine ⟨⟨lc, a, b, nn, v, rs, ow⟩, ⟨abs_i64 wa, abs_i64 wb⟩, fun i hi => ?_⟩
  obtain rfl | rfl | rfl | rfl | rfl | rfl | rfl | rfl | rfl | rfl | rfl | rfl | rfl | rfl : i = 0 ∨ i = 1 ∨ i = 2 ∨ i = 3 ∨ i = 4 ∨ i = 5 ∨ i = 6 ∨ i = 7 ∨ i = 8 ∨ i = 9 ∨ i = 10 ∨ i = 11 ∨ i = 12 ∨ i = 13 := by omega
  · exact e0
  · exact e1
  · exact e2
  · exact e3
  · exact ev' 0 (by omega)
  · exact ev' 1 (by omega)
  · exact ev' 2 (by omega)
  · exact ev' 3 (by omega)
  · exact ev' 4 (by omega)
  · exact ev' 5 (by omega)
  · exact ev' 6 (by omega)
  · exact ev' 7 (by omega)
  · exact e12
  · exact e13
theorem spot_add {b o : Nat} {s : Option Nat} (h : ((⟨b, o, s⟩ : Addr).add 0 |>.add 0).spot = none) : s = none := h
theorem add_plain (b o n : Nat) : (⟨b, o, none⟩ : Addr).add n = ⟨b, o + n, none⟩ := Addr.add_lit ..
set_option maxRecDepth 100000 in
theorem nums_open {v : Value} {d : DataW H} {p : List MemPlace} (hv : Value.okWide Try.prog w .any base 22 v) (h : DataW.Trod enc Try.prog w 0 sp held 22 v d p) :
    ∃ (q : Option Addr) (l : List Int) (cap : Nat), v = .slice q l.length cap ∧ l.length ≤ maxLen ∧ Nums w q l := by
  obtain ⟨q, len, cap, rfl⟩ := okWide_slice Try.underlying22 hv
  obtain ⟨n, hn⟩ := h
  rcases open_slice Try.underlying22 hn with ⟨hcs, _⟩ | ⟨a, len', cap', m, n', D, Pl, hcs, _, hl, hm, hmm, _, hi⟩
  · simp [Value.cells] at hcs
    obtain ⟨rfl, rfl, rfl⟩ := hcs
    exact ⟨none, [], 0, rfl, Nat.zero_le _, fun k x h => by simp at h⟩
  · simp [Value.cells] at hcs
    obtain ⟨rfl, rfl, rfl⟩ := hcs
    have hml : len ≤ m := by rw [hmm]; split <;> omega
    have hc1 : Try.prog.cellsOf 44 = 1 := by kernel_rfl
    rw [hc1] at hi
    have each : ∀ i, i < len → ∃ y : Int, ∃ g o, some a = some (⟨g, o, none⟩ : Addr) ∧ g < w.heap.size ∧ w.cell? ⟨g, o + i, none⟩ = some (.int .u64 y) := fun i hik => by
      obtain ⟨cs, hc, ht⟩ := hi i (by omega)
      obtain ⟨_, hcl, hcc⟩ := World.cells?_some hc
      obtain ⟨z, ez, _, _⟩ := DataW.trod_int Try.underlying44 ht
      subst ez
      obtain ⟨b, off, spot⟩ := a
      have h0 := hcc 0 (by omega)
      have hspot : spot = none := by
        obtain ⟨c0, hc0, ht0⟩ := hi 0 (by omega)
        obtain ⟨_, hl0, hh⟩ := World.cells?_some hc0
        obtain ⟨z0, ez0, _, _⟩ := DataW.trod_int Try.underlying44 ht0
        subst ez0
        have h1 := hh 0 (by simp)
        exact spot_add (World.cell?_spot h1)
      subst hspot
      rw [add_plain, add_plain, Nat.mul_one, Nat.add_zero] at h0
      exact ⟨z, b, off, rfl, World.block_lt_of_cell? _ _ h0, h0⟩
    obtain ⟨l, hll, hq⟩ := list_of each
    exact ⟨some a, l, cap, by rw [hll], by omega, fun k y hy => hq k y hy⟩
end
end Go.Proofs.Ytgkgpehjedmejaa.Mmr
