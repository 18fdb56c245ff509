/- Layer 13 (tview): Read. -/
import Derived.Test.YtanbkclomjbokaaTvwE
namespace Go.Proofs.Ytanbkclomjbokaa.Tvw
open Go.RowKit Go.Proofs.Ytanbkclomjbokaa.Mem Go.Proofs.Ytanbkclomjbokaa.Flow Go.Proofs.Ytanbkclomjbokaa.Vew

/-- The boxes of Read and Write: views, the place, the time, a view, the result. -/
structure ReadAt (w : World) (V : Nat → Nat → Int) (loc tt : Int) (m : Nat → Int) (r : Array Value) (W : World) : Prop where
  at5 : Sits W w.heap.size 29 (vsC V)
  at6 : Sits W (w.heap.size + 1) 3 #[.int .i64 loc]
  at7 : Sits W (w.heap.size + 2) 3 #[.int .i64 tt]
  at9 : Sits W (w.heap.size + 3) 26 (vwC m)
  at10 : Sits W (w.heap.size + 4) 29 r
  low : Below w.heap.size w W
  grow : w.heap.size + 5 ≤ W.heap.size
structure ReadBx (w : World) (V : Nat → Nat → Int) (loc tt : Int) (m : Nat → Int) (r : Array Value) (gb : Nat) (s : Bool) (W : World) : Prop where
  at' : ReadAt w V loc tt m r W
  box : Sits W gb 4 #[.bool s]
  ge : w.heap.size + 5 ≤ gb
section
variable {w W W' : World} {V : Nat → Nat → Int} {loc tt : Int} {m : Nat → Int} {r : Array Value} {gb : Nat} {s : Bool}
theorem ReadAt.grown (h : ReadAt w V loc tt m r W) (hb : Below W.heap.size W W') : ReadAt w V loc tt m r W' :=
  ⟨h.at5.below hb h.at5.lt, h.at6.below hb h.at6.lt, h.at7.below hb h.at7.lt, h.at9.below hb h.at9.lt, h.at10.below hb h.at10.lt, h.low.trans (hb.mono h.low.size), by have := h.grow; have := hb.size; omega⟩
theorem ReadAt.drew (h : ReadAt w V loc tt m r W) : ReadAt w V loc tt m r W.drew := h.grown (Below.refl _ W).drew
theorem ReadAt.setK (h : ReadAt w V loc tt m r W) (k o : Nat) (f : Nat → Int) (ho : o = 8 * k) : ReadAt w (setV V k f) loc tt m r (W.setCells w.heap.size o (vwC f).toList) :=
  ⟨vs_set h.at5 k o f ho, (setCells_other _ _ _ _ _ (by omega)).trans h.at6, (setCells_other _ _ _ _ _ (by omega)).trans h.at7, (setCells_other _ _ _ _ _ (by omega)).trans h.at9, (setCells_other _ _ _ _ _ (by omega)).trans h.at10, h.low.trans (below_cells (by omega)), by rw [setCells_size]; exact h.grow⟩
theorem ReadAt.out (h : ReadAt w V loc tt m r W) (u : Array Value) : ReadAt w V loc tt m u (W.setRow (w.heap.size + 4) u) :=
  ⟨(setRow_other _ _ _ _ (by omega)).trans h.at5, (setRow_other _ _ _ _ (by omega)).trans h.at6, (setRow_other _ _ _ _ (by omega)).trans h.at7, (setRow_other _ _ _ _ (by omega)).trans h.at9, setRow_heap _ _ _ _ _ _ h.at10, h.low.trans (below_row (by omega)), by simpa [World.setRow] using h.grow⟩
theorem ReadAt.far (h : ReadAt w V loc tt m r W) (a : Addr) (ha : w.heap.size + 5 ≤ a.block) (u : Value) : ReadAt w V loc tt m r (W.setCell a u) :=
  ⟨h.at5.far (by omega) u, h.at6.far (by omega) u, h.at7.far (by omega) u, h.at9.far (by omega) u, h.at10.far (by omega) u, h.low.trans ⟨rfl, rfl, rfl, by simp [World.setCell], fun b hb => Below.heap_setCell _ _ _ _ (by omega)⟩, by simpa [World.setCell] using h.grow⟩
theorem ReadBx.grown (h : ReadBx w V loc tt m r gb s W) (hb : Below W.heap.size W W') : ReadBx w V loc tt m r gb s W' := ⟨h.at'.grown hb, h.box.below hb h.box.lt, h.ge⟩
theorem ReadBx.setK (h : ReadBx w V loc tt m r gb s W) (k o : Nat) (f : Nat → Int) (ho : o = 8 * k) : ReadBx w (setV V k f) loc tt m r gb s (W.setCells w.heap.size o (vwC f).toList) :=
  ⟨h.at'.setK k o f ho, (setCells_other _ _ _ _ _ (by have := h.ge; omega)).trans h.box, h.ge⟩
theorem ReadBx.say (h : ReadBx w V loc tt m r gb s W) (b : Bool) : ReadBx w V loc tt m r gb b (W.setCell ⟨gb, 0, none⟩ (.bool b)) := ⟨h.at'.far _ h.ge _, h.box.put 0 _, h.ge⟩
theorem ReadAt.boxed (h : ReadAt w V loc tt m r W) (b : Bool) : ReadBx w V loc tt m r W.heap.size b (W.alloc (.cells #[.bool b] 4)) := ⟨h.grown ((Below.refl _ W).alloc (Nat.le_refl _) _), Sits.new _ _ _, h.grow⟩
theorem ReadAt.cur (h : ReadAt w V loc tt m r W) (k : Nat) (hk : k < 8) : W.cell? ⟨w.heap.size, k, none⟩ = some (.int .i64 (V 0 k)) := by
  rw [h.at5.cell]; exact vsC_at V 0 k k (by omega) hk (by omega)
theorem readAt_new (w : World) (V : Nat → Nat → Int) (loc tt : Int) (m : Nat → Int) : ReadAt w V loc tt m zero48 (((((w.alloc (.cells (vsC V) 29)).alloc (.cells #[.int .i64 loc] 3)).alloc (.cells #[.int .i64 tt] 3)).alloc (.cells (vwC m) 26)).alloc (.cells zero48 29)) :=
  ⟨((((Sits.new _ _ _).alloc _).alloc _).alloc _).alloc _, (((Sits.made (by simp) _ _).alloc _).alloc _).alloc _, ((Sits.made (by simp) _ _).alloc _).alloc _, (Sits.made (by simp) _ _).alloc _, Sits.made (by simp) _ _,
    below_more (below_more (below3 _ _ _ _) (by simp; omega) _) (by simp; omega) _, by simp⟩
end
theorem result_sb {fn : Func} {p q : Tmp} (h : fn.results = #[.cell p 29, .tmp q]) {T : Array Value} {W : World} {g : Nat} {V : Nat → Nat → Int} {b : Bool} (hp : T.getD p undef = .pointer (some ⟨g, 0, none⟩)) (hq : T.getD q undef = .bool b) (hs : Sits W g 29 (vsC V)) :
    (results fn T).run Try.prog W = .ok (.tuple #[.agg (vsC V), .bool b]) W := by
  have hl := run_loadVar_row (P := Try.prog) W g 29 29 (vsC V) (0, 0) _ hs Try.underlying29 rfl (by rw [vsC_size]; exact vsSize)
  have hp' : T[p]?.getD undef = .pointer (some ⟨g, 0, none⟩) := by simpa using hp
  have hq' : T[q]?.getD undef = .bool b := by simpa using hq
  simp [results, h, hp', hq', asAddr, hl]
/-- From when a message may be read, and what is known behind it. -/
def readF (V : Nat → Nat → Int) (loc tt : Int) (s a : Bool) (m : Nat → Int) : Nat → Nat → Int := setV (setV V 0 (learnF (V 0) m a s loc tt)) 1 (learnF (V 1) m s s loc tt)
def readOk (V : Nat → Nat → Int) (loc tt mo : Int) : Bool := lowT loc tt && (decide (mo = 1) && decide (V 0 loc.toNat ≤ tt) || (decide (mo = 2) || decide (mo = 3)) && decide (V 0 (loc.toNat + 4) ≤ tt))
def readV (V : Nat → Nat → Int) (loc tt mo : Int) (m : Nat → Int) : Nat → Nat → Int := if readOk V loc tt mo then readF V loc tt (!decide (mo = 1)) (decide (mo = 3)) m else V
set_option maxRecDepth 100000 in
set_option maxHeartbeats 4000000 in
theorem read_any (V : Nat → Nat → Int) (loc tt mo : Int) (m : Nat → Int) (w : World) :
    Calls Try.prog 11 #[.agg (vsC V), .int .i64 loc, .int .i64 tt, .int .u8 mo, .agg (vwC m)] w (Made (.returned (.tuple #[.agg (vsC (readV V loc tt mo m)), .bool (readOk V loc tt mo)])) w) := by
  have HB := Lib.hid (readAt_new w V loc tt m)
  have en := learn_enters
  unfold EntersV at en
  by_cases hlow : lowT loc tt = true
  rotate_left
  ·
    have hk : readOk V loc tt mo = false := by unfold readOk; simp [hlow]
    have hv : readV V loc tt mo m = V := by unfold readV; rw [hk]; rfl
    have hf : lowT loc tt = false := by simpa using hlow
    have hk := Lib.hid hk
    have hv := Lib.hid hv
    clear hlow
    go_enter Try.func11, Try.ntmps11
    go_upto_region 1 with (fail)
    generalize ((((w.alloc (.cells (vsC V) 29)).alloc (.cells #[.int .i64 loc] 3)).alloc (.cells #[.int .i64 tt] 3)).alloc (.cells (vwC m) 26)).alloc (.cells zero48 29) = w0 at HB ⊢
    have c6 := HB.out.at6.cell 0
    have c7 : w0.cell? ⟨w.heap.size + 1 + 1, 0, none⟩ = some (.int .i64 tt) := HB.out.at7.cell 0
    go_upto_if 18 with (go_at_call 27; refine (may2_any _ _ _).mono ?_; rintro e' w' ⟨rfl, h⟩; rw [h]; clear h w')
    have s5 := (HB.out).at5
    go_wp2_with (first | refine wpList_load_row rfl 29 _ rfl _ rfl _ (vsC (V)) (0, 0) _ s5 Try.underlying29 rfl (by rw [vsC_size]; exact vsSize) ?_ | refine wpList_store_row rfl 29 _ _ rfl (w.heap.size + 4) (vsC (V)) rfl rfl 29 zero48 (HB.out).at10 (by rw [vsC_size]; exact vsSize) (zero48_size.trans (vsC_size _).symm) (vsC_one _) ?_)
    clear s5
    have HE := Lib.hid ((HB.out).out (vsC (V)))
    generalize w0.setRow (w.heap.size + 4) (vsC (V)) = WE at HE ⊢
    go_wp2_with fail
    exact bodyPost_ret (v := .tuple #[.agg (vsC (V)), .bool false]) (result_sb Try.results11 rfl rfl HE.out.at10) rfl ⟨by rw [hv.out, hk.out], HE.out.low⟩
  have hlo := hlow
  simp only [lowT, Bool.and_eq_true, decide_eq_true_eq] at hlo
  obtain ⟨⟨hl0, hl4⟩, ht0⟩ := hlo
  obtain ⟨l, rfl⟩ : ∃ l : Nat, loc = (l : Int) := ⟨loc.toNat, by omega⟩
  have hl : l < 4 := by omega
  have HL := Lib.hid hl
  have HT := Lib.hid hlow
  clear hl0 ht0
  by_cases h1 : mo = 1
  ·
    subst h1
    have HO : Hid (readOk V l tt 1 = decide (V 0 l ≤ tt)) := Lib.hid (by unfold readOk; rw [HT.out]; simp)
    have e0 := HT.out
    go_enter Try.func11, Try.ntmps11
    go_upto_region 1 with (fail)
    generalize ((((w.alloc (.cells (vsC V) 29)).alloc (.cells #[.int .i64 (l : Int)] 3)).alloc (.cells #[.int .i64 tt] 3)).alloc (.cells (vwC m) 26)).alloc (.cells zero48 29) = w0 at HB ⊢
    have c6 := HB.out.at6.cell 0
    have c7 : w0.cell? ⟨w.heap.size + 1 + 1, 0, none⟩ = some (.int .i64 tt) := HB.out.at7.cell 0
    go_upto_if 18 with (go_at_call 27; refine (may2_any _ _ _).mono ?_; rintro e' w' ⟨rfl, h⟩; rw [h]; clear h w')
    have d0 : w0.cell? ⟨w.heap.size, 4 + l, none⟩ = some (.int .i64 (V 0 (l + 4))) := by rw [Nat.add_comm 4 l]; exact HB.out.cur (l + 4) (by have := HL.out; omega)
    have d1 : w0.cell? ⟨w.heap.size, l, none⟩ = some (.int .i64 (V 0 l)) := HB.out.cur l (by have := HL.out; omega)
    have a6true : (w0.alloc (.cells #[.bool true] 4)).cell? ⟨w.heap.size + 1, 0, none⟩ = some (.int .i64 (l : Int)) := (HB.out.at6.alloc _).cell 0
    have a0true : (w0.alloc (.cells #[.bool true] 4)).cell? ⟨w.heap.size, 4 + l, none⟩ = some (.int .i64 (V 0 (l + 4))) := by rw [Nat.add_comm 4 l]; exact (HB.out.boxed true).at'.cur (l + 4) (by have := HL.out; omega)
    have a6false : (w0.alloc (.cells #[.bool false] 4)).cell? ⟨w.heap.size + 1, 0, none⟩ = some (.int .i64 (l : Int)) := (HB.out.at6.alloc _).cell 0
    have a0false : (w0.alloc (.cells #[.bool false] 4)).cell? ⟨w.heap.size, 4 + l, none⟩ = some (.int .i64 (V 0 (l + 4))) := by rw [Nat.add_comm 4 l]; exact (HB.out.boxed false).at'.cur (l + 4) (by have := HL.out; omega)
    have i0 : (0 : Int) ≤ (l : Int) := by omega
    have i4 : (l : Int) < 4 := by have := HL.out; omega
    go_upto_region 3 with (fail)
    go_region
    have HX : Hid (ReadBx w V l tt m zero48 w0.heap.size true (w0.alloc (.cells #[.bool true] 4)).drew) := Lib.hid ((HB.out.boxed true).grown (Below.refl _ _).drew)
    generalize (w0.alloc (.cells #[.bool true] 4)).drew = W1 at HX ⊢
    generalize w0.heap.size = gb at HX ⊢
    clear c6 c7 d0 d1 a6true a0true a6false a0false HB
    have c6 := HX.out.at'.at6.cell 0
    have d1 : W1.cell? ⟨w.heap.size, l, none⟩ = some (.int .i64 (V 0 l)) := HX.out.at'.cur l (by have := HL.out; omega)
    have b0 := HX.out.box.cell 0
    have b1 := HX.out.box.free 0
    have s6 := (HX.out.say false).at'.at6.cell 0
    have s1 : (W1.setCell ⟨gb, 0, none⟩ (.bool false)).cell? ⟨w.heap.size, l, none⟩ = some (.int .i64 (V 0 l)) := (HX.out.say false).at'.cur l (by have := HL.out; omega)
    go_upto_region 7 with (fail)
    go_region
    have HX2 : Hid (ReadBx w V l tt m zero48 gb false (W1.setCell ⟨gb, 0, none⟩ (.bool false)).drew) := Lib.hid ((HX.out.say false).grown (Below.refl _ _).drew)
    generalize (W1.setCell ⟨gb, 0, none⟩ (.bool false)).drew = W2 at HX2 ⊢
    clear c6 d1 b0 b1 s6 s1 HX
    have c7 : W2.cell? ⟨w.heap.size + 1 + 1, 0, none⟩ = some (.int .i64 tt) := HX2.out.at'.at7.cell 0
    by_cases hfr : V 0 l ≤ tt
    rotate_left
    · have k0 : tt < V 0 l := by omega
      have HO2 : Hid (readOk V l tt 1 = false) := Lib.hid (by rw [HO.out]; simp [hfr])
      have HV : Hid (readV V l tt 1 m = V) := Lib.hid (by unfold readV; rw [HO2.out]; rfl)
      clear hfr
      go_upto_region 11 with (fail)
      have s5 := (HX2.out.at').at5
      go_wp2_with (first | refine wpList_load_row rfl 29 _ rfl _ rfl _ (vsC (V)) (0, 0) _ s5 Try.underlying29 rfl (by rw [vsC_size]; exact vsSize) ?_ | refine wpList_store_row rfl 29 _ _ rfl (w.heap.size + 4) (vsC (V)) rfl rfl 29 zero48 (HX2.out.at').at10 (by rw [vsC_size]; exact vsSize) (zero48_size.trans (vsC_size _).symm) (vsC_one _) ?_)
      clear s5
      have HE := Lib.hid ((HX2.out.at').out (vsC (V)))
      generalize W2.setRow (w.heap.size + 4) (vsC (V)) = WE at HE ⊢
      go_wp2_with fail
      exact bodyPost_ret (v := .tuple #[.agg (vsC (V)), .bool false]) (result_sb Try.results11 rfl rfl HE.out.at10) rfl ⟨by rw [HV.out, HO2.out], HE.out.low⟩
    have k0 : ¬ tt < V 0 l := by omega
    have HO2 : Hid (readOk V l tt 1 = true) := Lib.hid (by rw [HO.out]; simp [hfr])
    have HV : Hid (readV V l tt 1 m = readF V l tt false false m) := Lib.hid (by unfold readV; rw [HO2.out]; simp)
    clear hfr
    go_upto_region 13 with (fail)
    clear c7
    refine wp_flowS1 [some 42, some 43, some 44, some 45, some 46, some 47, some 48, none] [7] [0, 0, 0, 0, 0, 0, 0, 0] [eqV (.func (.func 31) #[] #[.pointer (some ⟨w.heap.size + 1, 0, none⟩), .pointer (some ⟨w.heap.size + 1 + 1, 0, none⟩), .pointer (some ⟨gb, 0, none⟩), .pointer (some ⟨w.heap.size + 1 + 1 + 1, 0, none⟩)]), eqV (.pointer (some ⟨w.heap.size, 0, none⟩)), eqV (.agg (vwC (V 0))), eqV (.int .u8 1), eqV (.bool false), eqV (.agg (vwC (learnF (V 0) m false false l tt))), eqV (.pointer (some ⟨w.heap.size, 0, none⟩)), fun _ _ => True] (fun j W => match j with | 0 => ReadBx w (V) l tt m zero48 gb false W | _ => ReadBx w (setV V 0 (learnF (V 0) m false false l tt)) l tt m zero48 gb false W) (by kernel_rfl) (by kernel_rfl) (by kernel_rfl) (by rfl)
      (by simp only [List.mem_cons, List.not_mem_nil, or_false, forall_eq_or_imp, forall_eq]; refine ⟨?_, ?_, ?_, ?_, ?_, ?_, ?_, ?_⟩ <;> (first | exact eqV_monoB _ _ | exact rowB_mono _ _ _ _ | exact true_monoB _))
      (fun j W W' h hb => by rcases j with _ | j <;> first | exact (ReadBx.grown h hb)) (HX2.out) ?_ ?_ ?_
    · intro i o hi ho hc j A W hj hz hMj hk he
      simp only [List.length_cons, List.length_nil, Nat.zero_add, Nat.reduceAdd] at hi
      obtain rfl | rfl | rfl | rfl | rfl | rfl | rfl | rfl : i = 0 ∨ i = 1 ∨ i = 2 ∨ i = 3 ∨ i = 4 ∨ i = 5 ∨ i = 6 ∨ i = 7 := by omega
      · injection ho with ho; subst ho
        refine .inl ⟨wanted_free rfl, ?_⟩
        have h14 : A.tmps[14]?.getD undef = .func (.func 31) #[] #[.pointer (some ⟨w.heap.size + 1, 0, none⟩), .pointer (some ⟨w.heap.size + 1 + 1, 0, none⟩), .pointer (some ⟨gb, 0, none⟩), .pointer (some ⟨w.heap.size + 1 + 1 + 1, 0, none⟩)] := hk 14 (by rfl)
        go_simp
        exact ⟨rfl, Below.refl _ _⟩
      · injection ho with ho; subst ho
        refine .inl ⟨wanted_free rfl, ?_⟩
        have h5 : A.tmps[5]?.getD undef = .pointer (some ⟨w.heap.size, 0, none⟩) := hk 5 (by rfl)
        go_simp
        exact ⟨rfl, Below.refl _ _⟩
      · obtain rfl : j = 0 := hj
        have hMs : ReadBx w (V) l tt m zero48 gb false W := hMj
        injection ho with ho; subst ho
        refine .inl ⟨wanted_free rfl, ?_⟩
        have h43 : A.tmps[43]?.getD undef = .pointer (some ⟨w.heap.size, 0, none⟩) := he 1 (by kernel_rfl) (by rfl)
        exact y_load (cs := vwC (V 0)) rfl h43 (vs_range (V := V) (hMs.at'.at5) (0) _ (by omega) rfl) Try.underlying26 rfl vewSize
      · injection ho with ho; subst ho
        refine .inl ⟨wanted_free rfl, ?_⟩
        have h3 : A.tmps[3]?.getD undef = .int .u8 1 := hk 3 (by rfl)
        go_simp
        exact ⟨rfl, Below.refl _ _⟩
      · injection ho with ho; subst ho
        refine .inl ⟨wanted_free rfl, ?_⟩
        have h45 : A.tmps[45]?.getD undef = .int .u8 1 := he 3 (by kernel_rfl) (by rfl)
        go_simp
        exact ⟨rfl, Below.refl _ _⟩
      · obtain rfl : j = 0 := hj
        have hMs : ReadBx w (V) l tt m zero48 gb false W := hMj
        injection ho with ho; subst ho
        refine .inl ⟨wanted_free rfl, ?_⟩
        have h44 : A.tmps[44]?.getD undef = .agg (vwC (V 0)) := he 2 (by kernel_rfl) (by rfl)
        have h46 : A.tmps[46]?.getD undef = .bool false := he 4 (by kernel_rfl) (by rfl)
        have h42 : A.tmps[42]?.getD undef = .func (.func 31) #[] #[.pointer (some ⟨w.heap.size + 1, 0, none⟩), .pointer (some ⟨w.heap.size + 1 + 1, 0, none⟩), .pointer (some ⟨gb, 0, none⟩), .pointer (some ⟨w.heap.size + 1 + 1 + 1, 0, none⟩)] := he 0 (by kernel_rfl) (by rfl)
        go_simp
        refine Calls.mono (learn_any (V 0) m false false l tt _ _ _ _ W ⟨hMs.at'.at6, hMs.at'.at7, hMs.box, hMs.at'.at9⟩) ?_
        rintro e' w' ⟨rfl, hb⟩
        exact ⟨_, rfl, rfl, hb⟩
      · injection ho with ho; subst ho
        refine .inl ⟨wanted_free rfl, ?_⟩
        have h5 : A.tmps[5]?.getD undef = .pointer (some ⟨w.heap.size, 0, none⟩) := hk 5 (by rfl)
        go_simp
        exact ⟨rfl, Below.refl _ _⟩
      · exact absurd hc (by decide)
    · intro j i o hji ho A W hz hMj hk he
      rcases j with _ | j
      · obtain rfl : 7 = i := Option.some.inj hji
        injection ho with ho; subst ho
        refine .inl ⟨wanted_free rfl, ?_⟩
        have hMs : ReadBx w (V) l tt m zero48 gb false W := hMj
        have h48 : A.tmps[48]?.getD undef = .pointer (some ⟨w.heap.size, 0, none⟩) := he 6 (by kernel_rfl) (by rfl)
        have h47 : A.tmps[47]?.getD undef = .agg (vwC (learnF (V 0) m false false l tt)) := he 5 (by kernel_rfl) (by rfl)
        exact y_storeK rfl h48 h47 hMs.at'.at5 (k := 0) (by omega) rfl vewSize (by have := HX2.out.at'.grow; omega) (fun _ _ => trivial) (hMs.setK 0 _ _ rfl)
      · simp at hji
    · intro xs W hz hMe hV
      have hMe : ReadBx w (setV V 0 (learnF (V 0) m false false l tt)) l tt m zero48 gb false W := hMe
      simp only [putM, Act.put, List.setIfInBounds_toArray, List.set_cons_zero, List.set_cons_succ, Nat.zero_add, Nat.reduceAdd]
      clear hV
      generalize W = W3 at hMe ⊢
      have HY := Lib.hid hMe
      clear hMe hz HX2
      go_upto_region 14 with (fail)
      refine wp_flowS1 [some 49, some 50, some 51, some 52, some 53, some 54, none] [6] [0, 0, 0, 0, 0, 0, 0] [eqV (.func (.func 31) #[] #[.pointer (some ⟨w.heap.size + 1, 0, none⟩), .pointer (some ⟨w.heap.size + 1 + 1, 0, none⟩), .pointer (some ⟨gb, 0, none⟩), .pointer (some ⟨w.heap.size + 1 + 1 + 1, 0, none⟩)]), eqV (.pointer (some ⟨w.heap.size, 8, none⟩)), eqV (.agg (vwC ((setV V 0 (learnF (V 0) m false false l tt)) 1))), eqV (.bool false), eqV (.agg (vwC (learnF (V 1) m false false l tt))), eqV (.pointer (some ⟨w.heap.size, 8, none⟩)), fun _ _ => True] (fun j W => match j with | 0 => ReadBx w (setV V 0 (learnF (V 0) m false false l tt)) l tt m zero48 gb false W | _ => ReadBx w (readF V l tt false false m) l tt m zero48 gb false W) (by kernel_rfl) (by kernel_rfl) (by kernel_rfl) (by rfl)
        (by simp only [List.mem_cons, List.not_mem_nil, or_false, forall_eq_or_imp, forall_eq]; refine ⟨?_, ?_, ?_, ?_, ?_, ?_, ?_⟩ <;> (first | exact eqV_monoB _ _ | exact rowB_mono _ _ _ _ | exact true_monoB _))
        (fun j W W' h hb => by rcases j with _ | j <;> first | exact (ReadBx.grown h hb)) (HY.out) ?_ ?_ ?_
      · intro i o hi ho hc j A W hj hz hMj hk he
        simp only [List.length_cons, List.length_nil, Nat.zero_add, Nat.reduceAdd] at hi
        obtain rfl | rfl | rfl | rfl | rfl | rfl | rfl : i = 0 ∨ i = 1 ∨ i = 2 ∨ i = 3 ∨ i = 4 ∨ i = 5 ∨ i = 6 := by omega
        · injection ho with ho; subst ho
          refine .inl ⟨wanted_free rfl, ?_⟩
          have h14 : A.tmps[14]?.getD undef = .func (.func 31) #[] #[.pointer (some ⟨w.heap.size + 1, 0, none⟩), .pointer (some ⟨w.heap.size + 1 + 1, 0, none⟩), .pointer (some ⟨gb, 0, none⟩), .pointer (some ⟨w.heap.size + 1 + 1 + 1, 0, none⟩)] := hk 14 (by rfl)
          go_simp
          exact ⟨rfl, Below.refl _ _⟩
        · injection ho with ho; subst ho
          refine .inl ⟨wanted_free rfl, ?_⟩
          have h5 : A.tmps[5]?.getD undef = .pointer (some ⟨w.heap.size, 0, none⟩) := hk 5 (by rfl)
          go_simp
          exact ⟨rfl, Below.refl _ _⟩
        · obtain rfl : j = 0 := hj
          have hMs : ReadBx w (setV V 0 (learnF (V 0) m false false l tt)) l tt m zero48 gb false W := hMj
          injection ho with ho; subst ho
          refine .inl ⟨wanted_free rfl, ?_⟩
          have h50 : A.tmps[50]?.getD undef = .pointer (some ⟨w.heap.size, 8, none⟩) := he 1 (by kernel_rfl) (by rfl)
          exact y_load (cs := vwC ((setV V 0 (learnF (V 0) m false false l tt)) 1)) rfl h50 (vs_range (V := setV V 0 (learnF (V 0) m false false l tt)) (hMs.at'.at5) (1) _ (by omega) rfl) Try.underlying26 rfl vewSize
        · obtain rfl : j = 0 := hj
          have hMs : ReadBx w (setV V 0 (learnF (V 0) m false false l tt)) l tt m zero48 gb false W := hMj
          injection ho with ho; subst ho
          refine .inl ⟨wanted_free rfl, ?_⟩
          have h12 : A.tmps[12]?.getD undef = .pointer (some ⟨gb, 0, none⟩) := hk 12 (by rfl)
          have c0 := (hMs.box).cell 0
          go_simp
          exact ⟨rfl, Below.refl _ _⟩
        · obtain rfl : j = 0 := hj
          have hMs : ReadBx w (setV V 0 (learnF (V 0) m false false l tt)) l tt m zero48 gb false W := hMj
          injection ho with ho; subst ho
          refine .inl ⟨wanted_free rfl, ?_⟩
          have h51 : A.tmps[51]?.getD undef = .agg (vwC ((setV V 0 (learnF (V 0) m false false l tt)) 1)) := he 2 (by kernel_rfl) (by rfl)
          have h52 : A.tmps[52]?.getD undef = .bool false := he 3 (by kernel_rfl) (by rfl)
          have h49 : A.tmps[49]?.getD undef = .func (.func 31) #[] #[.pointer (some ⟨w.heap.size + 1, 0, none⟩), .pointer (some ⟨w.heap.size + 1 + 1, 0, none⟩), .pointer (some ⟨gb, 0, none⟩), .pointer (some ⟨w.heap.size + 1 + 1 + 1, 0, none⟩)] := he 0 (by kernel_rfl) (by rfl)
          go_simp
          refine Calls.mono (learn_any (V 1) m false false l tt _ _ _ _ W ⟨hMs.at'.at6, hMs.at'.at7, hMs.box, hMs.at'.at9⟩) ?_
          rintro e' w' ⟨rfl, hb⟩
          exact ⟨_, rfl, rfl, hb⟩
        · injection ho with ho; subst ho
          refine .inl ⟨wanted_free rfl, ?_⟩
          have h5 : A.tmps[5]?.getD undef = .pointer (some ⟨w.heap.size, 0, none⟩) := hk 5 (by rfl)
          go_simp
          exact ⟨rfl, Below.refl _ _⟩
        · exact absurd hc (by decide)
      · intro j i o hji ho A W hz hMj hk he
        rcases j with _ | j
        · obtain rfl : 6 = i := Option.some.inj hji
          injection ho with ho; subst ho
          refine .inl ⟨wanted_free rfl, ?_⟩
          have hMs : ReadBx w (setV V 0 (learnF (V 0) m false false l tt)) l tt m zero48 gb false W := hMj
          have h54 : A.tmps[54]?.getD undef = .pointer (some ⟨w.heap.size, 8, none⟩) := he 5 (by kernel_rfl) (by rfl)
          have h53 : A.tmps[53]?.getD undef = .agg (vwC (learnF (V 1) m false false l tt)) := he 4 (by kernel_rfl) (by rfl)
          exact y_storeK rfl h54 h53 hMs.at'.at5 (k := 1) (by omega) rfl vewSize (by have := HY.out.at'.grow; omega) (fun _ _ => trivial) (hMs.setK 1 _ _ rfl)
        · simp at hji
      · intro xs W hz hMe hV
        have hMe : ReadBx w (readF V l tt false false m) l tt m zero48 gb false W := hMe
        simp only [putM, Act.put, List.setIfInBounds_toArray, List.set_cons_zero, List.set_cons_succ, Nat.zero_add, Nat.reduceAdd]
        clear hV
        generalize W = W4 at hMe ⊢
        have HZ := Lib.hid hMe
        clear hMe hz HY
        go_upto_region 15 with (fail)
        have s5 := (HZ.out.at').at5
        go_wp2_with (first | refine wpList_load_row rfl 29 _ rfl _ rfl _ (vsC (readF V l tt false false m)) (0, 0) _ s5 Try.underlying29 rfl (by rw [vsC_size]; exact vsSize) ?_ | refine wpList_store_row rfl 29 _ _ rfl (w.heap.size + 4) (vsC (readF V l tt false false m)) rfl rfl 29 zero48 (HZ.out.at').at10 (by rw [vsC_size]; exact vsSize) (zero48_size.trans (vsC_size _).symm) (vsC_one _) ?_)
        clear s5
        have HE := Lib.hid ((HZ.out.at').out (vsC (readF V l tt false false m)))
        generalize W4.setRow (w.heap.size + 4) (vsC (readF V l tt false false m)) = WE at HE ⊢
        go_wp2_with fail
        exact bodyPost_ret (v := .tuple #[.agg (vsC (readF V l tt false false m)), .bool true]) (result_sb Try.results11 rfl rfl HE.out.at10) rfl ⟨by rw [HV.out, HO2.out], HE.out.low⟩
  by_cases h2 : mo = 2
  ·
    subst h2
    have HO : Hid (readOk V l tt 2 = decide (V 0 (l + 4) ≤ tt)) := Lib.hid (by unfold readOk; rw [HT.out]; simp)
    clear h1
    have e0 := HT.out
    go_enter Try.func11, Try.ntmps11
    go_upto_region 1 with (fail)
    generalize ((((w.alloc (.cells (vsC V) 29)).alloc (.cells #[.int .i64 (l : Int)] 3)).alloc (.cells #[.int .i64 tt] 3)).alloc (.cells (vwC m) 26)).alloc (.cells zero48 29) = w0 at HB ⊢
    have c6 := HB.out.at6.cell 0
    have c7 : w0.cell? ⟨w.heap.size + 1 + 1, 0, none⟩ = some (.int .i64 tt) := HB.out.at7.cell 0
    go_upto_if 18 with (go_at_call 27; refine (may2_any _ _ _).mono ?_; rintro e' w' ⟨rfl, h⟩; rw [h]; clear h w')
    have d0 : w0.cell? ⟨w.heap.size, 4 + l, none⟩ = some (.int .i64 (V 0 (l + 4))) := by rw [Nat.add_comm 4 l]; exact HB.out.cur (l + 4) (by have := HL.out; omega)
    have d1 : w0.cell? ⟨w.heap.size, l, none⟩ = some (.int .i64 (V 0 l)) := HB.out.cur l (by have := HL.out; omega)
    have a6true : (w0.alloc (.cells #[.bool true] 4)).cell? ⟨w.heap.size + 1, 0, none⟩ = some (.int .i64 (l : Int)) := (HB.out.at6.alloc _).cell 0
    have a0true : (w0.alloc (.cells #[.bool true] 4)).cell? ⟨w.heap.size, 4 + l, none⟩ = some (.int .i64 (V 0 (l + 4))) := by rw [Nat.add_comm 4 l]; exact (HB.out.boxed true).at'.cur (l + 4) (by have := HL.out; omega)
    have a6false : (w0.alloc (.cells #[.bool false] 4)).cell? ⟨w.heap.size + 1, 0, none⟩ = some (.int .i64 (l : Int)) := (HB.out.at6.alloc _).cell 0
    have a0false : (w0.alloc (.cells #[.bool false] 4)).cell? ⟨w.heap.size, 4 + l, none⟩ = some (.int .i64 (V 0 (l + 4))) := by rw [Nat.add_comm 4 l]; exact (HB.out.boxed false).at'.cur (l + 4) (by have := HL.out; omega)
    have i0 : (0 : Int) ≤ (l : Int) := by omega
    have i4 : (l : Int) < 4 := by have := HL.out; omega
    go_upto_region 3 with (fail)
    go_region
    have HX : Hid (ReadBx w V l tt m zero48 w0.heap.size true (w0.alloc (.cells #[.bool true] 4)).drew) := Lib.hid ((HB.out.boxed true).grown (Below.refl _ _).drew)
    generalize (w0.alloc (.cells #[.bool true] 4)).drew = W1 at HX ⊢
    generalize w0.heap.size = gb at HX ⊢
    clear c6 c7 d0 d1 a6true a0true a6false a0false HB
    have c7 : W1.cell? ⟨w.heap.size + 1 + 1, 0, none⟩ = some (.int .i64 tt) := HX.out.at'.at7.cell 0
    by_cases hfr : V 0 (l + 4) ≤ tt
    rotate_left
    · have k0 : tt < V 0 (l + 4) := by omega
      have HO2 : Hid (readOk V l tt 2 = false) := Lib.hid (by rw [HO.out]; simp [hfr])
      have HV : Hid (readV V l tt 2 m = V) := Lib.hid (by unfold readV; rw [HO2.out]; rfl)
      clear hfr
      go_upto_region 11 with (fail)
      have s5 := (HX.out.at').at5
      go_wp2_with (first | refine wpList_load_row rfl 29 _ rfl _ rfl _ (vsC (V)) (0, 0) _ s5 Try.underlying29 rfl (by rw [vsC_size]; exact vsSize) ?_ | refine wpList_store_row rfl 29 _ _ rfl (w.heap.size + 4) (vsC (V)) rfl rfl 29 zero48 (HX.out.at').at10 (by rw [vsC_size]; exact vsSize) (zero48_size.trans (vsC_size _).symm) (vsC_one _) ?_)
      clear s5
      have HE := Lib.hid ((HX.out.at').out (vsC (V)))
      generalize W1.setRow (w.heap.size + 4) (vsC (V)) = WE at HE ⊢
      go_wp2_with fail
      exact bodyPost_ret (v := .tuple #[.agg (vsC (V)), .bool false]) (result_sb Try.results11 rfl rfl HE.out.at10) rfl ⟨by rw [HV.out, HO2.out], HE.out.low⟩
    have k0 : ¬ tt < V 0 (l + 4) := by omega
    have HO2 : Hid (readOk V l tt 2 = true) := Lib.hid (by rw [HO.out]; simp [hfr])
    have HV : Hid (readV V l tt 2 m = readF V l tt true false m) := Lib.hid (by unfold readV; rw [HO2.out]; simp)
    clear hfr
    go_upto_region 13 with (fail)
    clear c7
    refine wp_flowS1 [some 42, some 43, some 44, some 45, some 46, some 47, some 48, none] [7] [0, 0, 0, 0, 0, 0, 0, 0] [eqV (.func (.func 31) #[] #[.pointer (some ⟨w.heap.size + 1, 0, none⟩), .pointer (some ⟨w.heap.size + 1 + 1, 0, none⟩), .pointer (some ⟨gb, 0, none⟩), .pointer (some ⟨w.heap.size + 1 + 1 + 1, 0, none⟩)]), eqV (.pointer (some ⟨w.heap.size, 0, none⟩)), eqV (.agg (vwC (V 0))), eqV (.int .u8 2), eqV (.bool false), eqV (.agg (vwC (learnF (V 0) m false true l tt))), eqV (.pointer (some ⟨w.heap.size, 0, none⟩)), fun _ _ => True] (fun j W => match j with | 0 => ReadBx w (V) l tt m zero48 gb true W | _ => ReadBx w (setV V 0 (learnF (V 0) m false true l tt)) l tt m zero48 gb true W) (by kernel_rfl) (by kernel_rfl) (by kernel_rfl) (by rfl)
      (by simp only [List.mem_cons, List.not_mem_nil, or_false, forall_eq_or_imp, forall_eq]; refine ⟨?_, ?_, ?_, ?_, ?_, ?_, ?_, ?_⟩ <;> (first | exact eqV_monoB _ _ | exact rowB_mono _ _ _ _ | exact true_monoB _))
      (fun j W W' h hb => by rcases j with _ | j <;> first | exact (ReadBx.grown h hb)) (HX.out) ?_ ?_ ?_
    · intro i o hi ho hc j A W hj hz hMj hk he
      simp only [List.length_cons, List.length_nil, Nat.zero_add, Nat.reduceAdd] at hi
      obtain rfl | rfl | rfl | rfl | rfl | rfl | rfl | rfl : i = 0 ∨ i = 1 ∨ i = 2 ∨ i = 3 ∨ i = 4 ∨ i = 5 ∨ i = 6 ∨ i = 7 := by omega
      · injection ho with ho; subst ho
        refine .inl ⟨wanted_free rfl, ?_⟩
        have h14 : A.tmps[14]?.getD undef = .func (.func 31) #[] #[.pointer (some ⟨w.heap.size + 1, 0, none⟩), .pointer (some ⟨w.heap.size + 1 + 1, 0, none⟩), .pointer (some ⟨gb, 0, none⟩), .pointer (some ⟨w.heap.size + 1 + 1 + 1, 0, none⟩)] := hk 14 (by rfl)
        go_simp
        exact ⟨rfl, Below.refl _ _⟩
      · injection ho with ho; subst ho
        refine .inl ⟨wanted_free rfl, ?_⟩
        have h5 : A.tmps[5]?.getD undef = .pointer (some ⟨w.heap.size, 0, none⟩) := hk 5 (by rfl)
        go_simp
        exact ⟨rfl, Below.refl _ _⟩
      · obtain rfl : j = 0 := hj
        have hMs : ReadBx w (V) l tt m zero48 gb true W := hMj
        injection ho with ho; subst ho
        refine .inl ⟨wanted_free rfl, ?_⟩
        have h43 : A.tmps[43]?.getD undef = .pointer (some ⟨w.heap.size, 0, none⟩) := he 1 (by kernel_rfl) (by rfl)
        exact y_load (cs := vwC (V 0)) rfl h43 (vs_range (V := V) (hMs.at'.at5) (0) _ (by omega) rfl) Try.underlying26 rfl vewSize
      · injection ho with ho; subst ho
        refine .inl ⟨wanted_free rfl, ?_⟩
        have h3 : A.tmps[3]?.getD undef = .int .u8 2 := hk 3 (by rfl)
        go_simp
        exact ⟨rfl, Below.refl _ _⟩
      · injection ho with ho; subst ho
        refine .inl ⟨wanted_free rfl, ?_⟩
        have h45 : A.tmps[45]?.getD undef = .int .u8 2 := he 3 (by kernel_rfl) (by rfl)
        go_simp
        exact ⟨rfl, Below.refl _ _⟩
      · obtain rfl : j = 0 := hj
        have hMs : ReadBx w (V) l tt m zero48 gb true W := hMj
        injection ho with ho; subst ho
        refine .inl ⟨wanted_free rfl, ?_⟩
        have h44 : A.tmps[44]?.getD undef = .agg (vwC (V 0)) := he 2 (by kernel_rfl) (by rfl)
        have h46 : A.tmps[46]?.getD undef = .bool false := he 4 (by kernel_rfl) (by rfl)
        have h42 : A.tmps[42]?.getD undef = .func (.func 31) #[] #[.pointer (some ⟨w.heap.size + 1, 0, none⟩), .pointer (some ⟨w.heap.size + 1 + 1, 0, none⟩), .pointer (some ⟨gb, 0, none⟩), .pointer (some ⟨w.heap.size + 1 + 1 + 1, 0, none⟩)] := he 0 (by kernel_rfl) (by rfl)
        go_simp
        refine Calls.mono (learn_any (V 0) m false true l tt _ _ _ _ W ⟨hMs.at'.at6, hMs.at'.at7, hMs.box, hMs.at'.at9⟩) ?_
        rintro e' w' ⟨rfl, hb⟩
        exact ⟨_, rfl, rfl, hb⟩
      · injection ho with ho; subst ho
        refine .inl ⟨wanted_free rfl, ?_⟩
        have h5 : A.tmps[5]?.getD undef = .pointer (some ⟨w.heap.size, 0, none⟩) := hk 5 (by rfl)
        go_simp
        exact ⟨rfl, Below.refl _ _⟩
      · exact absurd hc (by decide)
    · intro j i o hji ho A W hz hMj hk he
      rcases j with _ | j
      · obtain rfl : 7 = i := Option.some.inj hji
        injection ho with ho; subst ho
        refine .inl ⟨wanted_free rfl, ?_⟩
        have hMs : ReadBx w (V) l tt m zero48 gb true W := hMj
        have h48 : A.tmps[48]?.getD undef = .pointer (some ⟨w.heap.size, 0, none⟩) := he 6 (by kernel_rfl) (by rfl)
        have h47 : A.tmps[47]?.getD undef = .agg (vwC (learnF (V 0) m false true l tt)) := he 5 (by kernel_rfl) (by rfl)
        exact y_storeK rfl h48 h47 hMs.at'.at5 (k := 0) (by omega) rfl vewSize (by have := HX.out.at'.grow; omega) (fun _ _ => trivial) (hMs.setK 0 _ _ rfl)
      · simp at hji
    · intro xs W hz hMe hV
      have hMe : ReadBx w (setV V 0 (learnF (V 0) m false true l tt)) l tt m zero48 gb true W := hMe
      simp only [putM, Act.put, List.setIfInBounds_toArray, List.set_cons_zero, List.set_cons_succ, Nat.zero_add, Nat.reduceAdd]
      clear hV
      generalize W = W3 at hMe ⊢
      have HY := Lib.hid hMe
      clear hMe hz HX
      go_upto_region 14 with (fail)
      refine wp_flowS1 [some 49, some 50, some 51, some 52, some 53, some 54, none] [6] [0, 0, 0, 0, 0, 0, 0] [eqV (.func (.func 31) #[] #[.pointer (some ⟨w.heap.size + 1, 0, none⟩), .pointer (some ⟨w.heap.size + 1 + 1, 0, none⟩), .pointer (some ⟨gb, 0, none⟩), .pointer (some ⟨w.heap.size + 1 + 1 + 1, 0, none⟩)]), eqV (.pointer (some ⟨w.heap.size, 8, none⟩)), eqV (.agg (vwC ((setV V 0 (learnF (V 0) m false true l tt)) 1))), eqV (.bool true), eqV (.agg (vwC (learnF (V 1) m true true l tt))), eqV (.pointer (some ⟨w.heap.size, 8, none⟩)), fun _ _ => True] (fun j W => match j with | 0 => ReadBx w (setV V 0 (learnF (V 0) m false true l tt)) l tt m zero48 gb true W | _ => ReadBx w (readF V l tt true false m) l tt m zero48 gb true W) (by kernel_rfl) (by kernel_rfl) (by kernel_rfl) (by rfl)
        (by simp only [List.mem_cons, List.not_mem_nil, or_false, forall_eq_or_imp, forall_eq]; refine ⟨?_, ?_, ?_, ?_, ?_, ?_, ?_⟩ <;> (first | exact eqV_monoB _ _ | exact rowB_mono _ _ _ _ | exact true_monoB _))
        (fun j W W' h hb => by rcases j with _ | j <;> first | exact (ReadBx.grown h hb)) (HY.out) ?_ ?_ ?_
      · intro i o hi ho hc j A W hj hz hMj hk he
        simp only [List.length_cons, List.length_nil, Nat.zero_add, Nat.reduceAdd] at hi
        obtain rfl | rfl | rfl | rfl | rfl | rfl | rfl : i = 0 ∨ i = 1 ∨ i = 2 ∨ i = 3 ∨ i = 4 ∨ i = 5 ∨ i = 6 := by omega
        · injection ho with ho; subst ho
          refine .inl ⟨wanted_free rfl, ?_⟩
          have h14 : A.tmps[14]?.getD undef = .func (.func 31) #[] #[.pointer (some ⟨w.heap.size + 1, 0, none⟩), .pointer (some ⟨w.heap.size + 1 + 1, 0, none⟩), .pointer (some ⟨gb, 0, none⟩), .pointer (some ⟨w.heap.size + 1 + 1 + 1, 0, none⟩)] := hk 14 (by rfl)
          go_simp
          exact ⟨rfl, Below.refl _ _⟩
        · injection ho with ho; subst ho
          refine .inl ⟨wanted_free rfl, ?_⟩
          have h5 : A.tmps[5]?.getD undef = .pointer (some ⟨w.heap.size, 0, none⟩) := hk 5 (by rfl)
          go_simp
          exact ⟨rfl, Below.refl _ _⟩
        · obtain rfl : j = 0 := hj
          have hMs : ReadBx w (setV V 0 (learnF (V 0) m false true l tt)) l tt m zero48 gb true W := hMj
          injection ho with ho; subst ho
          refine .inl ⟨wanted_free rfl, ?_⟩
          have h50 : A.tmps[50]?.getD undef = .pointer (some ⟨w.heap.size, 8, none⟩) := he 1 (by kernel_rfl) (by rfl)
          exact y_load (cs := vwC ((setV V 0 (learnF (V 0) m false true l tt)) 1)) rfl h50 (vs_range (V := setV V 0 (learnF (V 0) m false true l tt)) (hMs.at'.at5) (1) _ (by omega) rfl) Try.underlying26 rfl vewSize
        · obtain rfl : j = 0 := hj
          have hMs : ReadBx w (setV V 0 (learnF (V 0) m false true l tt)) l tt m zero48 gb true W := hMj
          injection ho with ho; subst ho
          refine .inl ⟨wanted_free rfl, ?_⟩
          have h12 : A.tmps[12]?.getD undef = .pointer (some ⟨gb, 0, none⟩) := hk 12 (by rfl)
          have c0 := (hMs.box).cell 0
          go_simp
          exact ⟨rfl, Below.refl _ _⟩
        · obtain rfl : j = 0 := hj
          have hMs : ReadBx w (setV V 0 (learnF (V 0) m false true l tt)) l tt m zero48 gb true W := hMj
          injection ho with ho; subst ho
          refine .inl ⟨wanted_free rfl, ?_⟩
          have h51 : A.tmps[51]?.getD undef = .agg (vwC ((setV V 0 (learnF (V 0) m false true l tt)) 1)) := he 2 (by kernel_rfl) (by rfl)
          have h52 : A.tmps[52]?.getD undef = .bool true := he 3 (by kernel_rfl) (by rfl)
          have h49 : A.tmps[49]?.getD undef = .func (.func 31) #[] #[.pointer (some ⟨w.heap.size + 1, 0, none⟩), .pointer (some ⟨w.heap.size + 1 + 1, 0, none⟩), .pointer (some ⟨gb, 0, none⟩), .pointer (some ⟨w.heap.size + 1 + 1 + 1, 0, none⟩)] := he 0 (by kernel_rfl) (by rfl)
          go_simp
          refine Calls.mono (learn_any (V 1) m true true l tt _ _ _ _ W ⟨hMs.at'.at6, hMs.at'.at7, hMs.box, hMs.at'.at9⟩) ?_
          rintro e' w' ⟨rfl, hb⟩
          exact ⟨_, rfl, rfl, hb⟩
        · injection ho with ho; subst ho
          refine .inl ⟨wanted_free rfl, ?_⟩
          have h5 : A.tmps[5]?.getD undef = .pointer (some ⟨w.heap.size, 0, none⟩) := hk 5 (by rfl)
          go_simp
          exact ⟨rfl, Below.refl _ _⟩
        · exact absurd hc (by decide)
      · intro j i o hji ho A W hz hMj hk he
        rcases j with _ | j
        · obtain rfl : 6 = i := Option.some.inj hji
          injection ho with ho; subst ho
          refine .inl ⟨wanted_free rfl, ?_⟩
          have hMs : ReadBx w (setV V 0 (learnF (V 0) m false true l tt)) l tt m zero48 gb true W := hMj
          have h54 : A.tmps[54]?.getD undef = .pointer (some ⟨w.heap.size, 8, none⟩) := he 5 (by kernel_rfl) (by rfl)
          have h53 : A.tmps[53]?.getD undef = .agg (vwC (learnF (V 1) m true true l tt)) := he 4 (by kernel_rfl) (by rfl)
          exact y_storeK rfl h54 h53 hMs.at'.at5 (k := 1) (by omega) rfl vewSize (by have := HY.out.at'.grow; omega) (fun _ _ => trivial) (hMs.setK 1 _ _ rfl)
        · simp at hji
      · intro xs W hz hMe hV
        have hMe : ReadBx w (readF V l tt true false m) l tt m zero48 gb true W := hMe
        simp only [putM, Act.put, List.setIfInBounds_toArray, List.set_cons_zero, List.set_cons_succ, Nat.zero_add, Nat.reduceAdd]
        clear hV
        generalize W = W4 at hMe ⊢
        have HZ := Lib.hid hMe
        clear hMe hz HY
        go_upto_region 15 with (fail)
        have s5 := (HZ.out.at').at5
        go_wp2_with (first | refine wpList_load_row rfl 29 _ rfl _ rfl _ (vsC (readF V l tt true false m)) (0, 0) _ s5 Try.underlying29 rfl (by rw [vsC_size]; exact vsSize) ?_ | refine wpList_store_row rfl 29 _ _ rfl (w.heap.size + 4) (vsC (readF V l tt true false m)) rfl rfl 29 zero48 (HZ.out.at').at10 (by rw [vsC_size]; exact vsSize) (zero48_size.trans (vsC_size _).symm) (vsC_one _) ?_)
        clear s5
        have HE := Lib.hid ((HZ.out.at').out (vsC (readF V l tt true false m)))
        generalize W4.setRow (w.heap.size + 4) (vsC (readF V l tt true false m)) = WE at HE ⊢
        go_wp2_with fail
        exact bodyPost_ret (v := .tuple #[.agg (vsC (readF V l tt true false m)), .bool true]) (result_sb Try.results11 rfl rfl HE.out.at10) rfl ⟨by rw [HV.out, HO2.out], HE.out.low⟩
  by_cases h3 : mo = 3
  ·
    subst h3
    have HO : Hid (readOk V l tt 3 = decide (V 0 (l + 4) ≤ tt)) := Lib.hid (by unfold readOk; rw [HT.out]; simp)
    clear h1 h2
    have e0 := HT.out
    go_enter Try.func11, Try.ntmps11
    go_upto_region 1 with (fail)
    generalize ((((w.alloc (.cells (vsC V) 29)).alloc (.cells #[.int .i64 (l : Int)] 3)).alloc (.cells #[.int .i64 tt] 3)).alloc (.cells (vwC m) 26)).alloc (.cells zero48 29) = w0 at HB ⊢
    have c6 := HB.out.at6.cell 0
    have c7 : w0.cell? ⟨w.heap.size + 1 + 1, 0, none⟩ = some (.int .i64 tt) := HB.out.at7.cell 0
    go_upto_if 18 with (go_at_call 27; refine (may2_any _ _ _).mono ?_; rintro e' w' ⟨rfl, h⟩; rw [h]; clear h w')
    have d0 : w0.cell? ⟨w.heap.size, 4 + l, none⟩ = some (.int .i64 (V 0 (l + 4))) := by rw [Nat.add_comm 4 l]; exact HB.out.cur (l + 4) (by have := HL.out; omega)
    have d1 : w0.cell? ⟨w.heap.size, l, none⟩ = some (.int .i64 (V 0 l)) := HB.out.cur l (by have := HL.out; omega)
    have a6true : (w0.alloc (.cells #[.bool true] 4)).cell? ⟨w.heap.size + 1, 0, none⟩ = some (.int .i64 (l : Int)) := (HB.out.at6.alloc _).cell 0
    have a0true : (w0.alloc (.cells #[.bool true] 4)).cell? ⟨w.heap.size, 4 + l, none⟩ = some (.int .i64 (V 0 (l + 4))) := by rw [Nat.add_comm 4 l]; exact (HB.out.boxed true).at'.cur (l + 4) (by have := HL.out; omega)
    have a6false : (w0.alloc (.cells #[.bool false] 4)).cell? ⟨w.heap.size + 1, 0, none⟩ = some (.int .i64 (l : Int)) := (HB.out.at6.alloc _).cell 0
    have a0false : (w0.alloc (.cells #[.bool false] 4)).cell? ⟨w.heap.size, 4 + l, none⟩ = some (.int .i64 (V 0 (l + 4))) := by rw [Nat.add_comm 4 l]; exact (HB.out.boxed false).at'.cur (l + 4) (by have := HL.out; omega)
    have i0 : (0 : Int) ≤ (l : Int) := by omega
    have i4 : (l : Int) < 4 := by have := HL.out; omega
    go_upto_region 3 with (fail)
    go_region
    have HX : Hid (ReadBx w V l tt m zero48 w0.heap.size true (w0.alloc (.cells #[.bool true] 4)).drew) := Lib.hid ((HB.out.boxed true).grown (Below.refl _ _).drew)
    generalize (w0.alloc (.cells #[.bool true] 4)).drew = W1 at HX ⊢
    generalize w0.heap.size = gb at HX ⊢
    clear c6 c7 d0 d1 a6true a0true a6false a0false HB
    have c7 : W1.cell? ⟨w.heap.size + 1 + 1, 0, none⟩ = some (.int .i64 tt) := HX.out.at'.at7.cell 0
    by_cases hfr : V 0 (l + 4) ≤ tt
    rotate_left
    · have k0 : tt < V 0 (l + 4) := by omega
      have HO2 : Hid (readOk V l tt 3 = false) := Lib.hid (by rw [HO.out]; simp [hfr])
      have HV : Hid (readV V l tt 3 m = V) := Lib.hid (by unfold readV; rw [HO2.out]; rfl)
      clear hfr
      go_upto_region 11 with (fail)
      have s5 := (HX.out.at').at5
      go_wp2_with (first | refine wpList_load_row rfl 29 _ rfl _ rfl _ (vsC (V)) (0, 0) _ s5 Try.underlying29 rfl (by rw [vsC_size]; exact vsSize) ?_ | refine wpList_store_row rfl 29 _ _ rfl (w.heap.size + 4) (vsC (V)) rfl rfl 29 zero48 (HX.out.at').at10 (by rw [vsC_size]; exact vsSize) (zero48_size.trans (vsC_size _).symm) (vsC_one _) ?_)
      clear s5
      have HE := Lib.hid ((HX.out.at').out (vsC (V)))
      generalize W1.setRow (w.heap.size + 4) (vsC (V)) = WE at HE ⊢
      go_wp2_with fail
      exact bodyPost_ret (v := .tuple #[.agg (vsC (V)), .bool false]) (result_sb Try.results11 rfl rfl HE.out.at10) rfl ⟨by rw [HV.out, HO2.out], HE.out.low⟩
    have k0 : ¬ tt < V 0 (l + 4) := by omega
    have HO2 : Hid (readOk V l tt 3 = true) := Lib.hid (by rw [HO.out]; simp [hfr])
    have HV : Hid (readV V l tt 3 m = readF V l tt true true m) := Lib.hid (by unfold readV; rw [HO2.out]; simp)
    clear hfr
    go_upto_region 13 with (fail)
    clear c7
    refine wp_flowS1 [some 42, some 43, some 44, some 45, some 46, some 47, some 48, none] [7] [0, 0, 0, 0, 0, 0, 0, 0] [eqV (.func (.func 31) #[] #[.pointer (some ⟨w.heap.size + 1, 0, none⟩), .pointer (some ⟨w.heap.size + 1 + 1, 0, none⟩), .pointer (some ⟨gb, 0, none⟩), .pointer (some ⟨w.heap.size + 1 + 1 + 1, 0, none⟩)]), eqV (.pointer (some ⟨w.heap.size, 0, none⟩)), eqV (.agg (vwC (V 0))), eqV (.int .u8 3), eqV (.bool true), eqV (.agg (vwC (learnF (V 0) m true true l tt))), eqV (.pointer (some ⟨w.heap.size, 0, none⟩)), fun _ _ => True] (fun j W => match j with | 0 => ReadBx w (V) l tt m zero48 gb true W | _ => ReadBx w (setV V 0 (learnF (V 0) m true true l tt)) l tt m zero48 gb true W) (by kernel_rfl) (by kernel_rfl) (by kernel_rfl) (by rfl)
      (by simp only [List.mem_cons, List.not_mem_nil, or_false, forall_eq_or_imp, forall_eq]; refine ⟨?_, ?_, ?_, ?_, ?_, ?_, ?_, ?_⟩ <;> (first | exact eqV_monoB _ _ | exact rowB_mono _ _ _ _ | exact true_monoB _))
      (fun j W W' h hb => by rcases j with _ | j <;> first | exact (ReadBx.grown h hb)) (HX.out) ?_ ?_ ?_
    · intro i o hi ho hc j A W hj hz hMj hk he
      simp only [List.length_cons, List.length_nil, Nat.zero_add, Nat.reduceAdd] at hi
      obtain rfl | rfl | rfl | rfl | rfl | rfl | rfl | rfl : i = 0 ∨ i = 1 ∨ i = 2 ∨ i = 3 ∨ i = 4 ∨ i = 5 ∨ i = 6 ∨ i = 7 := by omega
      · injection ho with ho; subst ho
        refine .inl ⟨wanted_free rfl, ?_⟩
        have h14 : A.tmps[14]?.getD undef = .func (.func 31) #[] #[.pointer (some ⟨w.heap.size + 1, 0, none⟩), .pointer (some ⟨w.heap.size + 1 + 1, 0, none⟩), .pointer (some ⟨gb, 0, none⟩), .pointer (some ⟨w.heap.size + 1 + 1 + 1, 0, none⟩)] := hk 14 (by rfl)
        go_simp
        exact ⟨rfl, Below.refl _ _⟩
      · injection ho with ho; subst ho
        refine .inl ⟨wanted_free rfl, ?_⟩
        have h5 : A.tmps[5]?.getD undef = .pointer (some ⟨w.heap.size, 0, none⟩) := hk 5 (by rfl)
        go_simp
        exact ⟨rfl, Below.refl _ _⟩
      · obtain rfl : j = 0 := hj
        have hMs : ReadBx w (V) l tt m zero48 gb true W := hMj
        injection ho with ho; subst ho
        refine .inl ⟨wanted_free rfl, ?_⟩
        have h43 : A.tmps[43]?.getD undef = .pointer (some ⟨w.heap.size, 0, none⟩) := he 1 (by kernel_rfl) (by rfl)
        exact y_load (cs := vwC (V 0)) rfl h43 (vs_range (V := V) (hMs.at'.at5) (0) _ (by omega) rfl) Try.underlying26 rfl vewSize
      · injection ho with ho; subst ho
        refine .inl ⟨wanted_free rfl, ?_⟩
        have h3 : A.tmps[3]?.getD undef = .int .u8 3 := hk 3 (by rfl)
        go_simp
        exact ⟨rfl, Below.refl _ _⟩
      · injection ho with ho; subst ho
        refine .inl ⟨wanted_free rfl, ?_⟩
        have h45 : A.tmps[45]?.getD undef = .int .u8 3 := he 3 (by kernel_rfl) (by rfl)
        go_simp
        exact ⟨rfl, Below.refl _ _⟩
      · obtain rfl : j = 0 := hj
        have hMs : ReadBx w (V) l tt m zero48 gb true W := hMj
        injection ho with ho; subst ho
        refine .inl ⟨wanted_free rfl, ?_⟩
        have h44 : A.tmps[44]?.getD undef = .agg (vwC (V 0)) := he 2 (by kernel_rfl) (by rfl)
        have h46 : A.tmps[46]?.getD undef = .bool true := he 4 (by kernel_rfl) (by rfl)
        have h42 : A.tmps[42]?.getD undef = .func (.func 31) #[] #[.pointer (some ⟨w.heap.size + 1, 0, none⟩), .pointer (some ⟨w.heap.size + 1 + 1, 0, none⟩), .pointer (some ⟨gb, 0, none⟩), .pointer (some ⟨w.heap.size + 1 + 1 + 1, 0, none⟩)] := he 0 (by kernel_rfl) (by rfl)
        go_simp
        refine Calls.mono (learn_any (V 0) m true true l tt _ _ _ _ W ⟨hMs.at'.at6, hMs.at'.at7, hMs.box, hMs.at'.at9⟩) ?_
        rintro e' w' ⟨rfl, hb⟩
        exact ⟨_, rfl, rfl, hb⟩
      · injection ho with ho; subst ho
        refine .inl ⟨wanted_free rfl, ?_⟩
        have h5 : A.tmps[5]?.getD undef = .pointer (some ⟨w.heap.size, 0, none⟩) := hk 5 (by rfl)
        go_simp
        exact ⟨rfl, Below.refl _ _⟩
      · exact absurd hc (by decide)
    · intro j i o hji ho A W hz hMj hk he
      rcases j with _ | j
      · obtain rfl : 7 = i := Option.some.inj hji
        injection ho with ho; subst ho
        refine .inl ⟨wanted_free rfl, ?_⟩
        have hMs : ReadBx w (V) l tt m zero48 gb true W := hMj
        have h48 : A.tmps[48]?.getD undef = .pointer (some ⟨w.heap.size, 0, none⟩) := he 6 (by kernel_rfl) (by rfl)
        have h47 : A.tmps[47]?.getD undef = .agg (vwC (learnF (V 0) m true true l tt)) := he 5 (by kernel_rfl) (by rfl)
        exact y_storeK rfl h48 h47 hMs.at'.at5 (k := 0) (by omega) rfl vewSize (by have := HX.out.at'.grow; omega) (fun _ _ => trivial) (hMs.setK 0 _ _ rfl)
      · simp at hji
    · intro xs W hz hMe hV
      have hMe : ReadBx w (setV V 0 (learnF (V 0) m true true l tt)) l tt m zero48 gb true W := hMe
      simp only [putM, Act.put, List.setIfInBounds_toArray, List.set_cons_zero, List.set_cons_succ, Nat.zero_add, Nat.reduceAdd]
      clear hV
      generalize W = W3 at hMe ⊢
      have HY := Lib.hid hMe
      clear hMe hz HX
      go_upto_region 14 with (fail)
      refine wp_flowS1 [some 49, some 50, some 51, some 52, some 53, some 54, none] [6] [0, 0, 0, 0, 0, 0, 0] [eqV (.func (.func 31) #[] #[.pointer (some ⟨w.heap.size + 1, 0, none⟩), .pointer (some ⟨w.heap.size + 1 + 1, 0, none⟩), .pointer (some ⟨gb, 0, none⟩), .pointer (some ⟨w.heap.size + 1 + 1 + 1, 0, none⟩)]), eqV (.pointer (some ⟨w.heap.size, 8, none⟩)), eqV (.agg (vwC ((setV V 0 (learnF (V 0) m true true l tt)) 1))), eqV (.bool true), eqV (.agg (vwC (learnF (V 1) m true true l tt))), eqV (.pointer (some ⟨w.heap.size, 8, none⟩)), fun _ _ => True] (fun j W => match j with | 0 => ReadBx w (setV V 0 (learnF (V 0) m true true l tt)) l tt m zero48 gb true W | _ => ReadBx w (readF V l tt true true m) l tt m zero48 gb true W) (by kernel_rfl) (by kernel_rfl) (by kernel_rfl) (by rfl)
        (by simp only [List.mem_cons, List.not_mem_nil, or_false, forall_eq_or_imp, forall_eq]; refine ⟨?_, ?_, ?_, ?_, ?_, ?_, ?_⟩ <;> (first | exact eqV_monoB _ _ | exact rowB_mono _ _ _ _ | exact true_monoB _))
        (fun j W W' h hb => by rcases j with _ | j <;> first | exact (ReadBx.grown h hb)) (HY.out) ?_ ?_ ?_
      · intro i o hi ho hc j A W hj hz hMj hk he
        simp only [List.length_cons, List.length_nil, Nat.zero_add, Nat.reduceAdd] at hi
        obtain rfl | rfl | rfl | rfl | rfl | rfl | rfl : i = 0 ∨ i = 1 ∨ i = 2 ∨ i = 3 ∨ i = 4 ∨ i = 5 ∨ i = 6 := by omega
        · injection ho with ho; subst ho
          refine .inl ⟨wanted_free rfl, ?_⟩
          have h14 : A.tmps[14]?.getD undef = .func (.func 31) #[] #[.pointer (some ⟨w.heap.size + 1, 0, none⟩), .pointer (some ⟨w.heap.size + 1 + 1, 0, none⟩), .pointer (some ⟨gb, 0, none⟩), .pointer (some ⟨w.heap.size + 1 + 1 + 1, 0, none⟩)] := hk 14 (by rfl)
          go_simp
          exact ⟨rfl, Below.refl _ _⟩
        · injection ho with ho; subst ho
          refine .inl ⟨wanted_free rfl, ?_⟩
          have h5 : A.tmps[5]?.getD undef = .pointer (some ⟨w.heap.size, 0, none⟩) := hk 5 (by rfl)
          go_simp
          exact ⟨rfl, Below.refl _ _⟩
        · obtain rfl : j = 0 := hj
          have hMs : ReadBx w (setV V 0 (learnF (V 0) m true true l tt)) l tt m zero48 gb true W := hMj
          injection ho with ho; subst ho
          refine .inl ⟨wanted_free rfl, ?_⟩
          have h50 : A.tmps[50]?.getD undef = .pointer (some ⟨w.heap.size, 8, none⟩) := he 1 (by kernel_rfl) (by rfl)
          exact y_load (cs := vwC ((setV V 0 (learnF (V 0) m true true l tt)) 1)) rfl h50 (vs_range (V := setV V 0 (learnF (V 0) m true true l tt)) (hMs.at'.at5) (1) _ (by omega) rfl) Try.underlying26 rfl vewSize
        · obtain rfl : j = 0 := hj
          have hMs : ReadBx w (setV V 0 (learnF (V 0) m true true l tt)) l tt m zero48 gb true W := hMj
          injection ho with ho; subst ho
          refine .inl ⟨wanted_free rfl, ?_⟩
          have h12 : A.tmps[12]?.getD undef = .pointer (some ⟨gb, 0, none⟩) := hk 12 (by rfl)
          have c0 := (hMs.box).cell 0
          go_simp
          exact ⟨rfl, Below.refl _ _⟩
        · obtain rfl : j = 0 := hj
          have hMs : ReadBx w (setV V 0 (learnF (V 0) m true true l tt)) l tt m zero48 gb true W := hMj
          injection ho with ho; subst ho
          refine .inl ⟨wanted_free rfl, ?_⟩
          have h51 : A.tmps[51]?.getD undef = .agg (vwC ((setV V 0 (learnF (V 0) m true true l tt)) 1)) := he 2 (by kernel_rfl) (by rfl)
          have h52 : A.tmps[52]?.getD undef = .bool true := he 3 (by kernel_rfl) (by rfl)
          have h49 : A.tmps[49]?.getD undef = .func (.func 31) #[] #[.pointer (some ⟨w.heap.size + 1, 0, none⟩), .pointer (some ⟨w.heap.size + 1 + 1, 0, none⟩), .pointer (some ⟨gb, 0, none⟩), .pointer (some ⟨w.heap.size + 1 + 1 + 1, 0, none⟩)] := he 0 (by kernel_rfl) (by rfl)
          go_simp
          refine Calls.mono (learn_any (V 1) m true true l tt _ _ _ _ W ⟨hMs.at'.at6, hMs.at'.at7, hMs.box, hMs.at'.at9⟩) ?_
          rintro e' w' ⟨rfl, hb⟩
          exact ⟨_, rfl, rfl, hb⟩
        · injection ho with ho; subst ho
          refine .inl ⟨wanted_free rfl, ?_⟩
          have h5 : A.tmps[5]?.getD undef = .pointer (some ⟨w.heap.size, 0, none⟩) := hk 5 (by rfl)
          go_simp
          exact ⟨rfl, Below.refl _ _⟩
        · exact absurd hc (by decide)
      · intro j i o hji ho A W hz hMj hk he
        rcases j with _ | j
        · obtain rfl : 6 = i := Option.some.inj hji
          injection ho with ho; subst ho
          refine .inl ⟨wanted_free rfl, ?_⟩
          have hMs : ReadBx w (setV V 0 (learnF (V 0) m true true l tt)) l tt m zero48 gb true W := hMj
          have h54 : A.tmps[54]?.getD undef = .pointer (some ⟨w.heap.size, 8, none⟩) := he 5 (by kernel_rfl) (by rfl)
          have h53 : A.tmps[53]?.getD undef = .agg (vwC (learnF (V 1) m true true l tt)) := he 4 (by kernel_rfl) (by rfl)
          exact y_storeK rfl h54 h53 hMs.at'.at5 (k := 1) (by omega) rfl vewSize (by have := HY.out.at'.grow; omega) (fun _ _ => trivial) (hMs.setK 1 _ _ rfl)
        · simp at hji
      · intro xs W hz hMe hV
        have hMe : ReadBx w (readF V l tt true true m) l tt m zero48 gb true W := hMe
        simp only [putM, Act.put, List.setIfInBounds_toArray, List.set_cons_zero, List.set_cons_succ, Nat.zero_add, Nat.reduceAdd]
        clear hV
        generalize W = W4 at hMe ⊢
        have HZ := Lib.hid hMe
        clear hMe hz HY
        go_upto_region 15 with (fail)
        have s5 := (HZ.out.at').at5
        go_wp2_with (first | refine wpList_load_row rfl 29 _ rfl _ rfl _ (vsC (readF V l tt true true m)) (0, 0) _ s5 Try.underlying29 rfl (by rw [vsC_size]; exact vsSize) ?_ | refine wpList_store_row rfl 29 _ _ rfl (w.heap.size + 4) (vsC (readF V l tt true true m)) rfl rfl 29 zero48 (HZ.out.at').at10 (by rw [vsC_size]; exact vsSize) (zero48_size.trans (vsC_size _).symm) (vsC_one _) ?_)
        clear s5
        have HE := Lib.hid ((HZ.out.at').out (vsC (readF V l tt true true m)))
        generalize W4.setRow (w.heap.size + 4) (vsC (readF V l tt true true m)) = WE at HE ⊢
        go_wp2_with fail
        exact bodyPost_ret (v := .tuple #[.agg (vsC (readF V l tt true true m)), .bool true]) (result_sb Try.results11 rfl rfl HE.out.at10) rfl ⟨by rw [HV.out, HO2.out], HE.out.low⟩
  have HO : Hid (readOk V l tt mo = false) := Lib.hid (by unfold readOk; simp [h1, h2, h3])
  have HV : Hid (readV V l tt mo m = V) := Lib.hid (by unfold readV; rw [HO.out]; rfl)
  have e1 : ((mo : Int) == 1) = false := by simpa using h1
  have e2 : ((mo : Int) == 2) = false := by simpa using h2
  have e3 : ((mo : Int) == 3) = false := by simpa using h3
  clear h1 h2 h3
  have e0 := HT.out
  go_enter Try.func11, Try.ntmps11
  go_upto_region 1 with (fail)
  generalize ((((w.alloc (.cells (vsC V) 29)).alloc (.cells #[.int .i64 (l : Int)] 3)).alloc (.cells #[.int .i64 tt] 3)).alloc (.cells (vwC m) 26)).alloc (.cells zero48 29) = w0 at HB ⊢
  have c6 := HB.out.at6.cell 0
  have c7 : w0.cell? ⟨w.heap.size + 1 + 1, 0, none⟩ = some (.int .i64 tt) := HB.out.at7.cell 0
  go_upto_if 18 with (go_at_call 27; refine (may2_any _ _ _).mono ?_; rintro e' w' ⟨rfl, h⟩; rw [h]; clear h w')
  have d0 : w0.cell? ⟨w.heap.size, 4 + l, none⟩ = some (.int .i64 (V 0 (l + 4))) := by rw [Nat.add_comm 4 l]; exact HB.out.cur (l + 4) (by have := HL.out; omega)
  have d1 : w0.cell? ⟨w.heap.size, l, none⟩ = some (.int .i64 (V 0 l)) := HB.out.cur l (by have := HL.out; omega)
  have a6true : (w0.alloc (.cells #[.bool true] 4)).cell? ⟨w.heap.size + 1, 0, none⟩ = some (.int .i64 (l : Int)) := (HB.out.at6.alloc _).cell 0
  have a0true : (w0.alloc (.cells #[.bool true] 4)).cell? ⟨w.heap.size, 4 + l, none⟩ = some (.int .i64 (V 0 (l + 4))) := by rw [Nat.add_comm 4 l]; exact (HB.out.boxed true).at'.cur (l + 4) (by have := HL.out; omega)
  have a6false : (w0.alloc (.cells #[.bool false] 4)).cell? ⟨w.heap.size + 1, 0, none⟩ = some (.int .i64 (l : Int)) := (HB.out.at6.alloc _).cell 0
  have a0false : (w0.alloc (.cells #[.bool false] 4)).cell? ⟨w.heap.size, 4 + l, none⟩ = some (.int .i64 (V 0 (l + 4))) := by rw [Nat.add_comm 4 l]; exact (HB.out.boxed false).at'.cur (l + 4) (by have := HL.out; omega)
  have i0 : (0 : Int) ≤ (l : Int) := by omega
  have i4 : (l : Int) < 4 := by have := HL.out; omega
  go_upto_region 3 with (fail)
  go_region
  have HX : Hid (ReadBx w V l tt m zero48 w0.heap.size true (w0.alloc (.cells #[.bool true] 4)).drew) := Lib.hid ((HB.out.boxed true).grown (Below.refl _ _).drew)
  generalize (w0.alloc (.cells #[.bool true] 4)).drew = W1 at HX ⊢
  generalize w0.heap.size = gb at HX ⊢
  clear c6 c7 d0 d1 a6true a0true a6false a0false HB
  go_upto_region 5 with (fail)
  have s5 := (HX.out.at').at5
  go_wp2_with (first | refine wpList_load_row rfl 29 _ rfl _ rfl _ (vsC (V)) (0, 0) _ s5 Try.underlying29 rfl (by rw [vsC_size]; exact vsSize) ?_ | refine wpList_store_row rfl 29 _ _ rfl (w.heap.size + 4) (vsC (V)) rfl rfl 29 zero48 (HX.out.at').at10 (by rw [vsC_size]; exact vsSize) (zero48_size.trans (vsC_size _).symm) (vsC_one _) ?_)
  clear s5
  have HE := Lib.hid ((HX.out.at').out (vsC (V)))
  generalize W1.setRow (w.heap.size + 4) (vsC (V)) = WE at HE ⊢
  go_wp2_with fail
  exact bodyPost_ret (v := .tuple #[.agg (vsC (V)), .bool false]) (result_sb Try.results11 rfl rfl HE.out.at10) rfl ⟨by rw [HV.out, HO.out], HE.out.low⟩
end Go.Proofs.Ytanbkclomjbokaa.Tvw
