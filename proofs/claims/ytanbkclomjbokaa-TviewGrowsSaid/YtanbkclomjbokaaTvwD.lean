/- Layer 13 (tview): six views compared; Map, May. -/
import Derived.Test.YtanbkclomjbokaaTvwC
namespace Go.Proofs.Ytanbkclomjbokaa.Tvw
open Go.RowKit Go.Proofs.Ytanbkclomjbokaa.Mem Go.Proofs.Ytanbkclomjbokaa.Flow Go.Proofs.Ytanbkclomjbokaa.Vew

theorem vs_extract (V : Nat → Nat → Int) (k : Nat) (hk : k < 6) : (vsC V).extract (k * 8) (k * 8 + 8) = vwC (V k) := by
  apply Array.ext
  · simp [vsC_size, vwC_size]; omega
  · intro j h1 h2
    have hj : j < 8 := by simpa [vwC_size] using h2
    have e1 : ((vsC V).extract (k * 8) (k * 8 + 8))[j]? = some (.int .i64 (V k j)) := by
      rw [Array.getElem?_extract_of_lt (by rw [vsC_size]; omega)]
      have := vsC_at V k j (k * 8 + j) hk hj (by omega)
      rw [Array.getElem?_eq_getElem (by rw [vsC_size]; omega)] at this
      rw [this]
    have e2 := vwC_at (V k) j hj
    rw [Array.getElem?_eq_getElem h1] at e1
    rw [Array.getElem?_eq_getElem h2] at e2
    injection e1.trans e2.symm
theorem vs_rest (V : Nat → Nat → Int) : (vsC V).extract 16 48 = relC V := by
  apply Array.ext
  · simp [vsC_size, relC_size]
  · intro j h1 h2
    have hj : j < 32 := by simpa [relC_size] using h2
    have e1 : ((vsC V).extract 16 48)[j]? = some (.int .i64 (V (j / 8 + 2) (j % 8))) := by
      rw [Array.getElem?_extract_of_lt (by rw [vsC_size]; omega)]
      have := vsC_at V (j / 8 + 2) (j % 8) (16 + j) (by omega) (by omega) (by omega)
      rw [Array.getElem?_eq_getElem (by rw [vsC_size]; omega)] at this
      rw [this]
    have e2 : (relC V)[j]? = some (.int .i64 (V (j / 8 + 2) (j % 8))) := by simp [relC, hj]
    rw [Array.getElem?_eq_getElem h1] at e1
    rw [Array.getElem?_eq_getElem h2] at e2
    injection e1.trans e2.symm
theorem eq_vw (d : Nat) (f g : Nat → Int) (W : World) : (Op.equalIn (d + 3) 26 (.agg (vwC f)) (.agg (vwC g))).run Try.prog W = .ok (sameF 8 f g) W := by
  have e1 : ∀ W, (Op.equalIn (d + 2) 24 (arr f) (arr g)).run Try.prog W = .ok (sameF 4 f g) W := fun W => eq_arr d f g W
  have e2 : ∀ W, (Op.equalIn (d + 2) 24 (arr (from_ 4 f)) (arr (from_ 4 g))).run Try.prog W = .ok (sameF 4 (from_ 4 f) (from_ 4 g)) W := fun W => eq_arr d (from_ 4 f) (from_ 4 g) W
  simp only [arr, from_] at e1 e2
  show (Op.equalIn (d + 2 + 1) 26 (vewV f) (vewV g)).run Try.prog W = _
  rw [same8, run_equalIn_agg W (d + 2) 26 _ _ structV heldV]
  simp only [Program.fieldsOf, Try.underlying26]
  have a4 := Try.isAgg24
  have z4 := Try.sizeOf24
  generalize sameF 4 f g = b1 at e1 ⊢
  generalize sameF 4 (from_ 4 f) (from_ 4 g) = b2 at e2 ⊢
  go_simp
  cases b1 <;> cases b2 <;> rfl
def sameR (A B : Nat → Nat → Int) : Bool := (List.range 4).all fun k => sameF 8 (A (k + 2)) (B (k + 2))
theorem eq_rel (d : Nat) (A B : Nat → Nat → Int) (W : World) : (Op.equalIn (d + 4) 27 (.agg (relC A)) (.agg (relC B))).run Try.prog W = .ok (sameR A B) W := by
  unfold sameR
  rw [List.range_eq_range', Op.equalIn]
  have hsz : ∀ W, (sizeOf 26).run Try.prog W = .ok 8 W := fun W => Try.sizeOf26 W
  simp only [Sem.run_bind, run_underlying Try.underlying27, Result.andThen_ok, hsz, Std.Legacy.Range.forIn_eq_forIn_range', Std.Legacy.Range.size, Nat.sub_zero, Nat.add_sub_cancel, Nat.div_one]
  have hl : ∀ i ∈ List.range' 0 4 1, i < 4 := fun i hi => by simpa using (List.mem_range'_1.1 hi).2
  generalize List.range' 0 4 1 = l at hl ⊢
  induction l with
  | nil => simp
  | cons i l ih =>
    have hi : i < 4 := hl i (by simp)
    have ha : (isAgg 26).run Try.prog W = .ok true W := Try.isAgg26 W
    have px : ∀ V, (part 26 (relC V) (i * 8)).run Try.prog W = .ok (.agg (vwC (V (i + 2)))) W := fun V => by simp [part, ha, hsz, extract_rel V i hi]
    have pe : (Op.equalIn (d + 3) 26 (.agg (vwC (A (i + 2)))) (.agg (vwC (B (i + 2))))).run Try.prog W = .ok (sameF 8 (A (i + 2)) (B (i + 2))) W := eq_vw d _ _ W
    simp only [List.forIn_cons, Sem.run_bind, px, pe, Result.andThen_ok, List.all_cons]
    cases hb : sameF 8 (A (i + 2)) (B (i + 2))
    · simp
    · simp only [Bool.not_true, Bool.false_eq_true, if_false, Sem.run_pure, Result.andThen_ok, Bool.true_and]
      exact ih fun j hj => hl j (by simp [hj])
def sameV (A B : Nat → Nat → Int) : Bool := sameF 8 (A 0) (B 0) && (sameF 8 (A 1) (B 1) && sameR A B)
theorem structS : Try.prog.underlying 29 = some (.struct (Try.prog.fieldsOf 29)) := by kernel_rfl
theorem heldS : Try.prog.stoodInHeld 29 = false := by kernel_rfl
theorem eq_vs (A B : Nat → Nat → Int) (W : World) : (Op.equalIn 10000 29 (.agg (vsC A)) (.agg (vsC B))).run Try.prog W = .ok (sameV A B) W := by
  have hz : ∀ W, (sizeOf 26).run Try.prog W = .ok 8 W := fun W => Try.sizeOf26 W
  have ha : ∀ W, (isAgg 26).run Try.prog W = .ok true W := fun W => Try.isAgg26 W
  have hz4 : ∀ W, (sizeOf 27).run Try.prog W = .ok 32 W := fun W => Try.sizeOf27 W
  have ha4 : ∀ W, (isAgg 27).run Try.prog W = .ok true W := fun W => Try.isAgg27 W
  have p0 : ∀ V W, (part 26 (vsC V) 0).run Try.prog W = .ok (.agg (vwC (V 0))) W := fun V W => by have := vs_extract V 0 (by decide); simp at this; simp [part, ha, hz, this]
  have p1 : ∀ V W, (part 26 (vsC V) 8).run Try.prog W = .ok (.agg (vwC (V 1))) W := fun V W => by have := vs_extract V 1 (by decide); simp at this; simp [part, ha, hz, this]
  have p2 : ∀ V W, (part 27 (vsC V) 16).run Try.prog W = .ok (.agg (relC V)) W := fun V W => by simp [part, ha4, hz4, vs_rest]
  have e0 : ∀ W, (Op.equalIn 9999 26 (.agg (vwC (A 0))) (.agg (vwC (B 0)))).run Try.prog W = .ok (sameF 8 (A 0) (B 0)) W := fun W => eq_vw 9996 _ _ W
  have e1 : ∀ W, (Op.equalIn 9999 26 (.agg (vwC (A 1))) (.agg (vwC (B 1)))).run Try.prog W = .ok (sameF 8 (A 1) (B 1)) W := fun W => eq_vw 9996 _ _ W
  have e2 : ∀ W, (Op.equalIn 9999 27 (.agg (relC A)) (.agg (relC B))).run Try.prog W = .ok (sameR A B) W := fun W => eq_rel 9995 _ _ W
  unfold sameV
  rw [show (10000 : Nat) = 9999 + 1 from rfl, run_equalIn_agg W 9999 29 _ _ structS heldS]
  simp only [Program.fieldsOf, Try.underlying29]
  generalize sameF 8 (A 0) (B 0) = b0 at e0 ⊢
  generalize sameF 8 (A 1) (B 1) = b1 at e1 ⊢
  generalize sameR A B = b2 at e2 ⊢
  clear hz ha hz4 ha4
  simp only [Op.eqFields, ne_eq, String.reduceEq, not_false_eq_true, if_true, Sem.run_bind, p0, p1, p2, e0, e1, e2, Result.andThen_ok, Sem.run_ite, Sem.run_pure]
  cases b0 <;> cases b1 <;> cases b2 <;> rfl
theorem eql_vs (A B : Nat → Nat → Int) (W : World) : (binOp .eql 29 (.agg (vsC A)) (.agg (vsC B))).run Try.prog W = .ok (.bool (sameV A B)) W := by
  rw [run_eql_struct, eq_vs]; rfl
theorem neq_vs (A B : Nat → Nat → Int) (W : World) : (binOp .neq 29 (.agg (vsC A)) (.agg (vsC B))).run Try.prog W = .ok (.bool (!sameV A B)) W := by
  rw [run_neq_struct, eq_vs]; rfl
theorem guard_vs (op : BinOp) (x y : Operand) (A B : Nat → Nat → Int) (W : World) : (eqGuard op 29 x y (.agg (vsC A)) (.agg (vsC B))).run Try.prog W = .ok () W :=
  run_eqGuard_agg W op 29 x y _ _ (by kernel_rfl)
theorem sameV_iff {A B : Nat → Nat → Int} : sameV A B = true ↔ ∀ k i, k < 6 → i < 8 → A k i = B k i := by
  simp only [sameV, sameR, Bool.and_eq_true, List.all_eq_true, List.mem_range, same_iff]
  refine ⟨fun ⟨h0, h1, h2⟩ k i hk hi => ?_, fun h => ⟨fun i hi => h 0 i (by omega) hi, fun i hi => h 1 i (by omega) hi, fun k hk i hi => h (k + 2) i (by omega) hi⟩⟩
  rcases k with _ | _ | k
  · exact h0 i hi
  · exact h1 i hi
  · exact h2 k (by omega) i hi
/-- Each, of a function value that only adds to memory. -/
theorem keeps_none {w w' : World} (h : Keeps (fun _ => False) w w') : Below w.heap.size w w' := ⟨h.os, h.tape, h.output, h.size, fun b hb => h.block b hb (fun f => f)⟩
theorem turns_pure {F : FuncId} {c : Array Value} {φ : (Nat → Int) → Nat → Int} (w0 : World) (en : EntersV F)
    (h : ∀ w f, Below w0.heap.size w0 w → Calls Try.prog F (#[.agg (vwC f)] ++ c) w (Made (.returned (.agg (vwC (φ f)))) w)) : Turns F c φ w0.heap.size (fun _ => False) (fun _ w => Below w0.heap.size w0 w) where
  enters := en
  old := fun _ f => f.elim
  keep := fun _ _ _ h hb => h.trans hb
  call := fun _ f w hw hz => (h w f hw).mono fun _ _ ⟨he, hb⟩ => ⟨he, hw.trans (hb.mono hz), Keeps.of_below hb⟩
theorem each_pure {F : FuncId} {c : Array Value} {φ : (Nat → Int) → Nat → Int} (w0 : World) (en : EntersV F) (V : Nat → Nat → Int)
    (h : ∀ w f, Below w0.heap.size w0 w → Calls Try.prog F (#[.agg (vwC f)] ++ c) w (Made (.returned (.agg (vwC (φ f)))) w)) :
    Calls Try.prog 24 #[.agg (vsC V), .func (.func F) #[] c] w0 (Made (.returned (.agg (vsC fun k => φ (V k)))) w0) :=
  (each_any w0 (turns_pure w0 en h) V (Below.refl _ _)).mono fun _ _ ⟨he, _, hk⟩ => ⟨he, keeps_none hk⟩
/-- Views in a box, something beside it, a box for the result. -/
structure Box3 (w : World) (V : Nat → Nat → Int) (t : TypeId) (cs : Array Value) (r : Array Value) (W : World) : Prop where
  at2 : Sits W w.heap.size 29 (vsC V)
  at3 : Sits W (w.heap.size + 1) t cs
  at4 : Sits W (w.heap.size + 2) 29 r
  low : Below w.heap.size w W
section
variable {w W W' : World} {V : Nat → Nat → Int} {t : TypeId} {cs r : Array Value}
theorem Box3.grown (h : Box3 w V t cs r W) (hb : Below W.heap.size W W') : Box3 w V t cs r W' := ⟨h.at2.below hb h.at2.lt, h.at3.below hb h.at3.lt, h.at4.below hb h.at4.lt, h.low.trans (hb.mono h.low.size)⟩
theorem Box3.out (h : Box3 w V t cs r W) (u : Array Value) : Box3 w V t cs u (W.setRow (w.heap.size + 2) u) :=
  ⟨(setRow_other _ _ _ _ (by omega)).trans h.at2, (setRow_other _ _ _ _ (by omega)).trans h.at3, setRow_heap _ _ _ _ _ _ h.at4, h.low.trans (below_row (by omega))⟩
theorem box3_new (w : World) (V : Nat → Nat → Int) (t : TypeId) (cs : Array Value) : Box3 w V t cs zero48 (((w.alloc (.cells (vsC V) 29)).alloc (.cells cs t)).alloc (.cells zero48 29)) :=
  ⟨((Sits.new _ _ _).alloc _).alloc _, (Sits.made (by simp) _ _).alloc _, Sits.made (by simp) _ _, below3 _ _ _ _⟩
end
set_option maxRecDepth 100000 in
set_option maxHeartbeats 2000000 in
theorem map6_any {F : FuncId} {fr c : Array Value} {φ : Int → Int → Int} {J : World → Prop} (S : Says F fr c φ J) (V : Nat → Nat → Int) (w : World) (hJ : J w) :
    Calls Try.prog 14 #[.agg (vsC V), .func (.func F) fr c] w (Made (.returned (.agg (vsC fun k => mapsF φ (V k)))) w) := by
  have HB := Lib.hid (box3_new w V 51 #[.func (.func F) fr c])
  have HS := Lib.hid S
  have HJ := Lib.hid (fun W (hb : Below w.heap.size w W) => S.keep _ _ hJ hb)
  clear S hJ
  go_enter Try.func14, Try.ntmps14
  go_upto_region 1 with (fail)
  generalize ((w.alloc (.cells (vsC V) 29)).alloc (.cells #[.func (.func F) fr c] 51)).alloc (.cells zero48 29) = w0 at HB ⊢
  have HC : Hid (∀ W, Box3 w V 51 #[.func (.func F) fr c] zero48 W → Calls Try.prog 24 #[.agg (vsC V), .func (.func 32) #[] #[.pointer (some ⟨w.heap.size + 1, 0, none⟩)]] W (Made (.returned (.agg (vsC fun k => mapsF φ (V k)))) W)) :=
    Lib.hid (fun W hB => each_pure W map1_enters V fun W2 f hb => map1_any HS.out f (w.heap.size + 1) W2 (hB.at3.below hb hB.at3.lt) (HJ.out W2 (hB.low.trans (hb.mono hB.low.size))))
  clear HS HJ
  refine wp_flowQ [5, 6, 7] [eqV (.agg (vsC (V))), eqV (.func (.func 32) #[] #[.pointer (some ⟨w.heap.size + 1, 0, none⟩)]), eqV (.agg (vsC (fun k => mapsF φ (V k))))] (by kernel_rfl) (by kernel_rfl) (by kernel_rfl) (by kernel_rfl) (by rfl)
    (by simp only [List.mem_cons, List.not_mem_nil, or_false, forall_eq_or_imp, forall_eq]; refine ⟨?_, ?_, ?_⟩ <;> (first | exact eqV_mono _ | exact rowV_mono _ _ _)) ?_ ?_
  · intro i o hi ho A W hW hk he
    simp only [List.length_cons, List.length_nil, Nat.zero_add, Nat.reduceAdd] at hi
    obtain rfl | rfl | rfl : i = 0 ∨ i = 1 ∨ i = 2 := by omega
    · injection ho with ho; subst ho
      refine .inl ⟨wanted_free rfl, ?_⟩
      have h2 : A.tmps[2]?.getD undef = .pointer (some ⟨w.heap.size, 0, none⟩) := hk 2 (by rfl)
      exact y_load (cs := vsC (V)) rfl h2 (sits_range ((HB.out.grown hW).at2)) Try.underlying29 rfl vsSize
    · injection ho with ho; subst ho
      refine .inl ⟨wanted_free rfl, ?_⟩
      have h3 : A.tmps[3]?.getD undef = .pointer (some ⟨w.heap.size + 1, 0, none⟩) := hk 3 (by rfl)
      go_simp
      exact ⟨rfl, Below.refl _ _⟩
    · injection ho with ho; subst ho
      refine .inl ⟨wanted_free rfl, ?_⟩
      have h5 : A.tmps[5]?.getD undef = .agg (vsC (V)) := he 0 (by kernel_rfl)
      have h6 : A.tmps[6]?.getD undef = .func (.func 32) #[] #[.pointer (some ⟨w.heap.size + 1, 0, none⟩)] := he 1 (by kernel_rfl)
      go_simp
      refine Calls.mono (HC.out W (HB.out.grown hW)) ?_
      rintro e' w' ⟨rfl, hb⟩
      exact ⟨_, rfl, rfl, hb⟩
  · intro xs W hW hV
    have e7 : xs 2 = .agg (vsC (fun k => mapsF φ (V k))) := hV 2 (by simp)
    simp only [List.length_cons, List.length_nil, Nat.zero_add, Nat.reduceAdd, List.drop_succ_cons, List.drop_zero, putL, Act.put, List.setIfInBounds_toArray, List.set_cons_zero, List.set_cons_succ, e7]
    clear hV e7
    have HB1 := Lib.hid (HB.out.grown hW)
    clear hW HB HC
    refine wpList_store_row rfl 29 _ _ rfl (w.heap.size + 2) (vsC fun k => mapsF φ (V k)) rfl rfl 29 zero48 HB1.out.at4 (by rw [vsC_size]; exact vsSize) (zero48_size.trans (vsC_size _).symm) (vsC_one _) ?_
    have HE := Lib.hid (HB1.out.out (vsC fun k => mapsF φ (V k)))
    generalize W.setRow (w.heap.size + 2) (vsC fun k => mapsF φ (V k)) = W4 at HE ⊢
    go_wp2_with fail
    exact bodyPost_ret (v := .agg (vsC fun k => mapsF φ (V k))) (result_s Try.results14 rfl HE.out.at4) rfl ⟨rfl, HE.out.low⟩
end Go.Proofs.Ytanbkclomjbokaa.Tvw
