/- The law of a region that draws its order, over what is said of the operations done, their results and the world; and its use: ONE call that changes the world, reads on both sides of it. -/
import Derived.Test.YtgkgpehjedmejaaFlowA
namespace Go.Proofs.Ytgkgpehjedmejaa.Flow
open Go.RowKit Go.Proofs.Ytgkgpehjedmejaa.Mem

section
variable {P : Program} {ops : Array Oper} {n : Nat} {a0 : Act} {Inv : (Nat → Bool) → (Nat → Value) → World → Prop} {Q : Exit → Act → World → Prop} {Z : List PanicEntry → World → Prop}
structure GoingS (ops : Array Oper) (n : Nat) (a0 : Act) (Inv : (Nat → Bool) → (Nat → Value) → World → Prop) (listed : Array Bool) (A : Act) (w : World) : Prop where
  head : HeadInv .any ops n listed
  size : A.tmps.size = a0.tmps.size
  defers : A.defers = a0.defers
  other : ∀ k, (∀ i, i < n → dstOf ops i ≠ k) → A.eval (.tmp k) = a0.eval (.tmp k)
  inv : Inv (fun i => listed.getD i false) (fun i => A.eval (.tmp (dstOf ops i))) w
def setB (d : Nat → Bool) (i : Nat) : Nat → Bool := fun j => d j || j == i
def setX (xs : Nat → Value) (i : Nat) (u : Value) : Nat → Value := fun j => if j = i then u else xs j
/-- Nothing is said but of the first n. -/
def Local (n : Nat) (Inv : (Nat → Bool) → (Nat → Value) → World → Prop) : Prop := ∀ d d' xs xs' w, (∀ i, i < n → d i = d' i) → (∀ i, i < n → xs i = xs' i) → Inv d xs w → Inv d' xs' w
theorem any_of_flowS (hB : okG ops n = true) (hI : Local n Inv) (hsz : ∀ i, i < n → dstOf ops i < a0.tmps.size)
    (step : ∀ i o, i < n → ops[i]? = some o → ∀ (d : Nat → Bool) (A : Act) (w : World), Inv d (fun i => A.eval (.tmp (dstOf ops i))) w → d i = false → (∀ k, (∀ i, i < n → dstOf ops i ≠ k) → A.eval (.tmp k) = a0.eval (.tmp k)) →
      (∀ e ∈ o.after, Region.binds .any e = true → d e.on = true) → (Region.wanted o (yielded ops A.tmps) = true ∧ YieldsZ P (fun u w' => Inv (setB d i) (setX (fun i => A.eval (.tmp (dstOf ops i))) i u) w') Z ((execOp A.eval o).run P w)) ∨ (Region.wanted o (yielded ops A.tmps) = false ∧ Inv (setB d i) (setX (fun i => A.eval (.tmp (dstOf ops i))) i undef) w))
    (panic : ∀ c (A : Act) w, A.defers = a0.defers → Z c w → Q (.panic c) A w)
    (tail : ∀ (A : Act) (w : World), A.tmps.size = a0.tmps.size → A.defers = a0.defers → (∀ k, (∀ i, i < n → dstOf ops i ≠ k) → A.eval (.tmp k) = a0.eval (.tmp k)) →
      Inv (fun _ => true) (fun i => A.eval (.tmp (dstOf ops i))) w → wpList P ops Q (ops.toList.drop n) A w) :
    ∀ (f : Nat) (listed : Array Bool) (A : Act) (w : World), GoingS ops n a0 Inv listed A w → (List.range n).countP (fun j => !listed.getD j true) = f → wpAny P .any ops Q (f + (ops.size - n)) listed A w := by
  simp only [okG, Bool.and_eq_true, decide_eq_true_eq] at hB
  obtain ⟨⟨⟨⟨hn, hs⟩, hc⟩, hq⟩, ho⟩ := hB
  have each : ∀ i, i < n → ∃ o d, ops[i]? = some o ∧ o.dst = some d ∧ (∀ e ∈ o.after, Region.binds .any e = true → e.on < i) ∧ ∀ j, j < n → j ≠ i → dstOf ops j ≠ d := by
    intro i hi
    have h := List.all_eq_true.1 ho i (List.mem_range.2 hi)
    cases hoi : ops[i]? with
    | none => simp [hoi] at h
    | some o =>
      simp only [hoi, Bool.and_eq_true] at h
      obtain ⟨⟨hd, ha⟩, hx⟩ := h
      obtain ⟨d, hd⟩ := Option.isSome_iff_exists.1 hd
      refine ⟨o, d, rfl, hd, fun e he hb => ?_, fun j hj hji hjd => ?_⟩
      · have := Array.all_eq_true'.1 ha e he
        simpa [hb] using this
      · have := List.all_eq_true.1 hx j (List.mem_range.2 hj)
        simp only [hji, decide_false, Bool.false_or] at this
        cases hoj : ops[j]? with
        | none => simp [hoj] at this
        | some o' =>
          simp only [hoj, bne_iff_ne, ne_eq, hd] at this
          have ho' := List.all_eq_true.1 ho j (List.mem_range.2 hj)
          simp only [hoj, Bool.and_eq_true] at ho'
          obtain ⟨d', hd'⟩ := Option.isSome_iff_exists.1 ho'.1.1
          simp only [dstOf, hoj, Option.bind_some, hd', Option.getD_some] at hjd
          exact this (by rw [hd', hjd])
  intro f
  induction f with
  | zero =>
    intro listed A w hg hcount
    have all : ∀ i, i < n → listed.getD i false = true := fun i hi => by
      have := List.countP_eq_zero.1 hcount i (List.mem_range.2 hi)
      have : ¬ listed.getD i true = false := by simpa using this
      exact getD_yes this (by rw [hg.head.size]; omega)
    have e : listed = ((List.range ops.size).map fun i => decide (i < n)).toArray := by
      apply Array.ext
      · simp [hg.head.size]
      · intro i h1 h2
        have h1' : i < ops.size := by rw [← hg.head.size]; exact h1
        by_cases hi : i < n
        · have := all i hi
          rw [Array.getD_eq_getD_getElem?, Array.getElem?_eq_getElem h1] at this
          simpa [hi] using this
        · have := hg.head.tail i (by omega) h1'
          rw [Array.getD_eq_getD_getElem?, Array.getElem?_eq_getElem h1] at this
          simpa [hi] using this
    have ht := tail A w hg.size hg.defers hg.other (hI _ _ _ _ _ (fun i hi => all i hi) (fun _ _ => rfl) hg.inv)
    have := wpAny_of_seq (md := .any) (Q' := Q) (ops.toList.drop n) n listed A w (fun j => by simp [List.getElem?_drop]) (by rw [List.length_drop, Array.length_toList, e]; exact hq) ht
    rw [List.length_drop, Array.length_toList] at this
    rwa [Nat.zero_add]
  | succ f ih =>
    intro listed A w hg hcount
    rw [show f + 1 + (ops.size - n) = (f + (ops.size - n)) + 1 by omega]
    have some1 : ∃ i, i < n ∧ listed.getD i true = false := by
      apply Classical.byContradiction
      intro hno
      have : (List.range n).countP (fun j => !listed.getD j true) = 0 := by
        rw [List.countP_eq_zero]
        intro j hj
        have : ¬ listed.getD j true = false := fun h => hno ⟨j, List.mem_range.1 hj, h⟩
        simpa using this
      omega
    have least : ∀ i, i < n → listed.getD i true = false → ∃ j ∈ Region.ready .any ops listed, j < n := by
      intro i
      induction i using Nat.strongRecOn with
      | _ i ihi =>
        intro hi hu
        obtain ⟨o, d, hoi, _, ha, _⟩ := each i hi
        by_cases hall : ∀ e ∈ o.after, Region.binds .any e = true → listed.getD e.on false = true
        · exact ⟨i, mem_ready.2 ⟨hu, o, hoi, hall⟩, hi⟩
        · simp only [Classical.not_forall] at hall
          obtain ⟨e, he, hb, hl⟩ := hall
          have hlt := ha e he hb
          exact ihi e.on hlt (by omega) (getD_flip (by simpa using hl) (by rw [hg.head.size]; omega))
    obtain ⟨i1, hi1, hu1⟩ := some1
    obtain ⟨j1, hj1, _⟩ := least i1 hi1 hu1
    refine ⟨fun h0 => (by rw [h0] at hj1; cases hj1), fun i hi => ?_⟩
    have hin : i < n := by
      rcases Nat.lt_or_ge i n with h | h
      · exact h
      · exact absurd hi (tail_waits hs hc hn hg.head _ i1 rfl hi1 hu1 i h)
    obtain ⟨hui, oi, hoi, hall⟩ := mem_ready.1 hi
    obtain ⟨o, d, hoi', hd, ha, hap⟩ := each i hin
    obtain rfl := Option.some.inj (hoi.symm.trans hoi')
    have hdi : dstOf ops i = d := by simp [dstOf, hoi, hd]
    have hdz : d < A.tmps.size := by rw [hg.size, ← hdi]; exact hsz i hin
    have hlz : i < listed.size := by rw [hg.head.size]; omega
    have cnt : (List.range n).countP (fun j => !(listed.setIfInBounds i true).getD j true) = f := by
      have hc2 := count_less (p := fun j => !listed.getD j true) (q := fun j => !(listed.setIfInBounds i true).getD j true) (i := i) (by simp only [hui]; rfl) (by
        rw [Array.getD_eq_getD_getElem?, Array.getElem?_setIfInBounds_self_of_lt hlz]; rfl) (fun j hj => by rw [getD_set_ne true (Ne.symm hj)]) (List.range n) List.nodup_range (List.mem_range.2 hin)
      omega
    have otherE : ∀ v k, (∀ i, i < n → dstOf ops i ≠ k) → (A.put (some d) v).eval (.tmp k) = a0.eval (.tmp k) := fun v k hk => by
      rw [eval_put _ _ _ _ (fun e => hk i hin (hdi.trans e.symm))]; exact hg.other k hk
    have go : ∀ v w', Inv (setB (fun i => listed.getD i false) i) (setX (fun i => A.eval (.tmp (dstOf ops i))) i v) w' → wpAny P .any ops Q (f + (ops.size - n)) (listed.setIfInBounds i true) (A.put (some d) v) w' := fun v w' hv => by
      refine ih _ _ _ ⟨hg.head.set hi hin, by simp [Act.put, hg.size], hg.defers, otherE _, hI _ _ _ _ _ (fun j hj => ?_) (fun j hj => ?_) hv⟩ cnt
      · unfold setB
        by_cases e : j = i
        · subst e
          have hx : (listed.setIfInBounds j true).getD j false = true := by rw [Array.getD_eq_getD_getElem?, Array.getElem?_setIfInBounds_self_of_lt hlz]; rfl
          show (listed.getD j false || j == j) = _
          rw [hx]; simp
        · rw [getD_set_ne false (Ne.symm e)]; simp [e]
      · unfold setX
        by_cases e : j = i
        · subst e; rw [if_pos rfl, hdi, eval_put_same _ _ _ hdz]
        · rw [if_neg e, eval_put _ _ _ _ (hap j hj e)]
    have hy := step i oi hin hoi (fun i => listed.getD i false) A w hg.inv (getD_both hui) hg.other (fun e he hb => hall e he hb)
    unfold wpOp
    simp only [hoi]
    rcases hy with ⟨hwt, hy⟩ | ⟨hwt, hv⟩
    · rw [if_pos hwt]
      refine .inl (wp_of_yieldsZ hy (fun v w' hv => ?_) (fun c w' hz => panic c _ w' hg.defers hz))
      rw [hd]
      exact go v w' hv
    · rw [if_neg (by rw [hwt]; exact Bool.false_ne_true), hd]
      exact go undef w hv
end
/-- THE LAW with its slots named. -/
theorem wp_flowS {P : Program} {Q : Exit → Act → World → Prop} {id : Nat} {l : List Oper} (ds : List Nat) (Inv : (Nat → Bool) → (Nat → Value) → World → Prop) (Z : List PanicEntry → World → Prop) {a0 : Act} {w : World} (hI : Local ds.length Inv)
    (hm : P.follows .mixedOrders = true) (hB : okG l.toArray ds.length = true)
    (hd : ((List.range ds.length).all fun i => dstOf l.toArray i == ds.getD i 0) = true) (hnd : ((List.range ds.length).all fun i => (List.range ds.length).all fun j => decide (j = i) || ds.getD j 0 != ds.getD i 0) = true) (hsz : (ds.all fun d => decide (d < a0.tmps.size)) = true)
    (begin' : ∀ xs, Inv (fun _ => false) xs w.drew)
    (step : ∀ i o, i < ds.length → l[i]? = some o → ∀ (d : Nat → Bool) (A : Act) (W : World), Inv d (fun i => A.tmps[ds.getD i 0]?.getD undef) W → d i = false → (∀ k, (ds.all fun d => d != k) = true → A.tmps[k]?.getD undef = a0.tmps[k]?.getD undef) →
      (∀ j, (o.after.any fun e => e.on == j && Region.binds .any e) = true → d j = true) →
      (Region.wanted o (yielded l.toArray A.tmps) = true ∧ YieldsZ P (fun u W' => Inv (setB d i) (setX (fun i => A.tmps[ds.getD i 0]?.getD undef) i u) W') Z ((execOp A.eval o).run P W)) ∨ (Region.wanted o (yielded l.toArray A.tmps) = false ∧ Inv (setB d i) (setX (fun i => A.tmps[ds.getD i 0]?.getD undef) i undef) W))
    (panic : ∀ c (A : Act) W, A.defers = a0.defers → Z c W → Q (.panic c) A W)
    (tail : ∀ (xs : Nat → Value) (W : World), Inv (fun _ => true) xs W → wpList P l.toArray Q (l.drop ds.length) (putL ds xs 0 a0) W) :
    (Code.region id l.toArray true).wp P Q a0 w := by
  have hdst : ∀ i, i < ds.length → dstOf l.toArray i = ds.getD i 0 := fun i hi => by simpa using List.all_eq_true.1 hd i (List.mem_range.2 hi)
  have hmem : ∀ i, i < ds.length → ds.getD i 0 ∈ ds := fun i hi => by rw [List.getD_eq_getElem?_getD, List.getElem?_eq_getElem hi]; exact List.getElem_mem hi
  have hap : ∀ i, i < ds.length → ∀ j, j < ds.length → j ≠ i → dstOf l.toArray j ≠ dstOf l.toArray i := fun i hi j hj hji e => by
    rw [hdst i hi, hdst j hj] at e
    have h := List.all_eq_true.1 (List.all_eq_true.1 hnd i (List.mem_range.2 hi)) j (List.mem_range.2 hj)
    rw [e] at h
    simp [hji] at h
  have hsz' : ∀ i, i < ds.length → dstOf l.toArray i < a0.tmps.size := fun i hi => by
    rw [hdst i hi]; simpa using List.all_eq_true.1 hsz _ (hmem i hi)
  have hB2 := hB
  simp only [okG, Bool.and_eq_true, decide_eq_true_eq] at hB2
  have hn := hB2.1.1.1.1
  have slots : ∀ {A : Act}, (∀ k, (∀ i, i < ds.length → dstOf l.toArray i ≠ k) → A.eval (.tmp k) = a0.eval (.tmp k)) → ∀ k, (ds.all fun d => d != k) = true → A.tmps[k]?.getD undef = a0.tmps[k]?.getD undef := fun hk k hkk => by
    rw [← eval_form, ← eval_form]
    refine hk k fun i hi e => ?_
    rw [hdst i hi] at e
    have := List.all_eq_true.1 hkk _ (hmem i hi)
    rw [e] at this
    simp at this
  refine wp_region_any hm ?_
  have inv0 : HeadInv .any l.toArray ds.length (Array.replicate l.toArray.size false) :=
    ⟨by simp, fun j oj _ hl => (by rw [getD_replicate_false] at hl; cases hl), fun t _ ht => getD_in (by simpa using ht) (getD_replicate_false _ _)⟩
  have c0 : (List.range ds.length).countP (fun j => !(Array.replicate l.toArray.size false).getD j true) = ds.length := by
    have : ∀ j ∈ List.range ds.length, (!(Array.replicate l.toArray.size false).getD j true) = true := fun j hj => by
      rw [getD_in (by have := List.mem_range.1 hj; simp at hn ⊢; omega) (getD_replicate_false _ _)]; rfl
    rw [List.countP_eq_length.2 this, List.length_range]
  have sames : ∀ (A : Act) i, i < ds.length → A.eval (.tmp (dstOf l.toArray i)) = A.tmps[ds.getD i 0]?.getD undef := fun A i hi => by rw [eval_form, hdst i hi]
  have turn : ∀ (A : Act) d W, Inv d (fun i => A.eval (.tmp (dstOf l.toArray i))) W ↔ Inv d (fun i => A.tmps[ds.getD i 0]?.getD undef) W := fun A d W => ⟨hI _ _ _ _ _ (fun _ _ => rfl) (fun i hi => sames A i hi), hI _ _ _ _ _ (fun _ _ => rfl) (fun i hi => (sames A i hi).symm)⟩
  have turnX : ∀ (A : Act) d i u W, Inv d (setX (fun i => A.tmps[ds.getD i 0]?.getD undef) i u) W → Inv d (setX (fun i => A.eval (.tmp (dstOf l.toArray i))) i u) W := fun A d i u W => hI _ _ _ _ _ (fun _ _ => rfl) (fun j hj => by unfold setX; by_cases e : j = i; (rw [if_pos e, if_pos e]); (rw [if_neg e, if_neg e]; exact (sames A j hj).symm))
  have H := any_of_flowS (P := P) (Q := Q) (ops := l.toArray) (Inv := Inv) (a0 := a0) (Z := Z) hB hI hsz'
    (fun i o hi ho d A W hv hdi hk he => (step i o hi (by simpa using ho) d A W ((turn A d W).1 hv) hdi (slots hk) (fun j hj => edge (P := fun j => d j = true) he j hj)).imp
      (fun ⟨h1, h2⟩ => ⟨h1, h2.mono fun u W' h => turnX A _ i u W' h⟩) (fun ⟨h1, h2⟩ => ⟨h1, turnX A _ i undef W h2⟩))
    panic
    (fun A W hs hd' hk hv => by
      have e : A = putL ds (fun i => A.eval (.tmp (dstOf l.toArray i))) 0 a0 := by
        rw [putL_eq l.toArray _ ds 0 a0 (fun i hi => by rw [Nat.zero_add]; exact hdst i hi), ← List.range_eq_range']
        refine act_ext (by rw [putAll_size, hs]) (by rw [putAll_defers, hd']) fun k => ?_
        by_cases h : ∃ i, i < ds.length ∧ dstOf l.toArray i = k
        · obtain ⟨i, hi, rfl⟩ := h
          rw [putAll_same _ _ _ List.nodup_range (fun i hi j hj => hap i (List.mem_range.1 hi) j (List.mem_range.1 hj)) (fun i hi => hsz' i (List.mem_range.1 hi)) i (List.mem_range.2 hi)]
        · have h' : ∀ i, i < ds.length → dstOf l.toArray i ≠ k := fun i hi e => h ⟨i, hi, e⟩
          rw [putAll_other _ _ _ _ (fun i hi => h' i (List.mem_range.1 hi)), hk k h']
      have ht := tail (fun i => A.eval (.tmp (dstOf l.toArray i))) W hv
      rw [← e] at ht
      simpa using ht)
    ds.length (Array.replicate l.toArray.size false) a0 w.drew ⟨inv0, rfl, rfl, fun _ _ => rfl, hI _ _ _ _ _ (fun i _ => (getD_replicate_false _ _).symm) (fun _ _ => rfl) (begin' fun i => a0.eval (.tmp (dstOf l.toArray i)))⟩ c0
  rw [show ds.length + (l.toArray.size - ds.length) = l.toArray.size by omega] at H
  exact H
/-- ONE operation that changes the world (a call, say): what the others yield outlives it; they may read before it and behind it. -/
theorem wp_flowB {P : Program} {Q : Exit → Act → World → Prop} {id : Nat} {l : List Oper} {R K : World → World → Prop} (hR : Rel R) (hK : Rel K) (hRK : ∀ x y, R x y → K x y) (ds : List Nat) (vl : List (Value → World → Prop)) (a : Nat) (Z : List PanicEntry → World → Prop) {a0 : Act} {w : World} (ha : a < ds.length)
    (hm : P.follows .mixedOrders = true) (hB : okG l.toArray ds.length = true)
    (hd : ((List.range ds.length).all fun i => dstOf l.toArray i == ds.getD i 0) = true) (hnd : ((List.range ds.length).all fun i => (List.range ds.length).all fun j => decide (j = i) || ds.getD j 0 != ds.getD i 0) = true) (hsz : (ds.all fun d => decide (d < a0.tmps.size)) = true)
    (mono : ∀ p ∈ vl, MonoR R p) (monoK : ∀ i, i ≠ a → MonoR K (pick vl i))
    (step : ∀ i o, i < ds.length → i ≠ a → l[i]? = some o → ∀ (A : Act) (W : World), K w W → (∀ k, (ds.all fun d => d != k) = true → A.tmps[k]?.getD undef = a0.tmps[k]?.getD undef) →
      (∀ j, j < ds.length → (o.after.any fun e => e.on == j && Region.binds .any e) = true → pick vl j (A.tmps[ds.getD j 0]?.getD undef) W) →
      (Region.wanted o (yielded l.toArray A.tmps) = true ∧ YieldsZ P (fun u W' => pick vl i u W' ∧ R W W') Z ((execOp A.eval o).run P W)) ∨ (Region.wanted o (yielded l.toArray A.tmps) = false ∧ pick vl i undef W))
    (stepA : ∀ o, l[a]? = some o → ∀ (A : Act) (W : World), R w W → (∀ k, (ds.all fun d => d != k) = true → A.tmps[k]?.getD undef = a0.tmps[k]?.getD undef) →
      (∀ j, j < ds.length → (o.after.any fun e => e.on == j && Region.binds .any e) = true → pick vl j (A.tmps[ds.getD j 0]?.getD undef) W) →
      Region.wanted o (yielded l.toArray A.tmps) = true ∧ YieldsZ P (fun u W' => pick vl a u W' ∧ K W W') Z ((execOp A.eval o).run P W))
    (panic : ∀ c (A : Act) W, A.defers = a0.defers → Z c W → Q (.panic c) A W)
    (tail : ∀ (xs : Nat → Value) (W : World), K w W → (∀ i, i < ds.length → pick vl i (xs i) W) → wpList P l.toArray Q (l.drop ds.length) (putL ds xs 0 a0) W) :
    (Code.region id l.toArray true).wp P Q a0 w := by
  refine wp_flowS (w := w) ds (fun d xs W => (∀ i, i < ds.length → d i = true → pick vl i (xs i) W) ∧ (d a = false → R w W) ∧ K w W) Z ?_ hm hB hd hnd hsz ?_ ?_ panic ?_
  · intro d d' xs xs' W h1 h2 ⟨h3, h4, h5⟩
    exact ⟨fun i hi hd => by rw [← h2 i hi]; exact h3 i hi (by rw [h1 i hi]; exact hd), fun h => h4 (by rw [h1 a ha]; exact h), h5⟩
  · intro xs
    exact ⟨fun _ _ h => (by cases h), fun _ => hR.drew w, hK.drew w⟩
  · intro i o hi ho d A W hv hdi hk he
    obtain ⟨h1, h2, h3⟩ := hv
    have hdeps : ∀ j, j < ds.length → (o.after.any fun e => e.on == j && Region.binds .any e) = true → pick vl j (A.tmps[ds.getD j 0]?.getD undef) W := fun j hj hb => h1 j hj (he j hb)
    by_cases hia : i = a
    · subst hia
      obtain ⟨hw, hy⟩ := stepA o ho A W (h2 hdi) hk hdeps
      refine .inl ⟨hw, hy.mono fun u W' ⟨hu, hkk⟩ => ⟨fun j hj hdj => ?_, fun h => ?_, hK.trans h3 hkk⟩⟩
      · unfold setX
        by_cases e : j = i
        · subst e; rw [if_pos rfl]; exact hu
        · rw [if_neg e]
          have : d j = true := by simpa [setB, e] using hdj
          exact monoK j e _ _ _ (h1 j hj this) hkk
      · simp [setB] at h
    · have fin : ∀ u W', pick vl i u W' → R W W' → (∀ j, j < ds.length → setB d i j = true → pick vl j (setX (fun i => A.tmps[ds.getD i 0]?.getD undef) i u j) W') ∧ (setB d i a = false → R w W') ∧ K w W' := fun u W' hu hr => by
        refine ⟨fun j hj hdj => ?_, fun h => ?_, hK.trans h3 (hRK _ _ hr)⟩
        · unfold setX
          by_cases e : j = i
          · subst e; rw [if_pos rfl]; exact hu
          · rw [if_neg e]
            have : d j = true := by simpa [setB, e] using hdj
            exact pick_monoR mono j _ _ _ (h1 j hj this) hr
        · have : d a = false := by simp [setB] at h; exact h.1
          exact hR.trans (h2 this) hr
      rcases step i o hi hia ho A W h3 hk hdeps with ⟨hw, hy⟩ | ⟨hw, hu⟩
      · exact .inl ⟨hw, hy.mono fun u W' h => fin u W' h.1 h.2⟩
      · exact .inr ⟨hw, fin undef W hu (hR.refl W)⟩
  · intro xs W ⟨h1, _, h3⟩
    exact tail xs W h3 fun i hi => h1 i hi rfl
end Go.Proofs.Ytgkgpehjedmejaa.Flow
