/- The same law of a region some of whose operations have a guard: what is not wanted yields nothing, and that fits its word, too. -/
import Derived.Test.YtgkgpehjedmejaaFlow
namespace Go.Proofs.Ytgkgpehjedmejaa.Flow
open Go.RowKit Go.Proofs.Ytgkgpehjedmejaa.Mem

/-- As okB, but for guards. -/
def okG (ops : Array Oper) (n : Nat) : Bool :=
  decide (n < ops.size) && Region.sinkB .any ops n && Region.chainB .any ops n && Region.seqB .any ops (ops.size - n) n ((List.range ops.size).map fun i => decide (i < n)).toArray &&
    (List.range n).all fun i => match ops[i]? with
      | some o => o.dst.isSome && (o.after.all fun e => !Region.binds .any e || decide (e.on < i)) &&
          (List.range n).all fun j => decide (j = i) || match ops[j]? with
            | some o' => o'.dst != o.dst
            | none => false
      | none => false
section
variable {P : Program} {ops : Array Oper} {n : Nat} {a0 : Act} {W0 : World} {V : Nat → Value → World → Prop} {Q : Exit → Act → World → Prop}
theorem any_of_flowG (hB : okG ops n = true) (hsz : ∀ i, i < n → dstOf ops i < a0.tmps.size)
    (mono : ∀ i u w w', V i u w → Below w.heap.size w w' → V i u w')
    (step : ∀ i o, i < n → ops[i]? = some o → ∀ (A : Act) (w : World), Below W0.heap.size W0 w → (∀ k, (∀ i, i < n → dstOf ops i ≠ k) → A.eval (.tmp k) = a0.eval (.tmp k)) →
      (∀ e ∈ o.after, Region.binds .any e = true → V e.on (A.eval (.tmp (dstOf ops e.on))) w) → (Region.wanted o (yielded ops A.tmps) = true ∧ Yields P (fun u w' => V i u w' ∧ Below w.heap.size w w') ((execOp A.eval o).run P w)) ∨ (Region.wanted o (yielded ops A.tmps) = false ∧ V i undef w))
    (tail : ∀ (A : Act) (w : World), A.tmps.size = a0.tmps.size → A.defers = a0.defers → Below W0.heap.size W0 w → (∀ k, (∀ i, i < n → dstOf ops i ≠ k) → A.eval (.tmp k) = a0.eval (.tmp k)) →
      (∀ i, i < n → V i (A.eval (.tmp (dstOf ops i))) w) → wpList P ops Q (ops.toList.drop n) A w) :
    ∀ (f : Nat) (listed : Array Bool) (A : Act) (w : World), Going ops n a0 W0 V listed A w → (List.range n).countP (fun j => !listed.getD j true) = f → wpAny P .any ops Q (f + (ops.size - n)) listed A w := by
  simp only [okG, Bool.and_eq_true, decide_eq_true_eq] at hB
  obtain ⟨⟨⟨⟨hn, hs⟩, hc⟩, hq⟩, ho⟩ := hB
  have each : ∀ i, i < n → ∃ o d, ops[i]? = some o ∧ o.dst = some d ∧ (∀ e ∈ o.after, Region.binds .any e = true → e.on < i) ∧ ∀ j, j < n → j ≠ i → dstOf ops j ≠ d := by
    intro i hi
    have h := List.all_eq_true.1 ho i (List.mem_range.2 hi)
    cases hoi : ops[i]? with
    | none => simp [hoi] at h
    | some o =>
      simp only [hoi, Bool.and_eq_true] at h
      obtain ⟨⟨hd, ha⟩, hx⟩ := h
      obtain ⟨d, hd⟩ := Option.isSome_iff_exists.1 hd
      refine ⟨o, d, rfl, hd, fun e he hb => ?_, fun j hj hji hjd => ?_⟩
      · have := Array.all_eq_true'.1 ha e he
        simpa [hb] using this
      · have := List.all_eq_true.1 hx j (List.mem_range.2 hj)
        simp only [hji, decide_false, Bool.false_or] at this
        cases hoj : ops[j]? with
        | none => simp [hoj] at this
        | some o' =>
          simp only [hoj, bne_iff_ne, ne_eq, hd] at this
          have ho' := List.all_eq_true.1 ho j (List.mem_range.2 hj)
          simp only [hoj, Bool.and_eq_true] at ho'
          obtain ⟨d', hd'⟩ := Option.isSome_iff_exists.1 ho'.1.1
          simp only [dstOf, hoj, Option.bind_some, hd', Option.getD_some] at hjd
          exact this (by rw [hd', hjd])
  intro f
  induction f with
  | zero =>
    intro listed A w hg hcount
    have all : ∀ i, i < n → listed.getD i false = true := fun i hi => by
      have := List.countP_eq_zero.1 hcount i (List.mem_range.2 hi)
      have : ¬ listed.getD i true = false := by simpa using this
      exact getD_yes this (by rw [hg.head.size]; omega)
    have e : listed = ((List.range ops.size).map fun i => decide (i < n)).toArray := by
      apply Array.ext
      · simp [hg.head.size]
      · intro i h1 h2
        have h1' : i < ops.size := by rw [← hg.head.size]; exact h1
        by_cases hi : i < n
        · have := all i hi
          rw [Array.getD_eq_getD_getElem?, Array.getElem?_eq_getElem h1] at this
          simpa [hi] using this
        · have := hg.head.tail i (by omega) h1'
          rw [Array.getD_eq_getD_getElem?, Array.getElem?_eq_getElem h1] at this
          simpa [hi] using this
    have ht := tail A w hg.size hg.defers hg.low hg.other (fun i hi => hg.has i hi (all i hi))
    have := wpAny_of_seq (md := .any) (Q' := Q) (ops.toList.drop n) n listed A w (fun j => by simp [List.getElem?_drop]) (by rw [List.length_drop, Array.length_toList, e]; exact hq) ht
    rw [List.length_drop, Array.length_toList] at this
    rwa [Nat.zero_add]
  | succ f ih =>
    intro listed A w hg hcount
    rw [show f + 1 + (ops.size - n) = (f + (ops.size - n)) + 1 by omega]
    -- the first that has not come up may come up
    have some1 : ∃ i, i < n ∧ listed.getD i true = false := by
      apply Classical.byContradiction
      intro hno
      have : (List.range n).countP (fun j => !listed.getD j true) = 0 := by
        rw [List.countP_eq_zero]
        intro j hj
        have : ¬ listed.getD j true = false := fun h => hno ⟨j, List.mem_range.1 hj, h⟩
        simpa using this
      omega
    have least : ∀ i, i < n → listed.getD i true = false → ∃ j ∈ Region.ready .any ops listed, j < n := by
      intro i
      induction i using Nat.strongRecOn with
      | _ i ihi =>
        intro hi hu
        obtain ⟨o, d, hoi, _, ha, _⟩ := each i hi
        by_cases hall : ∀ e ∈ o.after, Region.binds .any e = true → listed.getD e.on false = true
        · exact ⟨i, mem_ready.2 ⟨hu, o, hoi, hall⟩, hi⟩
        · simp only [Classical.not_forall] at hall
          obtain ⟨e, he, hb, hl⟩ := hall
          have hlt := ha e he hb
          exact ihi e.on hlt (by omega) (getD_flip (by simpa using hl) (by rw [hg.head.size]; omega))
    obtain ⟨i1, hi1, hu1⟩ := some1
    obtain ⟨j1, hj1, _⟩ := least i1 hi1 hu1
    refine ⟨fun h0 => (by rw [h0] at hj1; cases hj1), fun i hi => ?_⟩
    have hin : i < n := by
      rcases Nat.lt_or_ge i n with h | h
      · exact h
      · exact absurd hi (tail_waits hs hc hn hg.head _ i1 rfl hi1 hu1 i h)
    obtain ⟨hui, oi, hoi, hall⟩ := mem_ready.1 hi
    obtain ⟨o, d, hoi', hd, ha, hap⟩ := each i hin
    obtain rfl := Option.some.inj (hoi.symm.trans hoi')
    have hdi : dstOf ops i = d := by simp [dstOf, hoi, hd]
    have hdz : d < A.tmps.size := by rw [hg.size, ← hdi]; exact hsz i hin
    have hy := step i oi hin hoi A w hg.low hg.other (fun e he hb => hg.has e.on (by have := ha e he hb; omega) (hall e he hb))
    have go : ∀ v w', V i v w' → Below w.heap.size w w' → wpAny P .any ops Q (f + (ops.size - n)) (listed.setIfInBounds i true) (A.put (some d) v) w' := fun v w' hv hb => by
      refine ih _ _ _ ⟨hg.head.set hi hin, hg.low.trans (hb.mono hg.low.size), by simp [Act.put, hg.size], hg.defers, fun k hk => ?_, fun j hj hl => ?_⟩ ?_
      · rw [eval_put _ _ _ _ (fun e => hk i hin (hdi.trans e.symm))]; exact hg.other k hk
      · by_cases hji : j = i
        · subst hji; rw [hdi, eval_put_same _ _ _ hdz]; exact hv
        · rw [eval_put _ _ _ _ (hap j hj hji)]
          rw [getD_set_ne false (Ne.symm hji)] at hl
          exact mono _ _ _ _ (hg.has j hj hl) hb
      · have hsz : i < listed.size := by rw [hg.head.size]; omega
        have hc2 := count_less (p := fun j => !listed.getD j true) (q := fun j => !(listed.setIfInBounds i true).getD j true) (i := i) (by simp only [hui]; rfl) (by
          rw [Array.getD_eq_getD_getElem?, Array.getElem?_setIfInBounds_self_of_lt hsz]; rfl) (fun j hj => by rw [getD_set_ne true (Ne.symm hj)]) (List.range n) List.nodup_range (List.mem_range.2 hin)
        omega
    unfold wpOp
    simp only [hoi]
    rcases hy with ⟨hwt, hy⟩ | ⟨hwt, hv⟩
    · rw [if_pos hwt]
      refine .inl (wp_of_yields hy fun v w' ⟨hv, hb⟩ => ?_)
      rw [hd]
      exact go v w' hv hb
    · rw [if_neg (by rw [hwt]; exact Bool.false_ne_true), hd]
      exact go undef w hv (Below.refl _ _)

end
/-- THE LAW with its slots and its words named. -/
theorem wp_flowG {P : Program} {Q : Exit → Act → World → Prop} {id : Nat} {l : List Oper} (ds : List Nat) (vl : List (Value → World → Prop)) {a0 : Act} {w : World} (hm : P.follows .mixedOrders = true) (hB : okG l.toArray ds.length = true)
    (hd : ((List.range ds.length).all fun i => dstOf l.toArray i == ds.getD i 0) = true) (hnd : ((List.range ds.length).all fun i => (List.range ds.length).all fun j => decide (j = i) || ds.getD j 0 != ds.getD i 0) = true) (hsz : (ds.all fun d => decide (d < a0.tmps.size)) = true) (mono : ∀ p ∈ vl, Mono p)
    (step : ∀ i o, i < ds.length → l[i]? = some o → ∀ (A : Act) (W : World), Below w.heap.size w W → (∀ k, (ds.all fun d => d != k) = true → A.tmps[k]?.getD undef = a0.tmps[k]?.getD undef) →
      (∀ j, (o.after.any fun e => e.on == j && Region.binds .any e) = true → pick vl j (A.tmps[ds.getD j 0]?.getD undef) W) →
      (Region.wanted o (yielded l.toArray A.tmps) = true ∧ Yields P (fun u W' => pick vl i u W' ∧ Below W.heap.size W W') ((execOp A.eval o).run P W)) ∨ (Region.wanted o (yielded l.toArray A.tmps) = false ∧ pick vl i undef W))
    (tail : ∀ (xs : Nat → Value) (W : World), Below w.heap.size w W → (∀ i, i < ds.length → pick vl i (xs i) W) → wpList P l.toArray Q (l.drop ds.length) (putL ds xs 0 a0) W) :
    (Code.region id l.toArray true).wp P Q a0 w := by
  have hdst : ∀ i, i < ds.length → dstOf l.toArray i = ds.getD i 0 := fun i hi => by simpa using List.all_eq_true.1 hd i (List.mem_range.2 hi)
  have hmem : ∀ i, i < ds.length → ds.getD i 0 ∈ ds := fun i hi => by rw [List.getD_eq_getElem?_getD, List.getElem?_eq_getElem hi]; exact List.getElem_mem hi
  have hap : ∀ i, i < ds.length → ∀ j, j < ds.length → j ≠ i → dstOf l.toArray j ≠ dstOf l.toArray i := fun i hi j hj hji e => by
    rw [hdst i hi, hdst j hj] at e
    have h := List.all_eq_true.1 (List.all_eq_true.1 hnd i (List.mem_range.2 hi)) j (List.mem_range.2 hj)
    rw [e] at h
    simp [hji] at h
  have hsz' : ∀ i, i < ds.length → dstOf l.toArray i < a0.tmps.size := fun i hi => by
    rw [hdst i hi]; simpa using List.all_eq_true.1 hsz _ (hmem i hi)
  have hB2 := hB
  simp only [okG, Bool.and_eq_true, decide_eq_true_eq] at hB2
  have hn := hB2.1.1.1.1
  refine wp_region_any hm ?_
  have inv0 : HeadInv .any l.toArray ds.length (Array.replicate l.toArray.size false) :=
    ⟨by simp, fun j oj _ hl => (by rw [getD_replicate_false] at hl; cases hl), fun t _ ht => getD_in (by simpa using ht) (getD_replicate_false _ _)⟩
  have c0 : (List.range ds.length).countP (fun j => !(Array.replicate l.toArray.size false).getD j true) = ds.length := by
    have : ∀ j ∈ List.range ds.length, (!(Array.replicate l.toArray.size false).getD j true) = true := fun j hj => by
      rw [getD_in (by have := List.mem_range.1 hj; simp at hn ⊢; omega) (getD_replicate_false _ _)]; rfl
    rw [List.countP_eq_length.2 this, List.length_range]
  have H := any_of_flowG (P := P) (Q := Q) (ops := l.toArray) (W0 := w.drew) (V := pick vl) (a0 := a0) hB hsz' (pick_mono mono) (fun i o hi ho A W hW hk he => by
      refine step i o hi (by simpa using ho) A W ((Below.refl _ w).drew.trans hW) (fun k hkk => ?_) (fun j hj => ?_)
      · rw [← eval_form, ← eval_form]
        refine hk k fun i hi e => ?_
        rw [hdst i hi] at e
        have := List.all_eq_true.1 hkk _ (hmem i hi)
        rw [e] at this
        simp at this
      · have h := edge (P := fun j => pick vl j (A.eval (.tmp (dstOf l.toArray j))) W) he j hj
        rw [eval_form] at h
        have hlt : j < ds.length := by
          have h2 := List.all_eq_true.1 hB2.2 i (List.mem_range.2 hi)
          rw [show l.toArray[i]? = some o by simpa using ho] at h2
          simp only [Bool.and_eq_true] at h2
          obtain ⟨e, hm, hb⟩ := Array.any_eq_true'.1 hj
          simp only [Bool.and_eq_true, beq_iff_eq] at hb
          have := Array.all_eq_true'.1 h2.1.2 e hm
          simp [hb.2] at this
          omega
        rw [hdst j hlt] at h
        exact h)
    (fun A W hs hd' hW hk hV => by
      have e : A = putL ds (fun i => A.eval (.tmp (dstOf l.toArray i))) 0 a0 := by
        rw [putL_eq l.toArray _ ds 0 a0 (fun i hi => by rw [Nat.zero_add]; exact hdst i hi), ← List.range_eq_range']
        refine act_ext (by rw [putAll_size, hs]) (by rw [putAll_defers, hd']) fun k => ?_
        by_cases h : ∃ i, i < ds.length ∧ dstOf l.toArray i = k
        · obtain ⟨i, hi, rfl⟩ := h
          rw [putAll_same _ _ _ List.nodup_range (fun i hi j hj => hap i (List.mem_range.1 hi) j (List.mem_range.1 hj)) (fun i hi => hsz' i (List.mem_range.1 hi)) i (List.mem_range.2 hi)]
        · have h' : ∀ i, i < ds.length → dstOf l.toArray i ≠ k := fun i hi e => h ⟨i, hi, e⟩
          rw [putAll_other _ _ _ _ (fun i hi => h' i (List.mem_range.1 hi)), hk k h']
      have ht := tail (fun i => A.eval (.tmp (dstOf l.toArray i))) W ((Below.refl _ w).drew.trans hW) hV
      rw [← e] at ht
      simpa using ht)
    ds.length (Array.replicate l.toArray.size false) a0 w.drew ⟨inv0, Below.refl _ _, rfl, rfl, fun _ _ => rfl, fun i _ hl => (by rw [getD_replicate_false] at hl; cases hl)⟩ c0
  rw [show ds.length + (l.toArray.size - ds.length) = l.toArray.size by omega] at H
  exact H
theorem yielded_of {ops : Array Oper} {t : Array Value} {j d : Nat} {b : Bool} (hd : (ops[j]?).bind (·.dst) = some d) (hv : t[d]?.getD undef = .bool b) : yielded ops t j = some b := by
  unfold yielded
  rw [hd]
  cases h : t[d]? with
  | none => rw [h] at hv; simp [undef] at hv
  | some v => rw [h] at hv; simp only [Option.getD_some] at hv; subst hv; simp [h]
theorem wanted_yes {ops : Array Oper} {o : Oper} {A : Act} {j d : Nat} {b : Bool} (hg : o.guard = some (j, b)) (hd : (ops[j]?).bind (·.dst) = some d) (hv : A.tmps[d]?.getD undef = .bool b) : Region.wanted o (yielded ops A.tmps) = true := by
  unfold Region.wanted
  rw [hg]
  simp [yielded_of hd hv]
theorem wanted_no {ops : Array Oper} {o : Oper} {A : Act} {j d : Nat} {b : Bool} (hg : o.guard = some (j, b)) (hd : (ops[j]?).bind (·.dst) = some d) (hv : A.tmps[d]?.getD undef = .bool (!b)) : Region.wanted o (yielded ops A.tmps) = false := by
  unfold Region.wanted
  rw [hg]
  simp [yielded_of hd hv]
theorem wanted_free {ops : Array Oper} {o : Oper} {A : Act} (hg : o.guard = none) : Region.wanted o (yielded ops A.tmps) = true := by
  unfold Region.wanted
  rw [hg]
end Go.Proofs.Ytgkgpehjedmejaa.Flow
