/- The law of XFlowG for a region that keeps its order: the same text serves both. -/
import Derived.Test.YtanbkclomjbokaaFlowG
import Derived.LoopN
namespace Go.Proofs.Ytanbkclomjbokaa.Flow
open Go.RowKit Go.Proofs.Ytanbkclomjbokaa.Mem

def okQ (ops : Array Oper) (n : Nat) : Bool :=
  (List.range n).all fun i => match ops[i]? with
    | some o => o.dst.isSome
    | none => false
theorem wp_flowQ {P : Program} {Q : Exit → Act → World → Prop} {id : Nat} {l : List Oper} (ds : List Nat) (vl : List (Value → World → Prop)) {a0 : Act} {w : World} (_hm : P.follows .mixedOrders = true) (hB : okQ l.toArray ds.length = true)
    (hd : ((List.range ds.length).all fun i => dstOf l.toArray i == ds.getD i 0) = true) (hnd : ((List.range ds.length).all fun i => (List.range ds.length).all fun j => decide (j = i) || ds.getD j 0 != ds.getD i 0) = true) (hsz : (ds.all fun d => decide (d < a0.tmps.size)) = true) (mono : ∀ p ∈ vl, Mono p)
    (step : ∀ i o, i < ds.length → l[i]? = some o → ∀ (A : Act) (W : World), Below w.heap.size w W → (∀ k, (ds.all fun d => d != k) = true → A.tmps[k]?.getD undef = a0.tmps[k]?.getD undef) →
      (∀ j, decide (j < i) = true → pick vl j (A.tmps[ds.getD j 0]?.getD undef) W) →
      (Region.wanted o (yielded l.toArray A.tmps) = true ∧ Yields P (fun u W' => pick vl i u W' ∧ Below W.heap.size W W') ((execOp A.eval o).run P W)) ∨ (Region.wanted o (yielded l.toArray A.tmps) = false ∧ pick vl i undef W))
    (tail : ∀ (xs : Nat → Value) (W : World), Below w.heap.size w W → (∀ i, i < ds.length → pick vl i (xs i) W) → wpList P l.toArray Q (l.drop ds.length) (putL ds xs 0 a0) W) :
    (Code.region id l.toArray false).wp P Q a0 w := by
  have hdst : ∀ i, i < ds.length → dstOf l.toArray i = ds.getD i 0 := fun i hi => by simpa using List.all_eq_true.1 hd i (List.mem_range.2 hi)
  have hmem : ∀ i, i < ds.length → ds.getD i 0 ∈ ds := fun i hi => by rw [List.getD_eq_getElem?_getD, List.getElem?_eq_getElem hi]; exact List.getElem_mem hi
  have hap : ∀ i, i < ds.length → ∀ j, j < ds.length → j ≠ i → ds.getD j 0 ≠ ds.getD i 0 := fun i hi j hj hji e => by
    have h := List.all_eq_true.1 (List.all_eq_true.1 hnd i (List.mem_range.2 hi)) j (List.mem_range.2 hj)
    rw [e] at h
    simp [hji] at h
  have hsz' : ∀ i, i < ds.length → ds.getD i 0 < a0.tmps.size := fun i hi => by simpa using List.all_eq_true.1 hsz _ (hmem i hi)
  have H : ∀ m i (A : Act) (W : World), i + m = ds.length → A.tmps.size = a0.tmps.size → A.defers = a0.defers → Below w.heap.size w W →
      (∀ k, (∀ j, j < i → ds.getD j 0 ≠ k) → A.eval (.tmp k) = a0.eval (.tmp k)) → (∀ j, j < i → pick vl j (A.eval (.tmp (ds.getD j 0))) W) → wpList P l.toArray Q (l.drop i) A W := by
    intro m
    induction m with
    | zero =>
      intro i A W hi hs hdf hW hk hV
      obtain rfl : i = ds.length := by omega
      have e : A = putL ds (fun i => A.eval (.tmp (ds.getD i 0))) 0 a0 := by
        rw [putL_eq l.toArray _ ds 0 a0 (fun i hi => by rw [Nat.zero_add]; exact hdst i hi), ← List.range_eq_range']
        refine act_ext (by rw [putAll_size, hs]) (by rw [putAll_defers, hdf]) fun k => ?_
        by_cases h : ∃ i, i < ds.length ∧ ds.getD i 0 = k
        · obtain ⟨i, hi, rfl⟩ := h
          rw [← hdst i hi, putAll_same _ _ _ List.nodup_range (fun i hi j hj hji => by
            rw [hdst j (List.mem_range.1 hj), hdst i (List.mem_range.1 hi)]; exact hap i (List.mem_range.1 hi) j (List.mem_range.1 hj) hji) (fun i hi => by
            rw [hdst i (List.mem_range.1 hi)]; exact hsz' i (List.mem_range.1 hi)) i (List.mem_range.2 hi), hdst i hi]
        · have h' : ∀ i, i < ds.length → ds.getD i 0 ≠ k := fun i hi e => h ⟨i, hi, e⟩
          rw [putAll_other _ _ _ _ (fun i hi => by rw [hdst i (List.mem_range.1 hi)]; exact h' i (List.mem_range.1 hi)), hk k h']
      have ht := tail (fun i => A.eval (.tmp (ds.getD i 0))) W hW hV
      rwa [← e] at ht
    | succ m ih =>
      intro i A W hi hs hdf hW hk hV
      have hin : i < ds.length := by omega
      have ho := List.all_eq_true.1 hB i (List.mem_range.2 hin)
      cases hoi : l.toArray[i]? with
      | none => rw [hoi] at ho; cases ho
      | some o =>
        rw [hoi] at ho
        obtain ⟨d, hdo⟩ := Option.isSome_iff_exists.1 ho
        have hoi' : l[i]? = some o := by simpa using hoi
        have hdd : d = ds.getD i 0 := by rw [← hdst i hin]; simp [dstOf, hoi', hdo]
        have hlt : i < l.length := (List.getElem?_eq_some_iff.1 hoi').1
        have hcons : l.drop i = o :: l.drop (i + 1) := by
          rw [List.drop_eq_getElem_cons hlt]
          congr 1
          exact (List.getElem?_eq_some_iff.1 hoi').2
        have hdz : d < A.tmps.size := by rw [hs, hdd]; exact hsz' i hin
        have hy := step i o hin hoi' A W hW (fun k hkk => by
          rw [← eval_form, ← eval_form]
          refine hk k fun j hj e => ?_
          have := List.all_eq_true.1 hkk _ (hmem j (by omega))
          rw [e] at this
          simp at this) (fun j hj => by
          rw [← eval_form]
          exact hV j (by simpa using hj))
        have go : ∀ v W', pick vl i v W' → Below W.heap.size W W' → wpList P l.toArray Q (l.drop (i + 1)) (A.put (some d) v) W' := fun v W' hv hb => by
          refine ih (i + 1) _ _ (by omega) (by simp [Act.put, hs]) hdf (hW.trans (hb.mono hW.size)) (fun k hkk => ?_) (fun j hj => ?_)
          · rw [eval_put _ _ _ _ (fun e => hkk i (by omega) (by rw [e, hdd]))]
            exact hk k fun j hj => hkk j (by omega)
          · by_cases hji : j = i
            · subst hji; rw [← hdd, eval_put_same _ _ _ hdz]; exact hv
            · rw [eval_put _ _ _ _ (by rw [hdd]; exact hap i hin j (by omega) hji)]
              exact pick_mono mono _ _ _ _ (hV j (by omega)) hb
        rw [hcons]
        refine wpList_step fun K hK => ?_
        rcases hy with ⟨hwt, hy⟩ | ⟨hwt, hv⟩
        · rw [if_pos hwt]
          refine wp_of_yields hy fun v W' ⟨hv, hb⟩ => ?_
          rw [hdo]
          exact hK _ _ (go v W' hv hb)
        · rw [if_neg (by rw [hwt]; exact Bool.false_ne_true), hdo]
          exact hK _ _ (go undef W hv (Below.refl _ _))
  exact wp_region_lit (by simpa using H ds.length 0 a0 w (by omega) rfl rfl (Below.refl _ _) (fun _ _ => rfl) (fun j hj => absurd hj (by omega)))
end Go.Proofs.Ytanbkclomjbokaa.Flow
