/- A region that draws its order, all its operations, over one invariant of what has come up, what came out and the world. -/
import Derived.Test.YtanbkclomjbokaaFlowM
namespace Go.Proofs.Ytanbkclomjbokaa.Flow
open Go.RowKit Go.Proofs.Ytanbkclomjbokaa.Mem

def valsD (ds : List (Option Nat)) (A : Act) (i : Nat) : Value := match slotAt ds i with
  | some d => A.eval (.tmp d)
  | none => undef
def setB1 (d : Nat → Bool) (i : Nat) : Nat → Bool := fun k => d k || k == i
def setX1 (xs : Nat → Value) (i : Nat) (u : Value) : Nat → Value := fun k => if k = i then u else xs k
def okD (ops : Array Oper) (ds : List (Option Nat)) : Bool := okM ops ds [] []
section
variable {P : Program} {ops : Array Oper} {ds : List (Option Nat)} {Inv : (Nat → Bool) → (Nat → Value) → World → Prop} {a0 : Act} {Q : Exit → Act → World → Prop}
theorem valsD_put (hB : OkM ops ds [] []) {A : Act} {i : Nat} {v : Value} (hi : i < ops.size) (hsz : ∀ d, slotAt ds i = some d → d < A.tmps.size) :
    valsD ds (A.put (slotAt ds i) v) = setX1 (valsD ds A) i (if (ds.getD i none).isSome then v else undef) := by
  funext k
  unfold setX1
  by_cases e : k = i
  · subst e
    rw [if_pos rfl]
    unfold valsD
    cases h : slotAt ds k with
    | none =>
      have h' : ds.getD k none = none := h
      rw [h']; rfl
    | some d =>
      have h' : ds.getD k none = some d := h
      simp only [h', Option.isSome_some, if_true]
      exact eval_put_same _ _ _ (hsz d h)
  · rw [if_neg e]
    unfold valsD
    cases h : slotAt ds k with
    | none => rfl
    | some d =>
      have hk : k < ops.size := by
        rcases Nat.lt_or_ge k ds.length with h2 | h2
        · rw [← hB.len]; exact h2
        · have : slotAt ds k = none := by unfold slotAt; rw [List.getD_eq_getElem?_getD, List.getElem?_eq_none h2]; rfl
          rw [this] at h; cases h
      simp only
      exact eval_putO _ _ _ _ (fun e2 => hB.apart k i hk hi (fun e3 => e e3.symm) (by rw [h]; exact fun h => by cases h) (by rw [e2, h]))
theorem any_of_flowD (hB : OkM ops ds [] []) (hsz : ∀ a d, a < ops.size → slotAt ds a = some d → d < a0.tmps.size)
    (step : ∀ i o, i < ops.size → ops[i]? = some o → ∀ (d : Nat → Bool) (A : Act) (W : World), d i = false → (∀ k, (o.after.any fun e => e.on == k && Region.binds .any e) = true → d k = true) → Inv d (valsD ds A) W →
      (∀ k, (∀ i, i < ops.size → slotAt ds i ≠ some k) → A.eval (.tmp k) = a0.eval (.tmp k)) →
      (Region.wanted o (yielded ops A.tmps) = true ∧ YieldsW P (fun u W' => Inv (setB1 d i) (setX1 (valsD ds A) i (if (ds.getD i none).isSome then u else undef)) W') ((execOp A.eval o).run P W)))
    (tail : ∀ (d : Nat → Bool) (xs : Nat → Value) (W : World), (∀ i, i < ops.size → d i = true) → Inv d xs W → Q .normal (putM ds xs 0 a0) W) :
    ∀ (f : Nat) (listed : Array Bool) (A : Act) (w : World), listed.size = ops.size → GoingM ops ds [] [] (fun _ _ => True) a0 0 (fun i => listed.getD i false) 0 A w → Inv (fun i => listed.getD i false) (valsD ds A) w →
      (List.range ops.size).countP (fun j => !listed.getD j true) = f → wpAny P .any ops Q f listed A w := by
  have fin : ∀ (listed : Array Bool) (A : Act) (w : World), GoingM ops ds [] [] (fun _ _ => True) a0 0 (fun i => listed.getD i false) 0 A w → Inv (fun i => listed.getD i false) (valsD ds A) w → (∀ i, i < ops.size → listed.getD i false = true) → Q .normal A w := by
    intro listed A w hg hI hall
    obtain ⟨_, e⟩ := hg.all hB.len hall hB.apart hsz (fun m h => by cases h)
    have ht := tail _ _ w hall hI
    have e2 : putM ds (valsD ds A) 0 a0 = A := e.symm
    rwa [e2] at ht
  intro f
  induction f with
  | zero =>
    intro listed A w hls hg hI hcount
    have all : ∀ i, i < ops.size → listed.getD i false = true := fun i hi => by
      have := List.countP_eq_zero.1 hcount i (List.mem_range.2 hi)
      have : ¬ listed.getD i true = false := by simpa using this
      exact getD_yes this (by omega)
    refine ⟨?_, fin listed A w hg hI all⟩
    rw [List.eq_nil_iff_forall_not_mem]
    intro i hi
    obtain ⟨hu, o, ho, _⟩ := mem_ready.1 hi
    have hio : i < ops.size := (Array.getElem?_eq_some_iff.1 ho).1
    have h1 := all i hio
    rw [getD_flip2 hu h1] at h1
    cases h1
  | succ f ih =>
    intro listed A w hls hg hI hcount
    have least : ∀ i, i < ops.size → listed.getD i true = false → ∃ k, k ∈ Region.ready .any ops listed := by
      intro i
      induction i using Nat.strongRecOn with
      | _ i ihi =>
        intro hi hu
        obtain ⟨o, hoi⟩ : ∃ o, ops[i]? = some o := ⟨_, Array.getElem?_eq_getElem hi⟩
        by_cases hall : ∀ e ∈ o.after, Region.binds .any e = true → listed.getD e.on false = true
        · exact ⟨i, mem_ready.2 ⟨hu, o, hoi, hall⟩⟩
        · simp only [Classical.not_forall] at hall
          obtain ⟨e, he, hb, hl⟩ := hall
          have hlt := hB.back i o hoi e he hb
          exact ihi e.on hlt (by omega) (getD_flip (by simpa using hl) (by omega))
    refine ⟨fun h0 => ?_, fun i hi => ?_⟩
    · exfalso
      have : (List.range ops.size).countP (fun j => !listed.getD j true) = 0 := by
        rw [List.countP_eq_zero]
        intro k hk
        intro hk2
        obtain ⟨k', hk'⟩ := least k (List.mem_range.1 hk) (by simpa using hk2)
        rw [h0] at hk'
        cases hk'
      omega
    obtain ⟨hui, o, hoi, hall⟩ := mem_ready.1 hi
    have hin : i < ops.size := (Array.getElem?_eq_some_iff.1 hoi).1
    have huf : listed.getD i false = false := getD_flop hui (by omega)
    have hdone : ∀ k, (listed.setIfInBounds i true).getD k false = (listed.getD k false || k == i) := fun k => by
      by_cases e : k = i
      · subst e
        rw [Array.getD_eq_getD_getElem?, Array.getElem?_setIfInBounds_self_of_lt (by omega)]; simp
      · rw [getD_set_ne false (Ne.symm e)]; simp [e]
    have hcnt : (List.range ops.size).countP (fun k => !(listed.setIfInBounds i true).getD k true) = f := by
      have hc2 := count_less (p := fun j => !listed.getD j true) (q := fun j => !(listed.setIfInBounds i true).getD j true) (i := i) (by simp only [hui]; rfl) (by
        rw [Array.getD_eq_getD_getElem?, Array.getElem?_setIfInBounds_self_of_lt (by omega)]; rfl) (fun j hj => by rw [getD_set_ne true (Ne.symm hj)]) (List.range ops.size) List.nodup_range (List.mem_range.2 hin)
      omega
    unfold wpOp
    simp only [hoi]
    obtain ⟨hwt, hy⟩ := step i o hin hoi (fun k => listed.getD k false) A w huf (fun k hk => by
      obtain ⟨e, he, h2⟩ := Array.any_eq_true'.1 hk
      simp only [Bool.and_eq_true, beq_iff_eq] at h2
      obtain ⟨rfl, hb⟩ := h2
      exact hall e he hb) hI hg.other
    rw [if_pos hwt]
    refine .inl (wp_of_yieldsW hy fun v w' hI' => ?_)
    rw [hB.slot i o hoi]
    have hd2 : (fun k => (listed.setIfInBounds i true).getD k false) = setB1 (fun k => listed.getD k false) i := funext hdone
    refine ih _ _ _ (by simpa using hls) ?_ ?_ hcnt
    · refine ⟨by rw [put_size]; exact hg.size, by rw [put_defers]; exact hg.defers, Nat.zero_le _, trivial, fun k hk => ?_, fun a d _ _ _ => by unfold pick; simp, fun m h => (by cases h), Nat.zero_le _⟩
      rw [eval_putO _ _ _ _ (hk i hin)]; exact hg.other k hk
    · rw [hd2, valsD_put hB hin (fun d hd => by rw [hg.size]; exact hsz i d hin hd)]
      exact hI'
end
/-- THE LAW. -/
theorem wp_flowD {P : Program} {Q : Exit → Act → World → Prop} {id : Nat} {l : List Oper} (ds : List (Option Nat)) (Inv : (Nat → Bool) → (Nat → Value) → World → Prop) {a0 : Act} {w : World}
    (hm : P.follows .mixedOrders = true) (hB : okM l.toArray ds [] (ds.map fun _ => 0) = true) (hsz : (ds.all fun d => match d with | some d => decide (d < a0.tmps.size) | none => true) = true)
    (h0 : ∀ xs, Inv (fun _ => false) xs w.drew)
    (step : ∀ i o, i < l.length → l[i]? = some o → ∀ (d : Nat → Bool) (A : Act) (W : World), d i = false → (∀ k, (o.after.any fun e => e.on == k && Region.binds .any e) = true → d k = true) → Inv d (valsD ds A) W →
      (∀ k, (ds.all fun d => d != some k) = true → A.tmps[k]?.getD undef = a0.tmps[k]?.getD undef) →
      (Region.wanted o (yielded l.toArray A.tmps) = true ∧ YieldsW P (fun u W' => Inv (setB1 d i) (setX1 (valsD ds A) i (if (ds.getD i none).isSome then u else undef)) W') ((execOp A.eval o).run P W)))
    (tail : ∀ (d : Nat → Bool) (xs : Nat → Value) (W : World), (∀ i, i < l.length → d i = true) → Inv d xs W → Q .normal (putM ds xs 0 a0) W) :
    (Code.region id l.toArray true).wp P Q a0 w := by
  have HB0 := okM_out hB
  have HB : OkM l.toArray ds [] [] := ⟨HB0.len, HB0.slot, HB0.back, HB0.apart, HB0.once, HB0.chain, fun i _ _ => .inl (Nat.zero_le _)⟩
  have hsl := slot_in (n := l.toArray.size) HB.len hsz
  refine wp_region_any hm ?_
  refine any_of_flowD (Inv := Inv) HB hsl (fun i o hi ho d A W hd hk hI hs => step i o (by simpa using hi) (by simpa using ho) d A W hd hk hI (slots_of HB.len hs)) (fun d xs W hd hI => tail d xs W (fun i hi => hd i (by simpa using hi)) hI) _ _ _ _ (by simp) ?_ ?_ ?_
  · exact ⟨rfl, rfl, Nat.zero_le _, trivial, fun _ _ => rfl, fun i d _ hl => (by rw [getD_replicate_false] at hl; cases hl), fun m h => (by cases h), Nat.zero_le _⟩
  · rw [show (fun i => (Array.replicate l.toArray.size false).getD i false) = fun _ => false from funext fun i => getD_replicate_false _ _]
    exact h0 _
  · have : ∀ j ∈ List.range l.toArray.size, (!(Array.replicate l.toArray.size false).getD j true) = true := fun j hj => by
      rw [getD_in (by have := List.mem_range.1 hj; simp at this ⊢; omega) (getD_replicate_false _ _)]; rfl
    rw [List.countP_eq_length.2 this, List.length_range]
end Go.Proofs.Ytanbkclomjbokaa.Flow
