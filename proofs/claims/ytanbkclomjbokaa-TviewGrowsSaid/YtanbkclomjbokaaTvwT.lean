/- Layer 13 (tview): what the document says of views is what the program says, where no time is below 0. -/
import Derived.Test.YtanbkclomjbokaaTvwN
namespace Go.Proofs.Ytanbkclomjbokaa.Tvw
open Go.Proofs.Ytanbkclomjbokaa.Vew

/-- No time is below 0. -/
def NnF (n : Nat) (f : Nat → Int) : Prop := ∀ i, i < n → 0 ≤ f i
def NnV (V : Nat → Nat → Int) : Prop := ∀ k, k < 6 → NnF 8 (V k)
theorem nn_max {f g : Nat → Int} (h : NnF 8 f) : NnF 8 (maxF f g) := fun i hi => by have := h i hi; rw [max_at]; omega
theorem nn_max2 {f g : Nat → Int} (h : NnF 8 g) : NnF 8 (maxF f g) := fun i hi => by have := h i hi; rw [max_at]; omega
theorem nn_set {V : Nat → Nat → Int} (h : NnV V) (k : Nat) {f : Nat → Int} (hf : NnF 8 f) : NnV (setV V k f) := fun j hj => by
  unfold setV
  split
  · exact hf
  · exact h j hj
theorem at_in {l : Nat} {tt : Int} {p : Bool} (hl : l < 4) (ht : 0 ≤ tt) (i : Nat) : atF l tt p i = if i = l + 4 ∨ (p = true ∧ i = l) then tt else 0 := by
  unfold atF
  refine ite_congr (propext ⟨fun ⟨_, _, _, h⟩ => ?_, fun h => ⟨by omega, by omega, ht, ?_⟩⟩) (fun _ => rfl) (fun _ => rfl)
  · rcases h with h | ⟨hp, h⟩
    · exact .inl (by omega)
    · exact .inr ⟨hp, by omega⟩
  · rcases h with h | ⟨hp, h⟩
    · exact .inl (by omega)
    · exact .inr ⟨hp, by omega⟩
theorem know1_at (f : Nat → Int) (l : Nat) (tt : Int) (i : Nat) : know1 f l tt i = if i = l + 4 then max (f i) tt else f i := by
  unfold know1
  by_cases h : f (l + 4) < tt
  · rw [if_pos h]
    show (if i = l + 4 then tt else f i) = _
    by_cases e : i = l + 4
    · rw [if_pos e, if_pos e, e]; omega
    · rw [if_neg e, if_neg e]
  · rw [if_neg h]
    by_cases e : i = l + 4
    · rw [if_pos e, e]; omega
    · rw [if_neg e]
theorem knows_eq (f : Nat → Int) (l : Nat) (tt : Int) (p : Bool) (i : Nat) : knowsF f l tt p i = if p = true ∧ i = l then max (f i) tt else know1 f l tt i := by
  unfold knowsF
  cases p
  · simp
  · simp only [Bool.true_and, decide_eq_true_eq, true_and]
    by_cases h : f l < tt
    · rw [if_pos h]
      show (if i = l then tt else know1 f l tt i) = _
      by_cases e : i = l
      · rw [if_pos e, if_pos e, e]; omega
      · rw [if_neg e, if_neg e]
    · rw [if_neg h]
      by_cases e : i = l
      · rw [if_pos e, e, know1_l]; omega
      · rw [if_neg e]
theorem nn_at {l : Int} {tt : Int} {p : Bool} (ht : 0 ≤ tt) : NnF 8 (atF l tt p) := fun i _ => by unfold atF; split <;> omega
theorem knows_at {f : Nat → Int} (h : NnF 8 f) {l : Nat} (hl : l < 4) {tt : Int} (ht : 0 ≤ tt) (p : Bool) (i : Nat) (hi : i < 8) : knowsF f l tt p i = maxF f (atF l tt p) i := by
  have hf := h i hi
  rw [max_at, at_in hl ht, knows_eq, know1_at]
  by_cases e2 : p = true ∧ i = l
  · rw [if_pos e2, if_pos (.inr e2)]
  · rw [if_neg e2]
    by_cases e : i = l + 4
    · rw [if_pos e, if_pos (.inl e)]
    · rw [if_neg e, if_neg (by rintro (h | h); exact e h; exact e2 h)]; omega
theorem low_out {loc tt : Int} (h : lowT loc tt = true) : ∃ l : Nat, loc = (l : Int) ∧ l < 4 ∧ 0 ≤ tt := by
  simp only [lowT, Bool.and_eq_true, decide_eq_true_eq] at h
  exact ⟨loc.toNat, by omega, by omega, h.2⟩
theorem readOk_low {V : Nat → Nat → Int} {loc tt mo : Int} (h : readOk V loc tt mo = true) : lowT loc tt = true ∧ (mo = 1 ∨ mo = 2 ∨ mo = 3) := by
  unfold readOk at h
  simp only [Bool.and_eq_true, Bool.or_eq_true, decide_eq_true_eq] at h
  exact ⟨h.1, by omega⟩
theorem writeOk_low {V : Nat → Nat → Int} {loc tt mo : Int} (h : writeOk V loc tt mo = true) : lowT loc tt = true ∧ (mo = 1 ∨ mo = 2 ∨ mo = 4) ∧ V 0 (loc.toNat + 4) < tt := by
  unfold writeOk at h
  simp only [Bool.and_eq_true, Bool.or_eq_true, decide_eq_true_eq] at h
  exact ⟨h.1.1, by omega, h.2⟩
/-- The document's Read is the program's. -/
theorem read_same {V : Nat → Nat → Int} (hV : NnV V) (loc tt mo : Int) (m : Nat → Int) : vsC (dreadV V loc tt mo m) = vsC (readV V loc tt mo m) := by
  unfold dreadV readV
  cases h : readOk V loc tt mo with
  | false => rfl
  | true =>
    obtain ⟨hl, hm⟩ := readOk_low h
    obtain ⟨l, rfl, hl4, ht⟩ := low_out hl
    refine vsC_congr fun j i hj hi => ?_
    have e : (l : Int).toNat = l := by omega
    rw [e]
    have k0 := fun p => knows_at (hV 0 (by omega)) hl4 ht p i hi
    have k1 := fun p => knows_at (hV 1 (by omega)) hl4 ht p i hi
    unfold dreadF readF learnF
    rcases hm with rfl | rfl | rfl
    · simp only [setV, if_true, decide_true, Bool.not_true, Bool.false_eq_true, if_false, Int.reduceEq, decide_false]
      split
      · exact k1 _
      · split
        · exact k0 _
        · rfl
    · simp only [setV, if_true, Int.reduceEq, decide_false, Bool.not_false, Bool.false_eq_true, if_false]
      split
      · rw [max_at, k1, max_at (maxF _ _)]
      · split
        · exact k0 _
        · rfl
    · simp only [setV, if_true, Int.reduceEq, decide_false, decide_true, Bool.not_false, if_false]
      split
      · rw [max_at, k1, max_at (maxF _ _)]
      · split
        · rw [max_at, k0, max_at (maxF _ _)]
        · rfl
theorem rel_same {V : Nat → Nat → Int} (hV : NnV V) {l : Nat} (hl : l < 4) {tt : Int} (ht : 0 ≤ tt) (mo : Int) (i : Nat) (hi : i < 8) : dwV V l tt mo (l + 2) i = relN V l tt mo i := by
  have k2 := knows_at (hV (l + 2) (by omega)) hl ht true i hi
  have k0 := knows_at (hV 0 (by omega)) hl ht true i hi
  unfold dwV relN
  by_cases h4 : mo = 4
  · rw [if_pos h4, if_pos h4, setV_same, max_at, max_at]
    have e2 : dwU V l tt (l + 2) = knowsF (V (l + 2)) l tt true := by unfold dwU; rw [setV_same]
    have e0 : dwU V l tt 0 = knowsF (V 0) l tt true := by unfold dwU; rw [setV_other _ _ _ _ (by omega), setV_other _ _ _ _ (by omega), setV_same]
    rw [e2, e0, k2, k0]
    simp only [max_at]
    omega
  · rw [if_neg h4, if_neg h4]
    have e2 : dwU V l tt (l + 2) = knowsF (V (l + 2)) l tt true := by unfold dwU; rw [setV_same]
    rw [e2, k2]
theorem write_same {V : Nat → Nat → Int} (hV : NnV V) (loc tt mo : Int) : vsC (dwriteV V loc tt mo) = vsC (writeV V loc tt mo) := by
  unfold dwriteV writeV
  cases h : writeOk V loc tt mo with
  | false => rfl
  | true =>
    obtain ⟨hl, _, _⟩ := writeOk_low h
    obtain ⟨l, rfl, hl4, ht⟩ := low_out hl
    refine vsC_congr fun j i hj hi => ?_
    have e : (l : Int).toNat = l := by omega
    rw [e]
    by_cases hj2 : j = l + 2
    · subst hj2
      simp only [if_true]
      rw [rel_same hV hl4 ht mo i hi]
      unfold writeF
      rw [setV_same]
    · have hd : dwV V l tt mo j = dwU V l tt j := by
        unfold dwV
        split
        · rw [setV_other _ _ _ _ hj2]
        · rfl
      simp only [if_true, hd]
      unfold dwU writeF
      rw [setV_other _ _ _ _ hj2, setV_other _ _ _ _ hj2]
      simp only [setV]
      split
      · exact knows_at (hV 1 (by omega)) hl4 ht true i hi
      · split
        · exact knows_at (hV 0 (by omega)) hl4 ht true i hi
        · rfl
theorem msg_same {V : Nat → Nat → Int} (hV : NnV V) (loc tt mo : Int) (m : Nat → Int) : vwC (dwriteM V loc tt mo m) = vwC (writeM V loc tt mo m) := by
  unfold dwriteM writeM
  cases h : writeOk V loc tt mo with
  | false => rfl
  | true =>
    obtain ⟨hl, _, _⟩ := writeOk_low h
    obtain ⟨l, rfl, hl4, ht⟩ := low_out hl
    have e : (l : Int).toNat = l := by omega
    rw [e]
    refine vwC_congr fun i hi => ?_
    split
    · rw [max_at, max_at, rel_same hV hl4 ht mo i hi]
    · rfl
theorem nn_read {V : Nat → Nat → Int} (hV : NnV V) (loc tt mo : Int) (m : Nat → Int) : NnV (readV V loc tt mo m) := by
  unfold readV
  split
  · unfold readF learnF
    refine nn_set (nn_set hV 0 ?_) 1 ?_
    · split
      · exact nn_max (nn_max (hV 0 (by omega)))
      · exact nn_max (hV 0 (by omega))
    · split
      · exact nn_max (nn_max (hV 1 (by omega)))
      · exact nn_max (hV 1 (by omega))
  · exact hV
theorem nn_write {V : Nat → Nat → Int} (hV : NnV V) (loc tt mo : Int) : NnV (writeV V loc tt mo) := by
  unfold writeV
  cases h : writeOk V loc tt mo with
  | false => exact hV
  | true =>
    obtain ⟨hl, _, _⟩ := writeOk_low h
    obtain ⟨l, rfl, hl4, ht⟩ := low_out hl
    simp only [if_true]
    unfold writeF relN
    refine nn_set (nn_set (nn_set hV 0 (nn_max (hV 0 (by omega)))) 1 (nn_max (hV 1 (by omega)))) _ ?_
    split
    · exact nn_max (nn_max (hV _ (by omega)))
    · exact nn_max (hV _ (by omega))
theorem nn_acq {V : Nat → Nat → Int} (hV : NnV V) : NnV (acqV V) := nn_set hV 0 (nn_max (hV 1 (by omega)))
theorem nn_rel {V : Nat → Nat → Int} (hV : NnV V) : NnV (relV V) := fun k hk => by
  unfold relV
  split
  · exact nn_max (hV k hk)
  · exact hV k hk
theorem nn_fence {V : Nat → Nat → Int} (hV : NnV V) (S : Nat → Int) (mo : Int) : NnV (fenceV V S mo) := by
  unfold fenceV
  split
  · exact nn_acq hV
  · split
    · exact nn_rel hV
    · split
      · exact nn_rel (nn_acq hV)
      · split
        · exact fun k hk => nn_max (nn_rel (nn_acq hV) k hk)
        · exact hV
end Go.Proofs.Ytanbkclomjbokaa.Tvw
