/- Layer 13 (tview): views that may be stay such, none knows less (plain). -/
import Derived.Test.YtanbkclomjbokaaTvwT
import Derived.Test.YtanbkclomjbokaaTvwO
namespace Go.Proofs.Ytanbkclomjbokaa.Tvw
open Go.Proofs.Ytanbkclomjbokaa.Vew

/-- Views that may be. -/
structure MayV (V : Nat → Nat → Int) : Prop where
  each : ∀ k, k < 6 → mayF (V k) = true
  acq : ∀ i, i < 8 → V 0 i ≤ V 1 i
  rel : ∀ k, 2 ≤ k → k < 6 → ∀ i, i < 8 → V k i ≤ V 0 i
theorem may6_of {V : Nat → Nat → Int} (h : MayV V) : may6F V = true := by
  unfold may6F
  rw [Bool.and_eq_true]
  refine ⟨?_, sameV_iff.2 fun k i hk hi => ?_⟩
  · unfold mayAll
    simp only [List.all_cons, List.all_nil, Bool.and_true, Bool.and_eq_true]
    exact ⟨h.each 0 (by omega), h.each 1 (by omega), h.each 2 (by omega), h.each 3 (by omega), h.each 4 (by omega), h.each 5 (by omega)⟩
  · unfold upV setV
    by_cases h1 : k = 1
    · subst h1
      rw [if_pos rfl, max_at]
      have := h.acq i hi
      omega
    · rw [if_neg h1]
      by_cases h0 : k = 0
      · subst h0
        rw [if_pos rfl]
        have a2 := h.rel 2 (by omega) (by omega) i hi
        have a3 := h.rel 3 (by omega) (by omega) i hi
        have a4 := h.rel 4 (by omega) (by omega) i hi
        have a5 := h.rel 5 (by omega) (by omega) i hi
        simp only [joins, List.foldl_cons, List.foldl_nil, max_at]
        omega
      · rw [if_neg h0]
theorem may_nn {f : Nat → Int} (h : mayF f = true) : NnF 8 f := fun i hi => (may_iff.1 h).1 i hi
theorem may_max {f g : Nat → Int} (hf : mayF f = true) (hg : mayF g = true) : mayF (maxF f g) = true := by
  rw [may_iff] at hf hg ⊢
  refine ⟨fun i hi => ?_, fun i hi => ?_⟩
  · have := hf.1 i hi; rw [max_at]; omega
  · have := hf.2 i hi; have := hg.2 i hi; rw [max_at, max_at]; omega
theorem may_at {loc tt : Int} (p : Bool) (ht : 0 ≤ tt) : mayF (atF loc tt p) = true := by
  rw [may_iff]
  refine ⟨fun i hi => nn_at ht i hi, fun i hi => ?_⟩
  unfold atF
  by_cases h1 : 0 ≤ loc ∧ loc < 4 ∧ 0 ≤ tt ∧ ((i : Int) = loc + 4 ∨ (p = true ∧ (i : Int) = loc))
  · have hi2 : (i : Int) = loc := by omega
    rw [if_pos h1, if_pos ⟨h1.1, h1.2.1, ht, .inl (by omega)⟩]
    exact Int.le_refl _
  · rw [if_neg h1]
    split
    · exact ht
    · exact Int.le_refl _
theorem may_zero : mayF zeroF = true := by decide
theorem may_flat {S : Nat → Int} (h : ∀ i, i < 4 → 0 ≤ S i) : mayF (flatF S) = true := by
  rw [may_iff]
  refine ⟨fun i _ => h _ (Nat.mod_lt _ (by omega)), fun i hi => ?_⟩
  unfold flatF
  rw [show (i + 4) % 4 = i % 4 by omega]
  exact Int.le_refl _
theorem mayV_zero : MayV zV := ⟨fun _ _ => may_zero, fun _ _ => Int.le_refl 0, fun _ _ _ _ _ => Int.le_refl 0⟩
theorem set_at (V : Nat → Nat → Int) (k : Nat) (f : Nat → Int) (j : Nat) : setV V k f j = if j = k then f else V j := rfl
section
variable (V : Nat → Nat → Int) (a b c : Nat → Int)
theorem one0 : setV V 0 a 0 = a := setV_same V 0 a
theorem one1 (k : Nat) (h : k ≠ 0) : setV V 0 a k = V k := setV_other V 0 k a h
theorem two0 : setV (setV V 0 a) 1 b 0 = a := by rw [setV_other _ _ _ _ (by omega), setV_same]
theorem two1 : setV (setV V 0 a) 1 b 1 = b := setV_same _ 1 b
theorem two2 (k : Nat) (h : 2 ≤ k) : setV (setV V 0 a) 1 b k = V k := by rw [setV_other _ _ _ _ (by omega), setV_other _ _ _ _ (by omega)]
theorem thr0 (l : Nat) : setV (setV (setV V 0 a) 1 b) (l + 2) c 0 = a := by rw [setV_other _ _ _ _ (by omega), two0]
theorem thr1 (l : Nat) : setV (setV (setV V 0 a) 1 b) (l + 2) c 1 = b := by rw [setV_other _ _ _ _ (by omega), two1]
theorem thr2 (l : Nat) : setV (setV (setV V 0 a) 1 b) (l + 2) c (l + 2) = c := setV_same _ _ c
theorem thr3 (l k : Nat) (h : 2 ≤ k) (hn : k ≠ l + 2) : setV (setV (setV V 0 a) 1 b) (l + 2) c k = V k := by rw [setV_other _ _ _ _ hn, two2 _ _ _ _ h]
end
/-- What is asked of one act. -/
structure Grows (V V' : Nat → Nat → Int) (S S' : Nat → Int) (ok : Bool) : Prop where
  may : MayV V'
  up : ∀ k, k < 6 → ∀ i, i < 8 → V k i ≤ V' k i
  times : ∀ i, i < 4 → S i ≤ S' i
  same : ok = false → V' = V ∧ S' = S
theorem grows_no {V : Nat → Nat → Int} (h : MayV V) (S : Nat → Int) (ok : Bool) : Grows V V S S ok := ⟨h, fun _ _ _ _ => Int.le_refl _, fun _ _ => Int.le_refl _, fun _ => ⟨rfl, rfl⟩⟩
theorem le_max {f g : Nat → Int} (i : Nat) : f i ≤ maxF f g i := by rw [max_at]; omega
theorem learn_may {f m : Nat → Int} {b s : Bool} {loc tt : Int} (hf : mayF f = true) (hm : mayF m = true) (ht : 0 ≤ tt) : mayF (learnF f m b s loc tt) = true := by
  unfold learnF
  split
  · exact may_max (may_max hf (may_at s ht)) hm
  · exact may_max hf (may_at s ht)
theorem learn_up {f m : Nat → Int} {b s : Bool} {loc tt : Int} (i : Nat) : f i ≤ learnF f m b s loc tt i := by
  unfold learnF
  split
  · exact Int.le_trans (le_max i) (le_max i)
  · exact le_max i
theorem grows_read {V : Nat → Nat → Int} (h : MayV V) (S : Nat → Int) (loc tt mo : Int) {m : Nat → Int} (hm : mayF m = true) : Grows V (readV V loc tt mo m) S S (readOk V loc tt mo) := by
  unfold readV
  cases ho : readOk V loc tt mo with
  | false => exact grows_no h S _
  | true =>
    obtain ⟨hl, h3⟩ := readOk_low ho
    obtain ⟨l, rfl, hl4, ht⟩ := low_out hl
    simp only [if_true]
    unfold readF
    generalize hs : (!decide (mo = 1)) = s
    generalize ha : decide (mo = 3) = a
    have hsa : a = true → s = true := by
      intro e
      rw [← ha] at e; rw [← hs]
      have := of_decide_eq_true e
      subst this
      decide
    have cases6 : ∀ k, k = 0 ∨ k = 1 ∨ 2 ≤ k := fun k => by omega
    refine ⟨⟨fun k hk => ?_, fun i hi => ?_, fun k h2 hk i hi => ?_⟩, fun k hk i hi => ?_, fun _ _ => Int.le_refl _, fun e => by cases e⟩
    · rcases cases6 k with rfl | rfl | h2
      · rw [two0]; exact learn_may (h.each 0 (by omega)) hm ht
      · rw [two1]; exact learn_may (h.each 1 (by omega)) hm ht
      · rw [two2 _ _ _ _ h2]; exact h.each k hk
    · have := h.acq i hi
      rw [two0, two1]
      unfold learnF
      cases a
      · cases s
        · simp only [Bool.false_eq_true, if_false, max_at]; omega
        · simp only [Bool.false_eq_true, if_false, if_true, max_at]; omega
      · rw [hsa rfl]
        simp only [if_true, max_at]; omega
    · have := h.rel k h2 hk i hi
      rw [two0, two2 _ _ _ _ h2]
      exact Int.le_trans this (learn_up i)
    · rcases cases6 k with rfl | rfl | h2
      · rw [two0]; exact learn_up i
      · rw [two1]; exact learn_up i
      · rw [two2 _ _ _ _ h2]; exact Int.le_refl _
theorem grows_write {V : Nat → Nat → Int} (h : MayV V) (S : Nat → Int) (loc tt mo : Int) : Grows V (writeV V loc tt mo) S S (writeOk V loc tt mo) := by
  unfold writeV
  cases ho : writeOk V loc tt mo with
  | false => exact grows_no h S _
  | true =>
    obtain ⟨hl, _, _⟩ := writeOk_low ho
    obtain ⟨l, rfl, hl4, ht⟩ := low_out hl
    have e : (l : Int).toNat = l := by omega
    simp only [if_true, e]
    have ma := may_at (loc := (l : Int)) true ht
    have hr : mayF (relN V l tt mo) = true := by
      unfold relN
      split
      · exact may_max (may_max (h.each _ (by omega)) ma) (h.each 0 (by omega))
      · exact may_max (h.each _ (by omega)) ma
    have hru : ∀ i, V (l + 2) i ≤ relN V l tt mo i := fun i => by
      unfold relN
      split
      · exact Int.le_trans (le_max i) (le_max i)
      · exact le_max i
    have hrd : ∀ i, i < 8 → relN V l tt mo i ≤ maxF (V 0) (atF l tt true) i := fun i hi => by
      have := h.rel (l + 2) (by omega) (by omega) i hi
      unfold relN
      split
      · simp only [max_at]; omega
      · simp only [max_at]; omega
    unfold writeF
    have cases6 : ∀ k, k = 0 ∨ k = 1 ∨ k = l + 2 ∨ (2 ≤ k ∧ k ≠ l + 2) := fun k => by omega
    refine ⟨⟨fun k hk => ?_, fun i hi => ?_, fun k h2 hk i hi => ?_⟩, fun k hk i hi => ?_, fun _ _ => Int.le_refl _, fun e => by cases e⟩
    · rcases cases6 k with rfl | rfl | rfl | ⟨h2, h3⟩
      · rw [thr0]; exact may_max (h.each 0 (by omega)) ma
      · rw [thr1]; exact may_max (h.each 1 (by omega)) ma
      · rw [thr2]; exact hr
      · rw [thr3 _ _ _ _ _ _ h2 h3]; exact h.each k hk
    · have := h.acq i hi
      rw [thr0, thr1, max_at, max_at]
      omega
    · have hk2 := h.rel k h2 hk i hi
      rw [thr0]
      by_cases e3 : k = l + 2
      · subst e3; rw [thr2]; exact hrd i hi
      · rw [thr3 _ _ _ _ _ _ h2 e3]; exact Int.le_trans hk2 (le_max i)
    · rcases cases6 k with rfl | rfl | rfl | ⟨h2, h3⟩
      · rw [thr0]; exact le_max i
      · rw [thr1]; exact le_max i
      · rw [thr2]; exact hru i
      · rw [thr3 _ _ _ _ _ _ h2 h3]; exact Int.le_refl _
theorem sent_may {V : Nat → Nat → Int} (h : MayV V) (loc tt mo : Int) {m : Nat → Int} (hm : mayF m = true) : mayF (writeM V loc tt mo m) = true := by
  unfold writeM
  cases ho : writeOk V loc tt mo with
  | false => exact may_zero
  | true =>
    obtain ⟨hl, _, _⟩ := writeOk_low ho
    obtain ⟨l, rfl, hl4, ht⟩ := low_out hl
    have e : (l : Int).toNat = l := by omega
    rw [e]
    split
    · refine may_max ?_ hm
      unfold relN
      split
      · exact may_max (may_max (h.each _ (by omega)) (may_at true ht)) (h.each 0 (by omega))
      · exact may_max (h.each _ (by omega)) (may_at true ht)
    · exact may_zero
theorem may_acq {V : Nat → Nat → Int} (h : MayV V) : MayV (acqV V) := by
  unfold acqV
  refine ⟨fun k hk => ?_, fun i hi => ?_, fun k h2 hk i hi => ?_⟩
  · by_cases e : k = 0
    · subst e; rw [one0]; exact may_max (h.each 1 (by omega)) (h.each 0 (by omega))
    · rw [one1 _ _ _ e]; exact h.each k hk
  · have := h.acq i hi
    rw [one0, one1 _ _ _ (by omega), max_at]; omega
  · have := h.rel k h2 hk i hi
    rw [one0, one1 _ _ _ (by omega), max_at]; omega
theorem may_rel {V : Nat → Nat → Int} (h : MayV V) : MayV (relV V) := by
  unfold relV
  refine ⟨fun k hk => ?_, fun i hi => ?_, fun k h2 hk i hi => ?_⟩
  · split
    · exact may_max (h.each k hk) (h.each 0 (by omega))
    · exact h.each k hk
  · have := h.acq i hi
    simpa using this
  · have := h.rel k h2 hk i hi
    simp only [h2, if_true, show ¬ (2 : Nat) ≤ 0 by omega, if_false, max_at]; omega
theorem up_acq {V : Nat → Nat → Int} (k i : Nat) : V k i ≤ acqV V k i := by
  unfold acqV
  rw [set_at]
  split
  · next e => subst e; rw [max_at]; omega
  · exact Int.le_refl _
theorem up_rel {V : Nat → Nat → Int} (k i : Nat) : V k i ≤ relV V k i := by
  unfold relV
  split
  · exact le_max i
  · exact Int.le_refl _
theorem later_up (U : Nat → Nat → Int) (S : Nat → Int) (i : Nat) (hi : i < 4) : S i ≤ laterS U S i ∧ U 0 (i + 4) ≤ laterS U S i := by
  unfold laterS
  rw [max_at]
  unfold flatF
  rw [show (i + 4) % 4 = i by omega]
  omega
theorem may_sc {U : Nat → Nat → Int} (h : MayV U) (S : Nat → Int) : MayV (scV U S) := by
  have hf : mayF (flatF (laterS U S)) = true := may_flat fun i hi => by
    have := (later_up U S i hi).2
    have := may_nn (h.each 0 (by omega)) (i + 4) (by omega)
    omega
  unfold scV
  refine ⟨fun k hk => may_max (h.each k hk) hf, fun i hi => ?_, fun k h2 hk i hi => ?_⟩
  · have := h.acq i hi; simp only [max_at]; omega
  · have := h.rel k h2 hk i hi; simp only [max_at]; omega
theorem grows_fence {V : Nat → Nat → Int} (h : MayV V) (S : Nat → Int) (mo : Int) : Grows V (fenceV V S mo) S (fenceS V S mo) (fenceOk mo) := by
  unfold fenceV fenceS fenceOk
  by_cases h3 : mo = 3
  · subst h3
    exact ⟨may_acq h, fun k _ i _ => up_acq k i, fun _ _ => Int.le_refl _, fun e => by cases e⟩
  · by_cases h4 : mo = 4
    · subst h4
      exact ⟨may_rel h, fun k _ i _ => up_rel k i, fun _ _ => Int.le_refl _, fun e => by cases e⟩
    · by_cases h5 : mo = 5
      · subst h5
        exact ⟨may_rel (may_acq h), fun k _ i _ => Int.le_trans (up_acq k i) (up_rel k i), fun _ _ => Int.le_refl _, fun e => by cases e⟩
      · by_cases h6 : mo = 6
        · subst h6
          exact ⟨may_sc (may_rel (may_acq h)) S, fun k _ i _ => Int.le_trans (Int.le_trans (up_acq k i) (up_rel k i)) (le_max i), fun i hi => (later_up _ S i hi).1, fun e => by cases e⟩
        · rw [if_neg h3, if_neg h4, if_neg h5, if_neg h6, if_neg h6]
          exact grows_no h S _
/-- What was known is not read from earlier. -/
theorem read_late {V : Nat → Nat → Int} (h : MayV V) {l : Nat} (hl : l < 4) {tt mo x : Int} (ho : readOk V l tt mo = true) (hx : x ≤ V 0 l) : x ≤ tt := by
  unfold readOk at ho
  simp only [Bool.and_eq_true, Bool.or_eq_true, decide_eq_true_eq] at ho
  have e : (l : Int).toNat = l := by omega
  rw [e] at ho
  have hm := (may_iff.1 (h.each 0 (by omega))).2 l hl
  omega
theorem read_knows {V : Nat → Nat → Int} {l : Nat} (hl : l < 4) {tt mo : Int} {m : Nat → Int} (ht : 0 ≤ tt) (ho : readOk V l tt mo = true) (h1 : mo ≠ 1) : tt ≤ readV V l tt mo m 0 l := by
  unfold readV
  rw [ho]
  simp only [if_true]
  unfold readF learnF
  have e : atF (l : Nat) tt (!decide (mo = 1)) l = tt := by
    rw [at_in hl ht, show (!decide (mo = 1)) = true by simp [h1], if_pos (.inr ⟨rfl, rfl⟩)]
  rw [set_at, if_neg (by omega), set_at, if_pos rfl]
  split
  · simp only [max_at, e]; omega
  · simp only [max_at, e]; omega
theorem write_knows {V : Nat → Nat → Int} {l : Nat} (hl : l < 4) {tt mo : Int} (ht : 0 ≤ tt) (ho : writeOk V l tt mo = true) : tt ≤ writeV V l tt mo 0 l := by
  unfold writeV
  rw [ho]
  have e2 : (l : Int).toNat = l := by omega
  simp only [if_true, e2]
  unfold writeF
  have e : atF (l : Nat) tt true l = tt := by rw [at_in hl ht, if_pos (.inr ⟨rfl, rfl⟩)]
  rw [set_at, if_neg (by omega), set_at, if_neg (by omega), set_at, if_pos rfl, max_at, e]
  omega
end Go.Proofs.Ytanbkclomjbokaa.Tvw
