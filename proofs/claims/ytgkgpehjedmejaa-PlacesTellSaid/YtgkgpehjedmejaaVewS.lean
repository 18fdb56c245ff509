/- Layer 10 (view): times and views as plain functions, and what is said of them. -/
namespace Go.Proofs.Ytgkgpehjedmejaa.Vew

/-- The later times. -/
def maxF (f g : Nat → Int) (i : Nat) : Int := if f i < g i then g i else f i
/-- The same at the first n places. -/
def sameF (n : Nat) (f g : Nat → Int) : Bool := (List.range n).all fun i => f i == g i
/-- No time of the first n is above. -/
def withF (f g : Nat → Int) : Bool := sameF 8 (maxF g f) g
/-- The places from n on. -/
def from_ (n : Nat) (f : Nat → Int) (i : Nat) : Int := f (i + n)
def zeroF (_ : Nat) : Int := 0
/-- A view that may be. -/
def mayF (v : Nat → Int) : Bool := withF zeroF v && sameF 4 (maxF v (from_ 4 v)) (from_ 4 v)
theorem same_iff {n : Nat} {f g : Nat → Int} : sameF n f g = true ↔ ∀ i, i < n → f i = g i := by simp [sameF]
theorem with_iff {f g : Nat → Int} : withF f g = true ↔ ∀ i, i < 8 → f i ≤ g i := by
  unfold withF
  rw [same_iff]
  refine ⟨fun h i hi => ?_, fun h i hi => ?_⟩
  · have := h i hi; unfold maxF at this; split at this <;> omega
  · have := h i hi; unfold maxF; split <;> omega
theorem may_iff {v : Nat → Int} : mayF v = true ↔ (∀ i, i < 8 → 0 ≤ v i) ∧ ∀ i, i < 4 → v i ≤ v (i + 4) := by
  unfold mayF
  rw [Bool.and_eq_true, with_iff, same_iff]
  refine and_congr Iff.rfl ⟨fun h i hi => ?_, fun h i hi => ?_⟩
  · have := h i hi; unfold maxF from_ at this; split at this <;> omega
  · have := h i hi; unfold maxF from_; split <;> omega
theorem max_at (f g : Nat → Int) (i : Nat) : maxF f g i = max (f i) (g i) := by unfold maxF; split <;> omega
theorem max_comm (f g : Nat → Int) : maxF f g = maxF g f := by funext i; rw [max_at, max_at]; omega
theorem max_assoc (f g h : Nat → Int) : maxF (maxF f g) h = maxF f (maxF g h) := by funext i; simp only [max_at]; omega
theorem max_self (f : Nat → Int) : maxF f f = f := by funext i; rw [max_at]; omega
end Go.Proofs.Ytgkgpehjedmejaa.Vew
