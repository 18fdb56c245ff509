/- Layer 9 (span): the contracts of two spans: both, Apart, Touches, Compare. -/
import Derived.Test.YtgkgpehjedmejaaSpnA
import Derived.LoopN
namespace Go.Proofs.Ytgkgpehjedmejaa.Spn
open Go.RowKit Go.Proofs.Ytgkgpehjedmejaa.Mem

theorem both_any {x y u v : Nat} {a b c d : Int} (h : Sp x y a b) (h' : Sp u v c d) (w : World) :
    Calls Try.prog 46 #[cpx x y, cpx u v] w fun e w' => e = .returned (.bool true) ∧ w = w' := by
  have h1 := h.wre
  have h2 := h.wim
  have h3 := h'.wre
  have h4 := h'.wim
  have m1 := h.may
  have m2 := h'.may
  clear h h'
  go_enter Try.func46, Try.ntmps46
  go_wp2_with (go_at_call 18; refine (may_any (by assumption) (by assumption) _).mono ?_; rintro e w' ⟨rfl, rfl⟩)
  go_ret
  exact ⟨rfl, rfl⟩

theorem run_max {x y : Nat} {a b : Int} (hx : Is x a) (hy : Is y b) : ∃ z, Is z (max a b) ∧ ∀ (P : Program) (ts : Array TypeId) (t : TypeId) (w : World), (Builtin.max_ ts t #[flt x, flt y]).run P w = .ok (flt z) w := by
  have h : ∀ z, (∀ (P : Program) (w : World), (Builtin.max2 (flt x) (flt y)).run P w = .ok (flt z) w) → ∀ (P : Program) (ts : Array TypeId) (t : TypeId) (w : World), (Builtin.max_ ts t #[flt x, flt y]).run P w = .ok (flt z) w := by
    intro z hz P ts t w
    have := hz P w
    simp [Builtin.max_, this]
  by_cases h1 : a < b
  · exact ⟨y, by rw [show max a b = b by omega]; exact hy, h y fun P w => by simp only [Builtin.max2, order_lt hx hy h1]; rfl⟩
  · by_cases h2 : b < a
    · exact ⟨x, by rw [show max a b = a by omega]; exact hx, h x fun P w => by simp only [Builtin.max2, order_gt hx hy h2]; rfl⟩
    · refine ⟨if (FloatKind.f64.decode x).neg then y else x, ?_, h _ fun P w => by simp only [Builtin.max2, order_eq hx hy (show a = b by omega)]; rfl⟩
      split
      · rw [show max a b = b by omega]; exact hy
      · rw [show max a b = a by omega]; exact hx
theorem run_min {x y : Nat} {a b : Int} (hx : Is x a) (hy : Is y b) : ∃ z, Is z (min a b) ∧ ∀ (P : Program) (ts : Array TypeId) (t : TypeId) (w : World), (Builtin.min_ ts t #[flt x, flt y]).run P w = .ok (flt z) w := by
  have h : ∀ z, (∀ (P : Program) (w : World), (Builtin.min2 (flt x) (flt y)).run P w = .ok (flt z) w) → ∀ (P : Program) (ts : Array TypeId) (t : TypeId) (w : World), (Builtin.min_ ts t #[flt x, flt y]).run P w = .ok (flt z) w := by
    intro z hz P ts t w
    have := hz P w
    simp [Builtin.min_, this]
  by_cases h1 : a < b
  · exact ⟨x, by rw [show min a b = a by omega]; exact hx, h x fun P w => by simp only [Builtin.min2, order_lt hx hy h1]; rfl⟩
  · by_cases h2 : b < a
    · exact ⟨y, by rw [show min a b = b by omega]; exact hy, h y fun P w => by simp only [Builtin.min2, order_gt hx hy h2]; rfl⟩
    · refine ⟨if (FloatKind.f64.decode x).neg then x else y, ?_, h _ fun P w => by simp only [Builtin.min2, order_eq hx hy (show a = b by omega)]; rfl⟩
      split
      · rw [show min a b = a by omega]; exact hx
      · rw [show min a b = b by omega]; exact hy
theorem order_ge {x y : Nat} {a b : Int} (hx : Is x a) (hy : Is y b) : (FloatKind.f64.format.order x y == some .gt || FloatKind.f64.format.order x y == some .eq) = decide (b ≤ a) := by
  by_cases h1 : a < b
  · rw [order_lt hx hy h1]; exact (decide_eq_false (by omega)).symm
  · by_cases h2 : b < a
    · rw [order_gt hx hy h2]; exact (decide_eq_true (by omega)).symm
    · rw [order_eq hx hy (by omega)]; exact (decide_eq_true (by omega)).symm
theorem order_same {x y : Nat} {a b : Int} (hx : Is x a) (hy : Is y b) : (FloatKind.f64.format.order x y == some .eq) = decide (a = b) := by
  by_cases h1 : a < b
  · rw [order_lt hx hy h1]; exact (decide_eq_false (by omega)).symm
  · by_cases h2 : b < a
    · rw [order_gt hx hy h2]; exact (decide_eq_false (by omega)).symm
    · rw [order_eq hx hy (by omega)]; exact (decide_eq_true (by omega)).symm

/-- No time is in both. -/
def apartF (a b c d : Int) : Bool := decide (min b d ≤ max a c)
theorem apart_any {x y u v : Nat} {a b c d : Int} (h : Sp x y a b) (h' : Sp u v c d) (w : World) :
    Calls Try.prog 29 #[cpx x y, cpx u v] w fun e w' => e = .returned (.bool (apartF a b c d)) ∧ w = w' := by
  obtain ⟨z, iz, hz⟩ := run_max h.re h'.re
  obtain ⟨z', iz', hz'⟩ := run_min h.im h'.im
  have e0 := order_ge iz iz'
  clear iz iz'
  go_enter Try.func29, Try.ntmps29
  go_wp2_with (go_at_call 46; refine (both_any (by assumption) (by assumption) _).mono ?_; rintro e w' ⟨rfl, rfl⟩)
  go_ret
  exact ⟨rfl, rfl⟩
theorem isNaN_any {x : Nat} {a : Int} (hx : Is x a) (w : World) :
    Calls Try.prog 55 #[flt x] w fun e w' => e = .returned (.bool false) ∧ w = w' := by
  have e0 := order_eq hx hx rfl
  clear hx
  go_enter Try.func55, Try.ntmps55
  go_wp2
  go_ret
  exact ⟨rfl, rfl⟩
/-- Which number is less. -/
def cmp1 (a b : Int) : Int := if a < b then -1 else if b < a then 1 else 0
theorem compare1_any {x y : Nat} {a b : Int} (hx : Is x a) (hy : Is y b) (w : World) :
    Calls Try.prog 48 #[flt x, flt y] w fun e w' => e = .returned (.int .i64 (cmp1 a b)) ∧ w = w' := by
  by_cases h1 : a < b
  · have e0 := order_lt hx hy h1
    have HF : Hid (cmp1 a b = -1) := Lib.hid (if_pos h1)
    clear h1
    go_enter Try.func48, Try.ntmps48
    go_wp2_with (go_at_call 55; refine (isNaN_any (by assumption) _).mono ?_; rintro e w' ⟨rfl, rfl⟩)
    go_ret
    exact ⟨ret_int HF.out.symm, rfl⟩
  · by_cases h2 : b < a
    · have e0 := order_gt hx hy h2
      have HF : Hid (cmp1 a b = 1) := Lib.hid (by unfold cmp1; rw [if_neg h1, if_pos h2])
      clear h1 h2
      go_enter Try.func48, Try.ntmps48
      go_wp2_with (go_at_call 55; refine (isNaN_any (by assumption) _).mono ?_; rintro e w' ⟨rfl, rfl⟩)
      go_ret
      exact ⟨ret_int HF.out.symm, rfl⟩
    · have e0 := order_eq hx hy (by omega)
      have HF : Hid (cmp1 a b = 0) := Lib.hid (by unfold cmp1; rw [if_neg h1, if_neg h2])
      clear h1 h2
      go_enter Try.func48, Try.ntmps48
      go_wp2_with (go_at_call 55; refine (isNaN_any (by assumption) _).mono ?_; rintro e w' ⟨rfl, rfl⟩)
      go_ret
      exact ⟨ret_int HF.out.symm, rfl⟩

/-- The first that is not 0. -/
def orF (p q : Int) : Int := if p = 0 then q else p
theorem or_any (g : Nat) (p q : Int) (w : World) (h0 : w.cell? ⟨g, 0, none⟩ = some (.int .i64 p)) (h1 : w.cell? ⟨g, 1, none⟩ = some (.int .i64 q)) :
    Calls Try.prog 47 #[.slice (some ⟨g, 0, none⟩) 2 2] w fun e w' => e = .returned (.int .i64 (orF p q)) ∧ w = w' := by
  by_cases hp : p = 0
  · by_cases hq : q = 0
    · subst hp hq
      go_enter Try.func47, Try.ntmps47
      go_wp2
      refine wp_loop_rounds 3 ?_
      simp only [Code.rounds]
      go_wp2
      go_ret
      exact ⟨rfl, rfl⟩
    · subst hp
      have HF : Hid (orF 0 q = q) := Lib.hid (if_pos rfl)
      have hb : (q != 0) = true := bne_iff_ne.2 hq
      clear hq
      go_enter Try.func47, Try.ntmps47
      go_wp2
      refine wp_loop_rounds 3 ?_
      simp only [Code.rounds]
      go_wp2
      go_ret
      exact ⟨ret_int HF.out.symm, rfl⟩
  · have hb : (p != 0) = true := bne_iff_ne.2 hp
    have HF : Hid (orF p q = p) := Lib.hid (if_neg hp)
    clear hp
    go_enter Try.func47, Try.ntmps47
    go_wp2
    refine wp_loop_rounds 3 ?_
    simp only [Code.rounds]
    go_wp2
    go_ret
    exact ⟨ret_int HF.out.symm, rfl⟩

/-- Which span is less: by its to, then by its from. -/
def cmpF (a b c d : Int) : Int := orF (cmp1 b d) (cmp1 a c)
theorem compare_any {x y u v : Nat} {a b c d : Int} (h : Sp x y a b) (h' : Sp u v c d) (w : World) :
    Calls Try.prog 32 #[cpx x y, cpx u v] w fun e w' => e = .returned (.int .i64 (cmpF a b c d)) ∧ Below w.heap.size w w' := by
  have r1 := h.re
  have r2 := h.im
  have r3 := h'.re
  have r4 := h'.im
  go_enter Try.func32, Try.ntmps32
  go_wp2_with (first | (go_at_call 46; refine (both_any (by assumption) (by assumption) _).mono ?_; rintro e w' ⟨rfl, rfl⟩) | (go_at_call 48; refine (compare1_any (by assumption) (by assumption) _).mono ?_; rintro e w' ⟨rfl, rfl⟩) | (go_at_call 47; refine (or_any w.heap.size (cmp1 b d) (cmp1 a c) _ ((Sits.new w _ _).cell 0) ((Sits.new w _ _).cell 1)).mono ?_; rintro e w' ⟨rfl, rfl⟩))
  go_ret
  exact ⟨rfl, (Below.refl _ _).alloc (Nat.le_refl _) _⟩
end Go.Proofs.Ytgkgpehjedmejaa.Spn
