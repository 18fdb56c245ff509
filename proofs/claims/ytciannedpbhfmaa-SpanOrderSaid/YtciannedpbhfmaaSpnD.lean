/- Layer 9 (span): Of as a span that may be; wakes. -/
import Derived.Test.YtciannedpbhfmaaSpnC
namespace Go.Proofs.Ytciannedpbhfmaa.Spn
open Go.RowKit Go.Proofs.Ytciannedpbhfmaa.Mem

theorem of_sp {a b : Int} (ha : a.natAbs ≤ 2 ^ 64) (hb : b.natAbs ≤ 2 ^ 64) (hm : mayF a b = true) (w : World) :
    Calls Try.prog 5 #[.int .i64 a, .int .i64 b] w fun e w' => (∃ x y, e = .returned (.tuple #[cpx x y, .bool true]) ∧ Sp x y a b) ∧ w = w' :=
  (of_yes ha hb hm w).mono fun _ _ ⟨he, hw⟩ => ⟨⟨_, _, he, sp_fl hm⟩, hw⟩
theorem is_1 : Is 4607182418800017408 1 := by
  have h := is_fl 1 (by decide)
  rwa [show floatOfInt .f64 1 = 4607182418800017408 by decide] at h
theorem is_3 : Is 4613937818241073152 3 := by
  have h := is_fl 3 (by decide)
  rwa [show floatOfInt .f64 3 = 4613937818241073152 by decide] at h
theorem is_9 : Is 4621256167635550208 9 := by
  have h := is_fl 9 (by decide)
  rwa [show floatOfInt .f64 9 = 4621256167635550208 by decide] at h

theorem wakes_any (w : World) :
    Calls Try.prog 8 #[] w fun e w' => e = .returned (.bool true) ∧ Below w.heap.size w w' := by
  have ea : apartF 1 3 3 4 = true := by decide
  have ec : cmpF 1 3 3 4 = -1 := by decide
  go_enter Try.func8, Try.ntmps8
  go_wp2_with (go_at_call 5; first | (refine (of_sp (by decide) (by decide) (by decide) _).mono ?_; rintro e w' ⟨⟨x, y, rfl, hs⟩, rfl⟩) | (refine (of_no (by decide) (by decide) (by decide) _).mono ?_; rintro e w' ⟨rfl, rfl⟩))
  rename_i x1 y1 h1 _ _ _ _
  go_at_call 16
  refine (times_yes h1 (by decide) (by decide) (by decide) _).mono ?_
  rintro e w' ⟨⟨u, v, rfl, h3⟩, rfl⟩
  have h3 : Sp u v 3 9 := h3
  have o1 := order_eq h1.re is_1 rfl
  have o2 := order_eq h1.im is_3 rfl
  have o3 := order_eq h3.re is_3 rfl
  have o4 := order_eq h3.im is_9 rfl
  go_wp2_with (first
    | (go_at_call 12; refine (apart_any (by assumption) (by assumption) _).mono ?_; rintro e w' ⟨rfl, rfl⟩)
    | (go_at_call 14; refine (touches_any (by assumption) (by assumption) _).mono ?_; rintro e w' ⟨rfl, rfl⟩))
  go_at_call 15
  refine (compare_any (by assumption) (by assumption) _).mono ?_
  rintro e w1 ⟨rfl, hb⟩
  have HB := Lib.hid hb
  clear hb
  go_wp2_with (first
    | (go_at_call 9; refine (from_any (by assumption) _).mono ?_; rintro e w' ⟨rfl, rfl⟩)
    | (go_at_call 10; refine (to_any (by assumption) _).mono ?_; rintro e w' ⟨rfl, rfl⟩))
  go_ret
  exact ⟨rfl, HB.out⟩
end Go.Proofs.Ytciannedpbhfmaa.Spn
