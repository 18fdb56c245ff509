/- Layer 9 (span): the contracts of one span's functions: whole, May, kept, Of, From, To, Times. -/
import Derived.Test.YtgkgpehjedmejaaMem
import Derived.Test.YtgkgpehjedmejaaRows
import Derived.Test.YtgkgpehjedmejaaSpnS
import Derived.Laws.Externs
namespace Go.Proofs.Ytgkgpehjedmejaa.Spn
open Go.RowKit Go.Proofs.Ytgkgpehjedmejaa.Mem

abbrev flt (x : Nat) : Value := .float .f64 x
abbrev cpx (x y : Nat) : Value := .complex .f64 x y
theorem ret_bool {a b : Bool} (h : a = b) : Ending.returned (.bool a) = .returned (.bool b) := by rw [h]
theorem ret_int {k : IntKind} {a b : Int} (h : a = b) : Ending.returned (.int k a) = .returned (.int k b) := by rw [h]

theorem is_0 : Is 0 0 := by
  have h := is_fl 0 (by decide)
  rwa [show floatOfInt .f64 0 = 0 by decide] at h
theorem is_M : Is 4697254411347427328 1048576 := ⟨false, 32, by decide, by decide⟩
theorem order_lt {x y : Nat} {a b : Int} (hx : Is x a) (hy : Is y b) (h : a < b) : FloatKind.f64.format.order x y = some .lt := by
  rw [order_is hx hy]; exact congrArg some (show compareOfLessAndEq a b = .lt by unfold compareOfLessAndEq; rw [if_pos h])
theorem order_eq {x y : Nat} {a b : Int} (hx : Is x a) (hy : Is y b) (h : a = b) : FloatKind.f64.format.order x y = some .eq := by
  rw [order_is hx hy]; exact congrArg some (show compareOfLessAndEq a b = .eq by unfold compareOfLessAndEq; rw [if_neg (by omega), if_pos h])
theorem order_gt {x y : Nat} {a b : Int} (hx : Is x a) (hy : Is y b) (h : b < a) : FloatKind.f64.format.order x y = some .gt := by
  rw [order_is hx hy]; exact congrArg some (show compareOfLessAndEq a b = .gt by unfold compareOfLessAndEq; rw [if_neg (by omega), if_neg (by omega)])

theorem run_trunc {P : Program} {x : Nat} {s : Bool} {m : Nat} {e : Int} (h : FloatKind.f64.decode x = .number s m e) (w : World) :
    (Extern.MathFloor.toIntegral "math.archTrunc" .zero #[.float .f64 x]).run P w = .ok (.float .f64 (FloatKind.f64.encode ((Ieee.Datum.number s m e).integral .zero))) w := by
  unfold Extern.MathFloor.toIntegral
  conv => lhs; arg 2; whnf
  rw [h]
  rfl
set_option maxRecDepth 100000 in
theorem trunc_any {x : Nat} {a : Int} (hx : Is x a) (ha : a.natAbs < 2 ^ 53) (w : World) :
    Calls Try.prog 49 #[flt x] w fun e w' => (∃ y, e = .returned (flt y) ∧ Is y a) ∧ w = w' := by
  obtain ⟨s, m, p, hd, hi⟩ := trunc_is hx ha
  have HD := Lib.hid hd
  have HI := Lib.hid hi
  clear hd hi hx ha
  go_enter Try.func49, Try.ntmps49
  go_wp2
  rw [run_callFunc_extern Try.func56 (by kernel_rfl) (by kernel_rfl) (by kernel_rfl) (e := Extern.MathFloor.toIntegral "math.archTrunc" .zero) (by kernel_rfl), run_trunc HD.out]
  simp only [Result.andThen]
  rw [Oper.upon_value]
  go_wp2
  go_ret
  exact ⟨⟨_, rfl, HI.out⟩, rfl⟩

/-- A time. -/
def timeF (a : Int) : Bool := decide (0 ≤ a ∧ a ≤ 1048576)
theorem whole_is {x : Nat} {a : Int} (hx : Is x a) (ha : a.natAbs < 2 ^ 53) (w : World) :
    Calls Try.prog 39 #[flt x] w fun e w' => e = .returned (.bool (timeF a)) ∧ w = w' := by
  by_cases h0 : a < 0
  · have e0 := order_lt hx is_0 h0
    have HF : Hid (timeF a = false) := Lib.hid (decide_eq_false (by omega))
    clear hx ha h0
    go_enter Try.func39, Try.ntmps39
    go_wp2
    go_ret
    exact ⟨ret_bool HF.out.symm, rfl⟩
  · by_cases h1 : 1048576 < a
    · have e0 := order_gt hx is_0 (by omega)
      have e1 := order_gt hx is_M h1
      have HF : Hid (timeF a = false) := Lib.hid (decide_eq_false (by omega))
      clear hx ha h0 h1
      go_enter Try.func39, Try.ntmps39
      go_wp2
      go_ret
      exact ⟨ret_bool HF.out.symm, rfl⟩
    · have HF : Hid (timeF a = true) := Lib.hid (decide_eq_true (by omega))
      have HX := Lib.hid hx
      have HA := Lib.hid ha
      have e1 : (FloatKind.f64.format.order x 4697254411347427328 == some .lt || FloatKind.f64.format.order x 4697254411347427328 == some .eq) = true := by
        by_cases h : a = 1048576
        · rw [order_eq hx is_M h]; rfl
        · rw [order_lt hx is_M (by omega)]; rfl
      have e0 : (FloatKind.f64.format.order x 0 == some .gt || FloatKind.f64.format.order x 0 == some .eq) = true := by
        by_cases h : a = 0
        · rw [order_eq hx is_0 h]; rfl
        · rw [order_gt hx is_0 (by omega)]; rfl
      clear hx ha h0 h1
      go_enter Try.func39, Try.ntmps39
      go_wp2_with (go_at_call 49; refine (trunc_any HX.out HA.out _).mono ?_; rintro e w' ⟨⟨y, rfl, hy⟩, rfl⟩; have e2 := order_eq HX.out hy rfl; clear hy)
      go_ret
      exact ⟨ret_bool HF.out.symm, rfl⟩

/-- The word that float64 gives for this whole number. -/
def Wd (x : Nat) (a : Int) : Prop := (Is x a ∧ a.natAbs < 2 ^ 53) ∨ (Big x (decide (a < 0)) ∧ 2 ^ 53 ≤ a.natAbs)
theorem wd_fl (n : Int) (h : n.natAbs ≤ 2 ^ 64) : Wd (floatOfInt .f64 n) n := by
  by_cases hn : n.natAbs < 2 ^ 53
  · exact .inl ⟨is_fl n hn, hn⟩
  · exact .inr ⟨big_fl n (by omega) h, by omega⟩
theorem whole_any {x : Nat} {a : Int} (hx : Wd x a) (w : World) :
    Calls Try.prog 39 #[flt x] w fun e w' => e = .returned (.bool (timeF a)) ∧ w = w' := by
  rcases hx with ⟨hx, ha⟩ | ⟨hx, ha⟩
  · exact whole_is hx ha w
  · by_cases h : a < 0
    · have e0 := order_big hx is_0 (by decide)
      rw [decide_eq_true h] at e0
      simp only [if_true] at e0
      have HF : Hid (timeF a = false) := Lib.hid (decide_eq_false (by omega))
      clear hx ha h
      go_enter Try.func39, Try.ntmps39
      go_wp2
      go_ret
      exact ⟨ret_bool HF.out.symm, rfl⟩
    · have e0 := order_big hx is_0 (by decide)
      have e1 := order_big hx is_M (by decide)
      rw [decide_eq_false h] at e0 e1
      simp only [Bool.false_eq_true, if_false] at e0 e1
      have HF : Hid (timeF a = false) := Lib.hid (decide_eq_false (by omega))
      clear hx ha h
      go_enter Try.func39, Try.ntmps39
      go_wp2
      go_ret
      exact ⟨ret_bool HF.out.symm, rfl⟩
theorem Wd.is {x : Nat} {a : Int} (h : Wd x a) (ht : timeF a = true) : Is x a := by
  have ht := of_decide_eq_true ht
  rcases h with ⟨h, _⟩ | ⟨_, h⟩
  · exact h
  · omega

/-- It may be. -/
def mayF (a b : Int) : Bool := decide ((0 ≤ a ∧ b ≤ 1048576 ∧ a < b) ∨ (a = 0 ∧ b = 0))
theorem may_any {x y : Nat} {a b : Int} (hx : Wd x a) (hy : Wd y b) (w : World) :
    Calls Try.prog 18 #[cpx x y] w fun e w' => e = .returned (.bool (mayF a b)) ∧ w = w' := by
  cases ta : timeF a
  · have HF : Hid (mayF a b = false) := Lib.hid (by unfold mayF; have := of_decide_eq_false ta; exact decide_eq_false (by omega))
    go_enter Try.func18, Try.ntmps18
    go_wp2_with (go_at_call 39; refine (whole_any (by assumption) _).mono ?_; rintro e w' ⟨rfl, rfl⟩)
    go_ret
    exact ⟨ret_bool HF.out.symm, rfl⟩
  · cases tb : timeF b
    · have HF : Hid (mayF a b = false) := Lib.hid (by unfold mayF; have := of_decide_eq_true ta; have := of_decide_eq_false tb; exact decide_eq_false (by omega))
      go_enter Try.func18, Try.ntmps18
      go_wp2_with (go_at_call 39; refine (whole_any (by assumption) _).mono ?_; rintro e w' ⟨rfl, rfl⟩)
      go_ret
      exact ⟨ret_bool HF.out.symm, rfl⟩
    · have ix := hx.is ta
      have iy := hy.is tb
      have ra := of_decide_eq_true ta
      have rb := of_decide_eq_true tb
      by_cases hlt : a < b
      · have e0 := order_lt ix iy hlt
        have HF : Hid (mayF a b = true) := Lib.hid (decide_eq_true (by omega))
        clear ix iy ra rb hlt
        go_enter Try.func18, Try.ntmps18
        go_wp2_with (go_at_call 39; refine (whole_any (by assumption) _).mono ?_; rintro e w' ⟨rfl, rfl⟩)
        go_ret
        exact ⟨ret_bool HF.out.symm, rfl⟩
      · have e0 : (FloatKind.f64.format.order x y == some .lt) = false := by
          by_cases h : a = b
          · rw [order_eq ix iy h]; rfl
          · rw [order_gt ix iy (by omega)]; rfl
        have e1 : (FloatKind.f64.format.order x 0 == some .eq && FloatKind.f64.format.order y 0 == some .eq) = mayF a b := by
          by_cases h : a = 0
          · by_cases h' : b = 0
            · rw [order_eq ix is_0 h, order_eq iy is_0 h']; exact (decide_eq_true (by omega)).symm
            · rw [order_eq ix is_0 h, order_gt iy is_0 (by omega)]; exact (decide_eq_false (by omega)).symm
          · rw [order_gt ix is_0 (by omega)]; exact (decide_eq_false (by omega)).symm
        clear ix iy ra rb hlt
        go_enter Try.func18, Try.ntmps18
        go_wp2_with (go_at_call 39; refine (whole_any (by assumption) _).mono ?_; rintro e w' ⟨rfl, rfl⟩)
        go_ret
        exact ⟨rfl, rfl⟩

theorem kept_yes {x y : Nat} {a b : Int} (hx : Wd x a) (hy : Wd y b) (hm : mayF a b = true) (w : World) :
    Calls Try.prog 38 #[cpx x y] w fun e w' => e = .returned (.tuple #[cpx x y, .bool true]) ∧ w = w' := by
  go_enter Try.func38, Try.ntmps38
  go_wp2_with (go_at_call 18; refine (may_any (by assumption) (by assumption) _).mono ?_; rintro e w' ⟨rfl, rfl⟩)
  go_ret2
  exact ⟨rfl, rfl⟩
theorem kept_no {x y : Nat} {a b : Int} (hx : Wd x a) (hy : Wd y b) (hm : mayF a b = false) (w : World) :
    Calls Try.prog 38 #[cpx x y] w fun e w' => e = .returned (.tuple #[cpx 0 0, .bool false]) ∧ w = w' := by
  go_enter Try.func38, Try.ntmps38
  go_wp2_with (go_at_call 18; refine (may_any (by assumption) (by assumption) _).mono ?_; rintro e w' ⟨rfl, rfl⟩)
  go_ret2
  exact ⟨rfl, rfl⟩

theorem of_yes {a b : Int} (ha : a.natAbs ≤ 2 ^ 64) (hb : b.natAbs ≤ 2 ^ 64) (hm : mayF a b = true) (w : World) :
    Calls Try.prog 36 #[.int .i64 a, .int .i64 b] w fun e w' => e = .returned (.tuple #[cpx (floatOfInt .f64 a) (floatOfInt .f64 b), .bool true]) ∧ w = w' := by
  have hx := wd_fl a ha
  have hy := wd_fl b hb
  clear ha hb
  go_enter Try.func36, Try.ntmps36
  go_wp2_with (go_at_call 38; refine (kept_yes (by assumption) (by assumption) hm _).mono ?_; rintro e w' ⟨rfl, rfl⟩)
  go_ret2
  exact ⟨rfl, rfl⟩
theorem of_no {a b : Int} (ha : a.natAbs ≤ 2 ^ 64) (hb : b.natAbs ≤ 2 ^ 64) (hm : mayF a b = false) (w : World) :
    Calls Try.prog 36 #[.int .i64 a, .int .i64 b] w fun e w' => e = .returned (.tuple #[cpx 0 0, .bool false]) ∧ w = w' := by
  have hx := wd_fl a ha
  have hy := wd_fl b hb
  clear ha hb
  go_enter Try.func36, Try.ntmps36
  go_wp2_with (go_at_call 38; refine (kept_no (by assumption) (by assumption) hm _).mono ?_; rintro e w' ⟨rfl, rfl⟩)
  go_ret2
  exact ⟨rfl, rfl⟩

/-- A span that may be, and its times. -/
structure Sp (x y : Nat) (a b : Int) : Prop where
  re : Is x a
  im : Is y b
  may : mayF a b = true
section
variable {x y : Nat} {a b : Int}
theorem Sp.le (h : Sp x y a b) : 0 ≤ a ∧ a ≤ b ∧ b ≤ 1048576 ∧ (a < b ∨ (a = 0 ∧ b = 0)) := by
  have := of_decide_eq_true h.may; omega
theorem Sp.wre (h : Sp x y a b) : Wd x a := .inl ⟨h.re, by have := h.le; omega⟩
theorem Sp.wim (h : Sp x y a b) : Wd y b := .inl ⟨h.im, by have := h.le; omega⟩
theorem sp_fl (hm : mayF a b = true) : Sp (floatOfInt .f64 a) (floatOfInt .f64 b) a b := by
  have := of_decide_eq_true hm
  exact ⟨is_fl a (by omega), is_fl b (by omega), hm⟩
theorem toVal {x : Nat} {a : Int} (hx : Is x a) (h0 : 0 ≤ a) (h1 : a ≤ 1048576) : floatToIntVal .f64 x .i64 = some a := by
  unfold floatToIntVal
  rw [toInt_is hx]
  simp only
  rw [if_pos (by rw [show IntKind.i64.max = 9223372036854775807 by decide, show IntKind.i64.min = -9223372036854775808 by decide]; omega)]
end
theorem from_any {x y : Nat} {a b : Int} (h : Sp x y a b) (w : World) :
    Calls Try.prog 16 #[cpx x y] w fun e w' => e = .returned (.int .i64 a) ∧ w = w' := by
  have hx := h.wre
  have hy := h.wim
  have hm := h.may
  have hc := fun W => run_convert_float_int (P := Try.prog) W 82 3 .f64 .i64 x a (by rw [Try.underlying82]; rfl) Try.underlying3 (toVal h.re h.le.1 (by have := h.le; omega))
  clear h
  go_enter Try.func16, Try.ntmps16
  go_wp2_with (go_at_call 38; refine (kept_yes (by assumption) (by assumption) hm _).mono ?_; rintro e w' ⟨rfl, rfl⟩)
  go_ret
  exact ⟨rfl, rfl⟩
theorem to_any {x y : Nat} {a b : Int} (h : Sp x y a b) (w : World) :
    Calls Try.prog 17 #[cpx x y] w fun e w' => e = .returned (.int .i64 b) ∧ w = w' := by
  have hx := h.wre
  have hy := h.wim
  have hm := h.may
  have hc := fun W => run_convert_float_int (P := Try.prog) W 82 3 .f64 .i64 y b (by rw [Try.underlying82]; rfl) Try.underlying3 (toVal h.im (by have := h.le; omega) (by have := h.le; omega))
  clear h
  go_enter Try.func17, Try.ntmps17
  go_wp2_with (go_at_call 38; refine (kept_yes (by assumption) (by assumption) hm _).mono ?_; rintro e w' ⟨rfl, rfl⟩)
  go_ret
  exact ⟨rfl, rfl⟩

end Go.Proofs.Ytgkgpehjedmejaa.Spn
