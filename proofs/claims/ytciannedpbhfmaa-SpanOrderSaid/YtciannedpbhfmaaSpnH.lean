/- Layer 9 (span): the walk of SpanOrder, its other ways. -/
import Derived.Test.YtciannedpbhfmaaSpnG
namespace Go.Proofs.Ytciannedpbhfmaa.Spn
open Go.RowKit Go.Proofs.Ytciannedpbhfmaa.Mem

set_option maxRecDepth 100000 in
set_option maxHeartbeats 4000000 in
theorem more_zero {a0 a1 b0 b1 c0 c1 n a b c d e f k : Int} (ea : (wrap64 a0).tmod 1000 = a) (eb : (wrap64 a1).tmod 1000 = b) (ec : (wrap64 b0).tmod 1000 = c) (ed : (wrap64 b1).tmod 1000 = d) (ee : (wrap64 c0).tmod 1000 = e) (ef : (wrap64 c1).tmod 1000 = f)
    (RR : Hid ((0 ≤ a ∧ a < 1000) ∧ (0 ≤ b ∧ b < 1000) ∧ (0 ≤ c ∧ c < 1000) ∧ (0 ≤ d ∧ d < 1000) ∧ (0 ≤ e ∧ e < 1000) ∧ (0 ≤ f ∧ f < 1000)))
    (hk : wrap64 (1 + wrap64 n) = k) (hk1 : 1 ≤ k) (hk2 : k ≤ 1048576) (mx : mayF a b = true) (my : mayF c d = true) (mz : mayF e f = true) (m1 : mayF (k * a) (k * b) = true) (m2 : mayF (k * c) (k * d) = true)
    (p1 : wrap64 (k * a) = k * a) (p2 : wrap64 (k * b) = k * b) (s1 : apartF (k * a) (k * b) (k * c) (k * d) = apartF a b c d) (s2 : touchF (k * b) (k * c) = touchF b c) (s3 : cmpF (k * a) (k * b) (k * c) (k * d) = cmpF a b c d)
    (k1 : cmpF a b c d = 1) (k2 : cmpF c d a b = -1) (k3 : sameF a b c d = false) (k4 : apartF c d a b = apartF a b c d) (zx : zeroF b = false) (zy : zeroF d = true) (w : World) :
    Calls Try.prog 4 #[arrV a0 a1, arrV b0 b1, arrV c0 c1, .int .u8 n] w fun e w' => e = .returned (.bool true) ∧ Below w.heap.size w w' := by
  have HB := Lib.hid (below3 w (.cells #[.int .u16 a0, .int .u16 a1] 36) (.cells #[.int .u16 b0, .int .u16 b1] 36) (.cells #[.int .u16 c0, .int .u16 c1] 36))
  go_enter Try.func4, Try.ntmps4
  go_wp2_with (go_at_call 5; refine (of_sp (by have := RR.out; omega) (by have := RR.out; omega) (by assumption) _).mono ?_; rintro e w' ⟨⟨x, y, rfl, hs⟩, rfl⟩)
  have z1 := zero_of (a := a) (b := b) (by assumption)
  have z2 := zero_of (a := c) (b := d) (by assumption)
  have z3 := same_of (a := a) (b := b) (c := c) (d := d) (by assumption) (by assumption)
  go_wp2_with (first
    | (go_at_call 12; refine (apart_any (by assumption) (by assumption) _).mono ?_; rintro e w' ⟨rfl, rfl⟩)
    | (go_at_call 14; refine (touch_any (by assumption) (by assumption) _).mono ?_; rintro e w' ⟨rfl, rfl⟩)
    | (go_at_call 15; refine (compare_any (by assumption) (by assumption) _).mono ?_; rintro e w' ⟨rfl, hbx⟩; replace HB := Lib.hid (HB.out.trans (hbx.mono HB.out.size)); clear hbx)
    | (go_at_call 9; refine (from_any (by assumption) _).mono ?_; rintro e w' ⟨rfl, rfl⟩)
    | (go_at_call 10; refine (to_any (by assumption) _).mono ?_; rintro e w' ⟨rfl, rfl⟩)
    | (go_at_call 16; refine (times_any (by assumption) hk1 hk2 (by assumption) _).mono ?_; rintro e w' ⟨⟨u, v, rfl, ht⟩, rfl⟩)
    | (go_at_call 8; refine (wakes_any _).mono ?_; rintro e w' ⟨rfl, hbx⟩; replace HB := Lib.hid (HB.out.trans (hbx.mono HB.out.size)); clear hbx))
  go_ret
  exact ⟨rfl, HB.out⟩

set_option maxRecDepth 100000 in
set_option maxHeartbeats 4000000 in
theorem more_apart {a0 a1 b0 b1 c0 c1 n a b c d e f k : Int} (ea : (wrap64 a0).tmod 1000 = a) (eb : (wrap64 a1).tmod 1000 = b) (ec : (wrap64 b0).tmod 1000 = c) (ed : (wrap64 b1).tmod 1000 = d) (ee : (wrap64 c0).tmod 1000 = e) (ef : (wrap64 c1).tmod 1000 = f)
    (RR : Hid ((0 ≤ a ∧ a < 1000) ∧ (0 ≤ b ∧ b < 1000) ∧ (0 ≤ c ∧ c < 1000) ∧ (0 ≤ d ∧ d < 1000) ∧ (0 ≤ e ∧ e < 1000) ∧ (0 ≤ f ∧ f < 1000)))
    (hk : wrap64 (1 + wrap64 n) = k) (hk1 : 1 ≤ k) (hk2 : k ≤ 1048576) (mx : mayF a b = true) (my : mayF c d = true) (mz : mayF e f = true) (m1 : mayF (k * a) (k * b) = true) (m2 : mayF (k * c) (k * d) = true)
    (p1 : wrap64 (k * a) = k * a) (p2 : wrap64 (k * b) = k * b) (s1 : apartF (k * a) (k * b) (k * c) (k * d) = apartF a b c d) (s2 : touchF (k * b) (k * c) = touchF b c) (s3 : cmpF (k * a) (k * b) (k * c) (k * d) = cmpF a b c d)
    (k1 : cmpF a b c d = 1) (k2 : cmpF c d a b = -1) (k3 : sameF a b c d = false) (k4 : apartF c d a b = apartF a b c d) (zx : zeroF b = false) (zy : zeroF d = false) (t0 : apartF a b c d = true) (t1 : ¬ b ≤ c) (t2 : d ≤ a) (w : World) :
    Calls Try.prog 4 #[arrV a0 a1, arrV b0 b1, arrV c0 c1, .int .u8 n] w fun e w' => e = .returned (.bool true) ∧ Below w.heap.size w w' := by
  have HB := Lib.hid (below3 w (.cells #[.int .u16 a0, .int .u16 a1] 36) (.cells #[.int .u16 b0, .int .u16 b1] 36) (.cells #[.int .u16 c0, .int .u16 c1] 36))
  go_enter Try.func4, Try.ntmps4
  go_wp2_with (go_at_call 5; refine (of_sp (by have := RR.out; omega) (by have := RR.out; omega) (by assumption) _).mono ?_; rintro e w' ⟨⟨x, y, rfl, hs⟩, rfl⟩)
  have z1 := zero_of (a := a) (b := b) (by assumption)
  have z2 := zero_of (a := c) (b := d) (by assumption)
  have z3 := same_of (a := a) (b := b) (c := c) (d := d) (by assumption) (by assumption)
  go_wp2_with (first
    | (go_at_call 12; refine (apart_any (by assumption) (by assumption) _).mono ?_; rintro e w' ⟨rfl, rfl⟩)
    | (go_at_call 14; refine (touch_any (by assumption) (by assumption) _).mono ?_; rintro e w' ⟨rfl, rfl⟩)
    | (go_at_call 15; refine (compare_any (by assumption) (by assumption) _).mono ?_; rintro e w' ⟨rfl, hbx⟩; replace HB := Lib.hid (HB.out.trans (hbx.mono HB.out.size)); clear hbx)
    | (go_at_call 9; refine (from_any (by assumption) _).mono ?_; rintro e w' ⟨rfl, rfl⟩)
    | (go_at_call 10; refine (to_any (by assumption) _).mono ?_; rintro e w' ⟨rfl, rfl⟩)
    | (go_at_call 16; refine (times_any (by assumption) hk1 hk2 (by assumption) _).mono ?_; rintro e w' ⟨⟨u, v, rfl, ht⟩, rfl⟩)
    | (go_at_call 8; refine (wakes_any _).mono ?_; rintro e w' ⟨rfl, hbx⟩; replace HB := Lib.hid (HB.out.trans (hbx.mono HB.out.size)); clear hbx))
  go_ret
  exact ⟨rfl, HB.out⟩

set_option maxRecDepth 100000 in
set_option maxHeartbeats 4000000 in
theorem more_in {a0 a1 b0 b1 c0 c1 n a b c d e f k : Int} (ea : (wrap64 a0).tmod 1000 = a) (eb : (wrap64 a1).tmod 1000 = b) (ec : (wrap64 b0).tmod 1000 = c) (ed : (wrap64 b1).tmod 1000 = d) (ee : (wrap64 c0).tmod 1000 = e) (ef : (wrap64 c1).tmod 1000 = f)
    (RR : Hid ((0 ≤ a ∧ a < 1000) ∧ (0 ≤ b ∧ b < 1000) ∧ (0 ≤ c ∧ c < 1000) ∧ (0 ≤ d ∧ d < 1000) ∧ (0 ≤ e ∧ e < 1000) ∧ (0 ≤ f ∧ f < 1000)))
    (hk : wrap64 (1 + wrap64 n) = k) (hk1 : 1 ≤ k) (hk2 : k ≤ 1048576) (mx : mayF a b = true) (my : mayF c d = true) (mz : mayF e f = true) (m1 : mayF (k * a) (k * b) = true) (m2 : mayF (k * c) (k * d) = true)
    (p1 : wrap64 (k * a) = k * a) (p2 : wrap64 (k * b) = k * b) (s1 : apartF (k * a) (k * b) (k * c) (k * d) = apartF a b c d) (s2 : touchF (k * b) (k * c) = touchF b c) (s3 : cmpF (k * a) (k * b) (k * c) (k * d) = cmpF a b c d)
    (k1 : cmpF a b c d = 1) (k2 : cmpF c d a b = -1) (k3 : sameF a b c d = false) (k4 : apartF c d a b = apartF a b c d) (zx : zeroF b = false) (zy : zeroF d = false) (t0 : apartF a b c d = false) (t1 : ¬ b ≤ c) (t2 : ¬ d ≤ a) (w : World) :
    Calls Try.prog 4 #[arrV a0 a1, arrV b0 b1, arrV c0 c1, .int .u8 n] w fun e w' => e = .returned (.bool true) ∧ Below w.heap.size w w' := by
  have HB := Lib.hid (below3 w (.cells #[.int .u16 a0, .int .u16 a1] 36) (.cells #[.int .u16 b0, .int .u16 b1] 36) (.cells #[.int .u16 c0, .int .u16 c1] 36))
  go_enter Try.func4, Try.ntmps4
  go_wp2_with (go_at_call 5; refine (of_sp (by have := RR.out; omega) (by have := RR.out; omega) (by assumption) _).mono ?_; rintro e w' ⟨⟨x, y, rfl, hs⟩, rfl⟩)
  have z1 := zero_of (a := a) (b := b) (by assumption)
  have z2 := zero_of (a := c) (b := d) (by assumption)
  have z3 := same_of (a := a) (b := b) (c := c) (d := d) (by assumption) (by assumption)
  go_wp2_with (first
    | (go_at_call 12; refine (apart_any (by assumption) (by assumption) _).mono ?_; rintro e w' ⟨rfl, rfl⟩)
    | (go_at_call 14; refine (touch_any (by assumption) (by assumption) _).mono ?_; rintro e w' ⟨rfl, rfl⟩)
    | (go_at_call 15; refine (compare_any (by assumption) (by assumption) _).mono ?_; rintro e w' ⟨rfl, hbx⟩; replace HB := Lib.hid (HB.out.trans (hbx.mono HB.out.size)); clear hbx)
    | (go_at_call 9; refine (from_any (by assumption) _).mono ?_; rintro e w' ⟨rfl, rfl⟩)
    | (go_at_call 10; refine (to_any (by assumption) _).mono ?_; rintro e w' ⟨rfl, rfl⟩)
    | (go_at_call 16; refine (times_any (by assumption) hk1 hk2 (by assumption) _).mono ?_; rintro e w' ⟨⟨u, v, rfl, ht⟩, rfl⟩)
    | (go_at_call 8; refine (wakes_any _).mono ?_; rintro e w' ⟨rfl, hbx⟩; replace HB := Lib.hid (HB.out.trans (hbx.mono HB.out.size)); clear hbx))
  go_ret
  exact ⟨rfl, HB.out⟩

set_option maxRecDepth 100000 in
set_option maxHeartbeats 4000000 in
theorem same_zero {a0 a1 b0 b1 c0 c1 n a b c d e f k : Int} (ea : (wrap64 a0).tmod 1000 = a) (eb : (wrap64 a1).tmod 1000 = b) (ec : (wrap64 b0).tmod 1000 = c) (ed : (wrap64 b1).tmod 1000 = d) (ee : (wrap64 c0).tmod 1000 = e) (ef : (wrap64 c1).tmod 1000 = f)
    (RR : Hid ((0 ≤ a ∧ a < 1000) ∧ (0 ≤ b ∧ b < 1000) ∧ (0 ≤ c ∧ c < 1000) ∧ (0 ≤ d ∧ d < 1000) ∧ (0 ≤ e ∧ e < 1000) ∧ (0 ≤ f ∧ f < 1000)))
    (hk : wrap64 (1 + wrap64 n) = k) (hk1 : 1 ≤ k) (hk2 : k ≤ 1048576) (mx : mayF a b = true) (my : mayF c d = true) (mz : mayF e f = true) (m1 : mayF (k * a) (k * b) = true) (m2 : mayF (k * c) (k * d) = true)
    (p1 : wrap64 (k * a) = k * a) (p2 : wrap64 (k * b) = k * b) (s1 : apartF (k * a) (k * b) (k * c) (k * d) = apartF a b c d) (s2 : touchF (k * b) (k * c) = touchF b c) (s3 : cmpF (k * a) (k * b) (k * c) (k * d) = cmpF a b c d)
    (k1 : cmpF a b c d = 0) (k2 : cmpF c d a b = 0) (k3 : sameF a b c d = true) (k4 : apartF c d a b = apartF a b c d) (zx : zeroF b = true) (w : World) :
    Calls Try.prog 4 #[arrV a0 a1, arrV b0 b1, arrV c0 c1, .int .u8 n] w fun e w' => e = .returned (.bool true) ∧ Below w.heap.size w w' := by
  have HB := Lib.hid (below3 w (.cells #[.int .u16 a0, .int .u16 a1] 36) (.cells #[.int .u16 b0, .int .u16 b1] 36) (.cells #[.int .u16 c0, .int .u16 c1] 36))
  go_enter Try.func4, Try.ntmps4
  go_wp2_with (go_at_call 5; refine (of_sp (by have := RR.out; omega) (by have := RR.out; omega) (by assumption) _).mono ?_; rintro e w' ⟨⟨x, y, rfl, hs⟩, rfl⟩)
  have z1 := zero_of (a := a) (b := b) (by assumption)
  have z2 := zero_of (a := c) (b := d) (by assumption)
  have z3 := same_of (a := a) (b := b) (c := c) (d := d) (by assumption) (by assumption)
  go_wp2_with (first
    | (go_at_call 12; refine (apart_any (by assumption) (by assumption) _).mono ?_; rintro e w' ⟨rfl, rfl⟩)
    | (go_at_call 14; refine (touch_any (by assumption) (by assumption) _).mono ?_; rintro e w' ⟨rfl, rfl⟩)
    | (go_at_call 15; refine (compare_any (by assumption) (by assumption) _).mono ?_; rintro e w' ⟨rfl, hbx⟩; replace HB := Lib.hid (HB.out.trans (hbx.mono HB.out.size)); clear hbx)
    | (go_at_call 9; refine (from_any (by assumption) _).mono ?_; rintro e w' ⟨rfl, rfl⟩)
    | (go_at_call 10; refine (to_any (by assumption) _).mono ?_; rintro e w' ⟨rfl, rfl⟩)
    | (go_at_call 16; refine (times_any (by assumption) hk1 hk2 (by assumption) _).mono ?_; rintro e w' ⟨⟨u, v, rfl, ht⟩, rfl⟩)
    | (go_at_call 8; refine (wakes_any _).mono ?_; rintro e w' ⟨rfl, hbx⟩; replace HB := Lib.hid (HB.out.trans (hbx.mono HB.out.size)); clear hbx))
  go_ret
  exact ⟨rfl, HB.out⟩

set_option maxRecDepth 100000 in
set_option maxHeartbeats 4000000 in
theorem same_in {a0 a1 b0 b1 c0 c1 n a b c d e f k : Int} (ea : (wrap64 a0).tmod 1000 = a) (eb : (wrap64 a1).tmod 1000 = b) (ec : (wrap64 b0).tmod 1000 = c) (ed : (wrap64 b1).tmod 1000 = d) (ee : (wrap64 c0).tmod 1000 = e) (ef : (wrap64 c1).tmod 1000 = f)
    (RR : Hid ((0 ≤ a ∧ a < 1000) ∧ (0 ≤ b ∧ b < 1000) ∧ (0 ≤ c ∧ c < 1000) ∧ (0 ≤ d ∧ d < 1000) ∧ (0 ≤ e ∧ e < 1000) ∧ (0 ≤ f ∧ f < 1000)))
    (hk : wrap64 (1 + wrap64 n) = k) (hk1 : 1 ≤ k) (hk2 : k ≤ 1048576) (mx : mayF a b = true) (my : mayF c d = true) (mz : mayF e f = true) (m1 : mayF (k * a) (k * b) = true) (m2 : mayF (k * c) (k * d) = true)
    (p1 : wrap64 (k * a) = k * a) (p2 : wrap64 (k * b) = k * b) (s1 : apartF (k * a) (k * b) (k * c) (k * d) = apartF a b c d) (s2 : touchF (k * b) (k * c) = touchF b c) (s3 : cmpF (k * a) (k * b) (k * c) (k * d) = cmpF a b c d)
    (k1 : cmpF a b c d = 0) (k2 : cmpF c d a b = 0) (k3 : sameF a b c d = true) (k4 : apartF c d a b = apartF a b c d) (zx : zeroF b = false) (zy : zeroF d = false) (t0 : apartF a b c d = false) (t1 : ¬ b ≤ c) (t2 : ¬ d ≤ a) (w : World) :
    Calls Try.prog 4 #[arrV a0 a1, arrV b0 b1, arrV c0 c1, .int .u8 n] w fun e w' => e = .returned (.bool true) ∧ Below w.heap.size w w' := by
  have HB := Lib.hid (below3 w (.cells #[.int .u16 a0, .int .u16 a1] 36) (.cells #[.int .u16 b0, .int .u16 b1] 36) (.cells #[.int .u16 c0, .int .u16 c1] 36))
  go_enter Try.func4, Try.ntmps4
  go_wp2_with (go_at_call 5; refine (of_sp (by have := RR.out; omega) (by have := RR.out; omega) (by assumption) _).mono ?_; rintro e w' ⟨⟨x, y, rfl, hs⟩, rfl⟩)
  have z1 := zero_of (a := a) (b := b) (by assumption)
  have z2 := zero_of (a := c) (b := d) (by assumption)
  have z3 := same_of (a := a) (b := b) (c := c) (d := d) (by assumption) (by assumption)
  go_wp2_with (first
    | (go_at_call 12; refine (apart_any (by assumption) (by assumption) _).mono ?_; rintro e w' ⟨rfl, rfl⟩)
    | (go_at_call 14; refine (touch_any (by assumption) (by assumption) _).mono ?_; rintro e w' ⟨rfl, rfl⟩)
    | (go_at_call 15; refine (compare_any (by assumption) (by assumption) _).mono ?_; rintro e w' ⟨rfl, hbx⟩; replace HB := Lib.hid (HB.out.trans (hbx.mono HB.out.size)); clear hbx)
    | (go_at_call 9; refine (from_any (by assumption) _).mono ?_; rintro e w' ⟨rfl, rfl⟩)
    | (go_at_call 10; refine (to_any (by assumption) _).mono ?_; rintro e w' ⟨rfl, rfl⟩)
    | (go_at_call 16; refine (times_any (by assumption) hk1 hk2 (by assumption) _).mono ?_; rintro e w' ⟨⟨u, v, rfl, ht⟩, rfl⟩)
    | (go_at_call 8; refine (wakes_any _).mono ?_; rintro e w' ⟨rfl, hbx⟩; replace HB := Lib.hid (HB.out.trans (hbx.mono HB.out.size)); clear hbx))
  go_ret
  exact ⟨rfl, HB.out⟩

set_option maxRecDepth 100000 in
set_option maxHeartbeats 4000000 in
theorem order_skip {a0 a1 b0 b1 c0 c1 n a b c d e f : Int} (ea : (wrap64 a0).tmod 1000 = a) (eb : (wrap64 a1).tmod 1000 = b) (ec : (wrap64 b0).tmod 1000 = c) (ed : (wrap64 b1).tmod 1000 = d) (ee : (wrap64 c0).tmod 1000 = e) (ef : (wrap64 c1).tmod 1000 = f)
    (RR : Hid ((0 ≤ a ∧ a < 1000) ∧ (0 ≤ b ∧ b < 1000) ∧ (0 ≤ c ∧ c < 1000) ∧ (0 ≤ d ∧ d < 1000) ∧ (0 ≤ e ∧ e < 1000) ∧ (0 ≤ f ∧ f < 1000)))
    (hno : (mayF a b && mayF c d && mayF e f) = false) (w : World) :
    Calls Try.prog 4 #[arrV a0 a1, arrV b0 b1, arrV c0 c1, .int .u8 n] w fun e w' => e = .returned (.bool true) ∧ Below w.heap.size w w' := by
  have HB := Lib.hid (below3 w (.cells #[.int .u16 a0, .int .u16 a1] 36) (.cells #[.int .u16 b0, .int .u16 b1] 36) (.cells #[.int .u16 c0, .int .u16 c1] 36))
  cases mx : mayF a b <;> cases my : mayF c d <;> cases mz : mayF e f
  case true.true.true => rw [mx, my, mz] at hno; cases hno
  all_goals
    clear hno
    go_enter Try.func4, Try.ntmps4
    go_wp2_with (first | (go_at_call 5; first | (refine (of_sp (by have := RR.out; omega) (by have := RR.out; omega) (by assumption) _).mono ?_; rintro e w' ⟨⟨x, y, rfl, hs⟩, rfl⟩) | (refine (of_no (by have := RR.out; omega) (by have := RR.out; omega) (by assumption) _).mono ?_; rintro e w' ⟨rfl, rfl⟩)) | (go_at_call 8; refine (wakes_any _).mono ?_; rintro e w' ⟨rfl, hbx⟩; replace HB := Lib.hid (HB.out.trans (hbx.mono HB.out.size)); clear hbx))
    go_ret
    exact ⟨rfl, HB.out⟩
end Go.Proofs.Ytciannedpbhfmaa.Spn
