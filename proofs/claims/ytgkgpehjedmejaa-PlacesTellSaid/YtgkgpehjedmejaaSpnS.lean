/- Layer 9 (span), plain: what float64 gives for whole numbers: which number a word stands for; comparisons, sums, products, conversions. -/
import Derived.WalkKit
import Derived.WalkLawsBesides
namespace Go.Proofs.Ytgkgpehjedmejaa.Spn
open Ieee

/-- The word stands for this whole number, exactly (0 with either sign). -/
def Is (x : Nat) (a : Int) : Prop := ∃ (s : Bool) (k : Nat), double.read x = .number s (a.natAbs * 2 ^ k) (-(k : Int)) ∧ if s then a ≤ 0 else 0 ≤ a
/-- The word stands for a number of this sign, and at least 2 to the 52nd. -/
def Big (x : Nat) (s : Bool) : Prop := ∃ m e : Nat, double.read x = .number s m (e : Int) ∧ 2 ^ 52 ≤ m

theorem least : double.leastPlace = -1074 := by decide
theorem binade : double.binade = 2 ^ 52 := by decide
theorem infR : double.infRung = 2047 * 2 ^ 52 := by decide
theorem weight : double.signWeight = 2 ^ 63 := by decide
theorem frac : double.fractionBits = 52 := by decide

theorem signed_abs (s : Bool) (a : Int) (k u : Nat) (h : if s then a ≤ 0 else 0 ≤ a) : signed s (a.natAbs * 2 ^ k) u = a * 2 ^ (k + u) := by
  have e : ((a.natAbs * 2 ^ k) <<< u : Nat) = a.natAbs * 2 ^ (k + u) := by rw [Nat.shiftLeft_eq, Nat.mul_assoc, Nat.pow_add]
  unfold signed
  rw [e]
  cases s
  · simp only [Bool.false_eq_true, if_false] at h ⊢
    rw [Int.natCast_mul, Int.natAbs_of_nonneg h]; simp
  · simp only [if_true] at h ⊢
    rw [Int.natCast_mul, Int.ofNat_natAbs_of_nonpos h, Int.neg_mul, Int.neg_neg]; simp

theorem compare_mul (a b : Int) (M : Nat) : compare (a * 2 ^ M) (b * 2 ^ M) = compare a b := by
  have hp : (0 : Int) < 2 ^ M := Int.pow_pos (by decide)
  show compareOfLessAndEq _ _ = compareOfLessAndEq _ _
  unfold compareOfLessAndEq
  have h1 : a * 2 ^ M < b * 2 ^ M ↔ a < b := Int.mul_lt_mul_right hp
  have h2 : a * 2 ^ M = b * 2 ^ M ↔ a = b := Int.mul_eq_mul_right_iff (by omega)
  simp only [h1, h2]

theorem order_is {x y : Nat} {a b : Int} (hx : Is x a) (hy : Is y b) : FloatKind.f64.format.order x y = some (compare a b) := by
  obtain ⟨s, k, hx, hs⟩ := hx
  obtain ⟨t, l, hy, ht⟩ := hy
  show (double.read x).order (double.read y) = _
  rw [hx, hy]
  simp only [Datum.order]
  by_cases h : k ≤ l
  · rw [show min (-(k : Int)) (-(l : Int)) = -(l : Int) by omega, show (-(k : Int) - -(l : Int)).toNat = l - k by omega, show (-(l : Int) - -(l : Int)).toNat = 0 by omega,
      signed_abs s a k _ hs, signed_abs t b l _ ht, show k + (l - k) = l + 0 by omega, compare_mul]
  · rw [show min (-(k : Int)) (-(l : Int)) = -(k : Int) by omega, show (-(l : Int) - -(k : Int)).toNat = k - l by omega, show (-(k : Int) - -(k : Int)).toNat = 0 by omega,
      signed_abs s a k _ hs, signed_abs t b l _ ht, show l + (k - l) = k + 0 by omega, compare_mul]

theorem read_word (s : Bool) (r : Nat) (h1 : 2 ^ 52 ≤ r) (h2 : r < 2047 * 2 ^ 52) : double.read (double.word s r) = .number s (2 ^ 52 + r % 2 ^ 52) (-1074 + ((r / 2 ^ 52 - 1 : Nat) : Int)) := by
  have e1 : double.word s r / 2 ^ 63 % 2 = if s then 1 else 0 := by
    unfold Format.word; rw [weight]; cases s <;> simp <;> omega
  have e2 : double.word s r % 2 ^ 63 = r := by
    unfold Format.word; rw [weight]; cases s <;> simp <;> omega
  unfold Format.read
  simp only [weight, binade, infR, least, e1, e2]
  rw [if_neg (by omega), if_pos h2]
  cases s <;> rfl

theorem log2_mul (c k : Nat) (h : c ≠ 0) : (c * 2 ^ k).log2 = c.log2 + k := by
  have hp : 0 < 2 ^ k := Nat.two_pow_pos k
  have hc : c * 2 ^ k ≠ 0 := Nat.mul_ne_zero h (by omega)
  rw [Nat.log2_eq_iff hc]
  have h1 := Nat.log2_self_le h
  have h2 : c < 2 ^ (c.log2 + 1) := Nat.lt_log2_self
  refine ⟨?_, ?_⟩
  · rw [Nat.pow_add]; exact Nat.mul_le_mul_right _ h1
  · rw [show c.log2 + k + 1 = (c.log2 + 1) + k by omega, Nat.pow_add]; exact Nat.mul_lt_mul_of_pos_right h2 hp

/-- A cut that drops nothing but noughts. -/
theorem cut_exact (way : Toward) (hw : way = .even ∨ way = .zero) (s : Bool) (q v : Nat) : way.cut s (q * 2 ^ v) v = q := by
  have hlow : ∀ g : Nat, 0 < g → (q * 2 ^ v) / g = q → (q * 2 ^ v) % g = 0 → g = 1 <<< min v ((q * 2 ^ v).log2 + 2) → way.cut s (q * 2 ^ v) v = q := by
    intro g hg hd hm he
    unfold Toward.cut
    simp only [← he, hd, hm]
    rcases hw with rfl | rfl
    · simp only [Nat.mul_zero, Nat.not_lt_zero, decide_false, Bool.false_or]
      have : (g == 0) = false := by simp; omega
      rw [this]; rfl
    · rfl
  by_cases hq : q = 0
  · subst hq
    exact hlow _ (by rw [Nat.one_shiftLeft]; exact Nat.two_pow_pos _) (by simp) (by simp) rfl
  · have hl := log2_mul q v hq
    have hp := Nat.two_pow_pos v
    refine hlow (2 ^ v) hp (Nat.mul_div_cancel _ hp) (Nat.mul_mod_left _ _) ?_
    rw [hl, show min v (q.log2 + v + 2) = v by omega, Nat.one_shiftLeft]

theorem nearest_is (s : Bool) (a : Int) (k : Nat) (hs : if s then a ≤ 0 else 0 ≤ a) (ha : a.natAbs < 2 ^ 53) : Is (double.nearest s (a.natAbs * 2 ^ k) (-(k : Int))) a := by
  by_cases h0 : a.natAbs = 0
  · have : a = 0 := by omega
    subst this
    refine ⟨s, 1074, ?_, hs⟩
    unfold Format.nearest
    simp only [Int.natAbs_zero, Nat.zero_mul, if_true]
    cases s <;> decide
  · generalize hc : a.natAbs = c at ha h0
    have hL1 := Nat.log2_self_le h0
    have hL2 : c < 2 ^ (c.log2 + 1) := Nat.lt_log2_self
    have hL : c.log2 ≤ 52 := by
      have : c.log2 < 53 := (Nat.log2_lt h0).2 ha
      omega
    have hne : c * 2 ^ k ≠ 0 := Nat.mul_ne_zero h0 (Nat.ne_of_gt (Nat.two_pow_pos k))
    generalize hLL : c.log2 = L at hL1 hL2 hL
    have hk1 : 2 ^ 52 ≤ c * 2 ^ (52 - L) := by
      rw [show (52 : Nat) = L + (52 - L) by omega, Nat.pow_add, show L + (52 - L) - L = 52 - L by omega]
      exact Nat.mul_le_mul_right _ hL1
    have hk2 : c * 2 ^ (52 - L) < 2 ^ 53 := by
      rw [show (53 : Nat) = (L + 1) + (52 - L) by omega, Nat.pow_add]
      exact Nat.mul_lt_mul_of_pos_right hL2 (Nat.two_pow_pos _)
    have e : double.nearest s (c * 2 ^ k) (-(k : Int)) = double.word s ((L + 1022) * 2 ^ 52 + c * 2 ^ (52 - L)) := by
      unfold Format.nearest
      rw [if_neg hne, log2_mul c k h0, hLL]
      simp only [frac, least, binade, infR]
      rw [show max (-(k : Int) + ((L + k : Nat) : Int) - ((52 : Nat) : Int)) (-1074) = (L : Int) - 52 by omega]
      have hcut : Toward.even.cut s ((c * 2 ^ k) <<< (-(k : Int) - ((L : Int) - 52)).toNat) ((L : Int) - 52 - -(k : Int)).toNat = c * 2 ^ (52 - L) := by
        rw [Nat.shiftLeft_eq, Nat.mul_assoc, ← Nat.pow_add, show k + (-(k : Int) - ((L : Int) - 52)).toNat = (52 - L) + ((L : Int) - 52 - -(k : Int)).toNat by omega, Nat.pow_add, ← Nat.mul_assoc]
        exact cut_exact _ (.inl rfl) _ _ _
      rw [hcut, show ((L : Int) - 52 - -1074).toNat = L + 1022 by omega]
      rw [Nat.min_eq_left (by omega)]
    rw [e]
    refine ⟨s, 52 - L, ?_, hs⟩
    rw [read_word s _ (by omega) (by omega), hc]
    have e1 : 2 ^ 52 + ((L + 1022) * 2 ^ 52 + c * 2 ^ (52 - L)) % 2 ^ 52 = c * 2 ^ (52 - L) := by omega
    have e2 : ((L + 1022) * 2 ^ 52 + c * 2 ^ (52 - L)) / 2 ^ 52 = L + 1023 := by omega
    rw [e1, e2]
    exact congrArg (Datum.number s _) (by omega)

theorem sign_neg (a : Int) : if decide (a < 0) then a ≤ 0 else 0 ≤ a := by
  by_cases h : a < 0
  · simp [h]; omega
  · simp [h]; omega
theorem is_fl (n : Int) (h : n.natAbs < 2 ^ 53) : Is (floatOfInt .f64 n) n := by
  have := nearest_is (decide (n < 0)) n 0 (sign_neg n) h
  rw [Nat.pow_zero, Nat.mul_one] at this
  exact this
theorem big_fl (n : Int) (h : 2 ^ 53 ≤ n.natAbs) (h2 : n.natAbs ≤ 2 ^ 64) : Big (floatOfInt .f64 n) (decide (n < 0)) := by
  show Big (double.nearest (decide (n < 0)) n.natAbs 0) _
  generalize decide (n < 0) = s
  generalize n.natAbs = c at h h2
  have h0 : c ≠ 0 := by omega
  have hL1 := Nat.log2_self_le h0
  have hL2 : c < 2 ^ (c.log2 + 1) := Nat.lt_log2_self
  have hLa : 53 ≤ c.log2 := (Nat.le_log2 h0).2 h
  have hLb : c.log2 < 65 := (Nat.log2_lt h0).2 (by omega)
  unfold Format.nearest
  rw [if_neg h0]
  generalize hLL : c.log2 = L at hL1 hL2 hLa hLb
  simp only [frac, least, binade, infR]
  rw [show max ((0 : Int) + (L : Int) - ((52 : Nat) : Int)) (-1074) = (L : Int) - 52 by omega, show ((0 : Int) - ((L : Int) - 52)).toNat = 0 by omega, show ((L : Int) - 52 - 0).toNat = L - 52 by omega, show ((L : Int) - 52 - -1074).toNat = L + 1022 by omega, Nat.shiftLeft_zero]
  have hp := Nat.two_pow_pos (L - 52)
  have hlow1 : 2 ^ 52 ≤ c / 2 ^ (L - 52) := by
    rw [Nat.le_div_iff_mul_le hp, ← Nat.pow_add, show 52 + (L - 52) = L by omega]; exact hL1
  have hlow2 : c / 2 ^ (L - 52) < 2 ^ 53 := by
    rw [Nat.div_lt_iff_lt_mul hp, ← Nat.pow_add, show 53 + (L - 52) = L + 1 by omega]; exact hL2
  have hcut : ∃ b : Bool, Toward.even.cut s c (L - 52) = c / 2 ^ (L - 52) + b.toNat := by
    unfold Toward.cut
    simp only [hLL]
    rw [show min (L - 52) (L + 2) = L - 52 by omega, Nat.one_shiftLeft]
    exact ⟨_, rfl⟩
  obtain ⟨b, hcut⟩ := hcut
  rw [hcut]
  have hb : b.toNat ≤ 1 := by cases b <;> decide
  generalize hq : c / 2 ^ (L - 52) + b.toNat = q
  have hq1 : 2 ^ 52 ≤ q := by omega
  have hq2 : q ≤ 2 ^ 53 := by omega
  rw [Nat.min_eq_left (by omega), Big]
  refine ⟨2 ^ 52 + ((L + 1022) * 2 ^ 52 + q) % 2 ^ 52, (((L + 1022) * 2 ^ 52 + q) / 2 ^ 52 - 1) - 1074, ?_, by omega⟩
  rw [read_word s _ (by omega) (by omega)]
  congr 1
  omega

theorem order_big {x y : Nat} {s : Bool} {b : Int} (hx : Big x s) (hy : Is y b) (hb : b.natAbs < 2 ^ 52) : FloatKind.f64.format.order x y = some (if s then .lt else .gt) := by
  obtain ⟨m, e, hx, hm⟩ := hx
  obtain ⟨t, l, hy, ht⟩ := hy
  show (double.read x).order (double.read y) = _
  rw [hx, hy]
  simp only [Datum.order]
  rw [show min (e : Int) (-(l : Int)) = -(l : Int) by omega, show ((e : Int) - -(l : Int)).toNat = l + e by omega, show (-(l : Int) - -(l : Int)).toNat = 0 by omega, signed_abs t b l _ ht]
  have hge : 2 ^ 52 * 2 ^ l ≤ m <<< (l + e) := by
    rw [Nat.shiftLeft_eq, Nat.pow_add]
    calc 2 ^ 52 * 2 ^ l ≤ m * 2 ^ l := Nat.mul_le_mul_right _ hm
      _ ≤ m * (2 ^ l * 2 ^ e) := Nat.mul_le_mul_left _ (Nat.le_mul_of_pos_right _ (Nat.two_pow_pos e))
  have hpn : 0 < 2 ^ l := Nat.two_pow_pos l
  have hbl : b.natAbs * 2 ^ l < 2 ^ 52 * 2 ^ l := Nat.mul_lt_mul_of_pos_right hb hpn
  have hba : ((b * 2 ^ (l + 0) : Int)).natAbs = b.natAbs * 2 ^ l := by
    rw [Int.natAbs_mul, Nat.add_zero, Int.natAbs_pow]; rfl
  generalize (b * 2 ^ (l + 0) : Int) = B at hba ⊢
  generalize b.natAbs * 2 ^ l = B' at hba hbl
  generalize 2 ^ 52 * 2 ^ l = C at hge hbl
  unfold signed
  generalize m <<< (l + e) = M at hge
  show some (compareOfLessAndEq _ _) = _
  unfold compareOfLessAndEq
  cases s
  · simp only [Bool.false_eq_true, if_false]
    rw [if_neg (by omega), if_neg (by omega)]
  · simp only [if_true]
    rw [if_pos (by omega)]

theorem toInt_is {x : Nat} {a : Int} (h : Is x a) : (FloatKind.f64.decode x).toInt .zero = some a := by
  obtain ⟨s, k, hx, hs⟩ := h
  show (double.read x).toInt .zero = _
  rw [hx]
  unfold Datum.toInt Datum.integral
  simp only
  rw [show (-(k : Int)).toNat = 0 by omega, show (-(-(k : Int))).toNat = k by omega, Nat.shiftLeft_zero, cut_exact _ (.inr rfl)]
  have := signed_abs s a 0 0 hs
  simpa using this
/-- What Trunc gives: the number itself. -/
theorem trunc_is {x : Nat} {a : Int} (h : Is x a) (ha : a.natAbs < 2 ^ 53) : ∃ s m e, FloatKind.f64.decode x = .number s m e ∧ Is (FloatKind.f64.encode ((Datum.number s m e).integral .zero)) a := by
  obtain ⟨s, k, hx, hs⟩ := h
  refine ⟨_, _, _, hx, ?_⟩
  unfold Datum.integral
  simp only
  rw [show (-(k : Int)).toNat = 0 by omega, show (-(-(k : Int))).toNat = k by omega, Nat.shiftLeft_zero, cut_exact _ (.inr rfl)]
  have := nearest_is s a 0 hs ha
  rw [Nat.pow_zero, Nat.mul_one] at this
  exact this

/-- The datum is this whole number. -/
def IsD (d : Datum) (a : Int) : Prop := ∃ (s : Bool) (k : Nat), d = .number s (a.natAbs * 2 ^ k) (-(k : Int)) ∧ if s then a ≤ 0 else 0 ≤ a
theorem sum_isD {d d' : Datum} {a b : Int} (hx : IsD d a) (hy : IsD d' b) (h : (a + b).natAbs < 2 ^ 53) : ∃ z, (d.sum d').map double.write = some z ∧ Is z (a + b) := by
  obtain ⟨s, k, rfl, hs⟩ := hx
  obtain ⟨t, l, rfl, ht⟩ := hy
  have H : ∀ M : Nat, signed s (a.natAbs * 2 ^ k) (-(k : Int) - -(M : Int)).toNat + signed t (b.natAbs * 2 ^ l) (-(l : Int) - -(M : Int)).toNat = (a + b) * 2 ^ M → min (-(k : Int)) (-(l : Int)) = -(M : Int) →
      ∃ z, (Datum.sum (.number s (a.natAbs * 2 ^ k) (-(k : Int))) (.number t (b.natAbs * 2 ^ l) (-(l : Int)))).map double.write = some z ∧ Is z (a + b) := by
    intro M e hm
    simp only [Datum.sum, hm, e, Option.map_some]
    have hp : (0 : Int) < 2 ^ M := Int.pow_pos (by decide)
    have e2 : ((a + b) * 2 ^ M : Int).natAbs = (a + b).natAbs * 2 ^ M := by rw [Int.natAbs_mul, Int.natAbs_pow]; rfl
    refine ⟨_, rfl, ?_⟩
    unfold Format.write
    simp only [e2]
    refine nearest_is _ _ _ ?_ h
    by_cases h0 : (a + b) * 2 ^ M = 0
    · have : a + b = 0 := by
        rcases Int.mul_eq_zero.1 h0 with h | h
        · exact h
        · rw [h] at hp; exact absurd hp (by decide)
      rw [this]; split <;> split <;> exact Int.le_refl 0
    · rw [if_neg h0]
      by_cases hn : (a + b) * 2 ^ M < 0
      · rw [decide_eq_true hn]
        simp only [if_true]
        apply Classical.byContradiction
        intro hc
        have : 0 ≤ (a + b) * 2 ^ M := Int.mul_nonneg (by omega) (Int.le_of_lt hp)
        omega
      · rw [decide_eq_false hn]
        simp only [Bool.false_eq_true, if_false]
        apply Classical.byContradiction
        intro hc
        have : (a + b) * 2 ^ M < 0 := Int.mul_neg_of_neg_of_pos (by omega) hp
        omega
  by_cases hkl : k ≤ l
  · refine H l ?_ (by omega)
    rw [signed_abs s a k _ hs, signed_abs t b l _ ht, show k + (-(k : Int) - -(l : Int)).toNat = l by omega, show l + (-(l : Int) - -(l : Int)).toNat = l by omega, Int.add_mul]
  · refine H k ?_ (by omega)
    rw [signed_abs s a k _ hs, signed_abs t b l _ ht, show k + (-(k : Int) - -(k : Int)).toNat = k by omega, show l + (-(l : Int) - -(k : Int)).toNat = k by omega, Int.add_mul]
theorem sum_is {x y : Nat} {a b : Int} (hx : Is x a) (hy : Is y b) (h : (a + b).natAbs < 2 ^ 53) : ∃ z, double.add x y = some z ∧ Is z (a + b) := sum_isD hx hy h
theorem opp_isD {d : Datum} {a : Int} (h : IsD d a) : IsD d.opposite (-a) := by
  obtain ⟨s, k, rfl, hs⟩ := h
  refine ⟨!s, k, by rw [Int.natAbs_neg]; rfl, ?_⟩
  cases s
  · simp at hs ⊢; exact hs
  · simp at hs ⊢; omega
theorem sub_is {x y : Nat} {a b : Int} (hx : Is x a) (hy : Is y b) (h : (a - b).natAbs < 2 ^ 53) : ∃ z, double.sub x y = some z ∧ Is z (a - b) := sum_isD hx (opp_isD hy) h

theorem mul_is {x y : Nat} {a b : Int} (hx : Is x a) (hy : Is y b) (h : (a * b).natAbs < 2 ^ 53) : ∃ z, double.mul x y = some z ∧ Is z (a * b) := by
  obtain ⟨s, k, hx, hs⟩ := hx
  obtain ⟨t, l, hy, ht⟩ := hy
  unfold Format.mul
  rw [hx, hy]
  simp only [Datum.product, Option.map_some]
  refine ⟨_, rfl, ?_⟩
  unfold Format.write
  simp only
  have e : a.natAbs * 2 ^ k * (b.natAbs * 2 ^ l) = (a * b).natAbs * 2 ^ (k + l) := by
    rw [Int.natAbs_mul, Nat.pow_add]; simp only [Nat.mul_assoc, Nat.mul_left_comm]
  rw [e, show -(k : Int) + -(l : Int) = -((k + l : Nat) : Int) by omega]
  refine nearest_is _ _ _ ?_ h
  cases s <;> cases t <;> simp at hs ht ⊢
  · exact Int.mul_nonneg hs ht
  · exact Int.mul_nonpos_of_nonneg_of_nonpos hs ht
  · exact Int.mul_nonpos_of_nonpos_of_nonneg hs ht
  · exact Int.mul_nonneg_of_nonpos_of_nonpos hs ht
/-- A complex product by a number that has no imaginary part. -/
theorem cmul_is {x y u v : Nat} {a b n : Int} (hx : Is x a) (hy : Is y b) (hu : Is u n) (hv : Is v 0) (h1 : (a * n).natAbs < 2 ^ 53) (h2 : (b * n).natAbs < 2 ^ 53) :
    ∃ re im, cMulBits x y u v = some (re, im) ∧ Is re (a * n) ∧ Is im (b * n) := by
  obtain ⟨ac, e1, i1⟩ := mul_is hx hu h1
  obtain ⟨bd, e2, i2⟩ := mul_is hy hv (by rw [Int.mul_zero]; decide)
  obtain ⟨re, e3, i3⟩ := sub_is i1 i2 (by rw [Int.mul_zero, Int.sub_zero]; exact h1)
  obtain ⟨ad, e4, i4⟩ := mul_is hx hv (by rw [Int.mul_zero]; decide)
  obtain ⟨bc, e5, i5⟩ := mul_is hy hu h2
  obtain ⟨im, e6, i6⟩ := sum_is i4 i5 (by rw [Int.mul_zero, Int.zero_add]; exact h2)
  refine ⟨re, im, ?_, by rwa [Int.mul_zero, Int.sub_zero] at i3, by rwa [Int.mul_zero, Int.zero_add] at i6⟩
  unfold cMulBits floatBits
  simp only
  rw [show FloatKind.f64.format = double from rfl, e1, e2, Option.bind_some, Option.bind_some, e3, e4, e5, Option.bind_some, Option.bind_some, Option.bind_some, e6, Option.bind_some]
end Go.Proofs.Ytgkgpehjedmejaa.Spn
