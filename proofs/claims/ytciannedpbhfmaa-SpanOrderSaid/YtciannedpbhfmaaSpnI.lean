/- Proved here: troth/trothlaw09.SpanOrder answers true for any three pairs of numbers and any factor (spans that are apart stand in one order, what is less of less is less, and all stays so with greater times), and leaves its arguments alone. Condition: none. -/
import Derived.Test.YtciannedpbhfmaaSpnH
import Derived.WideKeyPair
namespace Go.Proofs.Ytciannedpbhfmaa.Spn
open Go.RowKit Go.ChangeShapes Go.WideShapes Go.ChangeAt Go.Joins Go.Proofs.Ytciannedpbhfmaa.Mem

theorem scale_lt {k : Int} (hk : 1 ≤ k) (x y : Int) : k * x < k * y ↔ x < y := Int.mul_lt_mul_left (by omega)
theorem scale_apart {k : Int} (hk : 1 ≤ k) (a b c d : Int) : apartF (k * a) (k * b) (k * c) (k * d) = apartF a b c d := by
  have h1 := scale_lt hk b d
  have h2 := scale_lt hk a c
  have h3 := scale_lt hk a b
  have h4 := scale_lt hk a d
  have h5 := scale_lt hk c b
  have h6 := scale_lt hk c d
  unfold apartF
  rw [Bool.eq_iff_iff, decide_eq_true_eq, decide_eq_true_eq]
  omega
theorem scale_touch {k : Int} (hk : 1 ≤ k) (b c : Int) : touchF (k * b) (k * c) = touchF b c := by
  have h1 := scale_lt hk b c
  have h2 := scale_lt hk c b
  unfold touchF
  rw [Bool.eq_iff_iff, decide_eq_true_eq, decide_eq_true_eq]
  omega
theorem scale_one {k : Int} (hk : 1 ≤ k) (b d : Int) : cmp1 (k * b) (k * d) = cmp1 b d := by
  unfold cmp1
  simp only [scale_lt hk]
theorem scale_cmp {k : Int} (hk : 1 ≤ k) (a b c d : Int) : cmpF (k * a) (k * b) (k * c) (k * d) = cmpF a b c d := by
  unfold cmpF
  rw [scale_one hk, scale_one hk]
theorem scale_range {k x : Int} (hk : 1 ≤ k) (hk2 : k ≤ 256) (h0 : 0 ≤ x) (h1 : x < 1000) : 0 ≤ k * x ∧ k * x ≤ 256000 := by
  have := Int.mul_le_mul hk2 (show x ≤ 1000 by omega) h0 (by omega)
  exact ⟨Int.mul_nonneg (by omega) h0, by omega⟩
theorem scale_may {k a b : Int} (hk : 1 ≤ k) (hk2 : k ≤ 256) (ra : 0 ≤ a ∧ a < 1000) (rb : 0 ≤ b ∧ b < 1000) (hm : mayF a b = true) : mayF (k * a) (k * b) = true := by
  have hm := of_decide_eq_true hm
  have h1 := scale_range hk hk2 ra.1 ra.2
  have h2 := scale_range hk hk2 rb.1 rb.2
  have h3 := scale_lt hk a b
  refine decide_eq_true ?_
  rcases hm with h | ⟨rfl, rfl⟩
  · left; omega
  · right; simp

/-- What the order of two spans says. -/
theorem cmp_lt {a b c d : Int} : cmpF a b c d = -1 ↔ (b < d ∨ (b = d ∧ a < c)) := by
  unfold cmpF orF cmp1; split <;> split <;> (try split) <;> (try split) <;> omega
theorem cmp_gt {a b c d : Int} : cmpF a b c d = 1 ↔ (d < b ∨ (b = d ∧ c < a)) := by
  unfold cmpF orF cmp1; split <;> split <;> (try split) <;> (try split) <;> omega
theorem cmp_eq {a b c d : Int} : cmpF a b c d = 0 ↔ (b = d ∧ a = c) := by
  unfold cmpF orF cmp1; split <;> split <;> (try split) <;> (try split) <;> omega
theorem apart_sym (a b c d : Int) : apartF c d a b = apartF a b c d := by
  unfold apartF
  rw [Bool.eq_iff_iff, decide_eq_true_eq, decide_eq_true_eq]; omega

theorem w64 {n : Int} (h0 : 0 ≤ n) (h1 : n < 9223372036854775808) : wrap64 n = n := by unfold wrap64; omega
theorem order_any {a0 a1 b0 b1 c0 c1 n : Int} (h1 : 0 ≤ a0 ∧ a0 ≤ 65535) (h2 : 0 ≤ a1 ∧ a1 ≤ 65535) (h3 : 0 ≤ b0 ∧ b0 ≤ 65535) (h4 : 0 ≤ b1 ∧ b1 ≤ 65535) (h5 : 0 ≤ c0 ∧ c0 ≤ 65535) (h6 : 0 ≤ c1 ∧ c1 ≤ 65535) (hn : 0 ≤ n ∧ n ≤ 255) (w : World) :
    Calls Try.prog 4 #[arrV a0 a1, arrV b0 b1, arrV c0 c1, .int .u8 n] w fun e w' => e = .returned (.bool true) ∧ Below w.heap.size w w' := by
  have low : ∀ x : Int, 0 ≤ x ∧ x ≤ 65535 → 0 ≤ (wrap64 x).tmod 1000 ∧ (wrap64 x).tmod 1000 < 1000 := fun x hx => by
    rw [w64 (by omega) (by omega), Int.tmod_eq_emod_of_nonneg hx.1]; omega
  have hw : ∀ x : Int, 0 ≤ x ∧ x ≤ 256000 → wrap64 x = x := fun x hx => w64 (by omega) (by omega)
  have ra := low a0 h1
  have rb := low a1 h2
  have rc := low b0 h3
  have rd := low b1 h4
  have re := low c0 h5
  have rf := low c1 h6
  have hk : wrap64 (1 + wrap64 n) = 1 + n := by rw [hw n (by omega), hw (1 + n) (by omega)]
  clear h1 h2 h3 h4 h5 h6 low
  generalize ea : (wrap64 a0).tmod 1000 = a at ra
  generalize eb : (wrap64 a1).tmod 1000 = b at rb
  generalize ec : (wrap64 b0).tmod 1000 = c at rc
  generalize ed : (wrap64 b1).tmod 1000 = d at rd
  generalize ee : (wrap64 c0).tmod 1000 = e at re
  generalize ef : (wrap64 c1).tmod 1000 = f at rf
  have RR := Lib.hid (And.intro ra (And.intro rb (And.intro rc (And.intro rd (And.intro re rf)))))
  cases hno : (mayF a b && mayF c d && mayF e f)
  · exact order_skip ea eb ec ed ee ef RR hno w
  · simp only [Bool.and_eq_true] at hno
    obtain ⟨⟨mx, my⟩, mz⟩ := hno
    have k1 : 1 ≤ 1 + n := by omega
    have k2 : 1 + n ≤ 256 := by omega
    have k3 : 1 + n ≤ 1048576 := by omega
    have m1 := scale_may k1 k2 ra rb mx
    have m2 := scale_may k1 k2 rc rd my
    have p1 := hw _ (scale_range k1 k2 ra.1 ra.2)
    have p2 := hw _ (scale_range k1 k2 rb.1 rb.2)
    have s1 := scale_apart k1 a b c d
    have s2 := scale_touch k1 b c
    have s3 := scale_cmp k1 a b c d
    have dx := of_decide_eq_true mx
    have dy := of_decide_eq_true my
    have dz := of_decide_eq_true mz
    have sy := apart_sym a b c d
    have ht : ∀ {p : Prop} [Decidable p], p → decide p = true := fun h => decide_eq_true h
    have hf : ∀ {p : Prop} [Decidable p], ¬ p → decide p = false := fun h => decide_eq_false h
    rcases cmp_less a b c d with ⟨_, _, lc⟩ | ⟨_, _, lc⟩ | ⟨_, _, lc⟩
    · have lt := cmp_lt.1 lc
      have gt : cmpF c d a b = 1 := cmp_gt.2 (by omega)
      have hs : sameF a b c d = false := hf (by omega)
      by_cases hz : cmpF c d e f = -1
      · have hz' := cmp_lt.1 hz
        have hxz : cmpF a b e f = -1 := cmp_lt.2 (by omega)
        by_cases h0 : b = 0
        · exact less_zero_on ea eb ec ed ee ef RR hk k1 k3 mx my mz m1 m2 p1 p2 s1 s2 s3 lc gt hs sy (ht h0) hz hxz w
        · by_cases hi : b ≤ c
          · exact less_apart_on ea eb ec ed ee ef RR hk k1 k3 mx my mz m1 m2 p1 p2 s1 s2 s3 lc gt hs sy (hf h0) (hf (by omega)) (ht (by omega)) hi hz hxz w
          · exact less_in_on ea eb ec ed ee ef RR hk k1 k3 mx my mz m1 m2 p1 p2 s1 s2 s3 lc gt hs sy (hf h0) (hf (by omega)) (hf (by omega)) hi (by omega) hz hxz w
      · have hz' : ¬ cmpF c d e f < 0 := by
          rcases cmp_less c d e f with ⟨_, _, l⟩ | ⟨_, _, l⟩ | ⟨_, _, l⟩
          · exact absurd l hz
          · omega
          · omega
        by_cases h0 : b = 0
        · exact less_zero_off ea eb ec ed ee ef RR hk k1 k3 mx my mz m1 m2 p1 p2 s1 s2 s3 lc gt hs sy (ht h0) hz' w
        · by_cases hi : b ≤ c
          · exact less_apart_off ea eb ec ed ee ef RR hk k1 k3 mx my mz m1 m2 p1 p2 s1 s2 s3 lc gt hs sy (hf h0) (hf (by omega)) (ht (by omega)) hi hz' w
          · exact less_in_off ea eb ec ed ee ef RR hk k1 k3 mx my mz m1 m2 p1 p2 s1 s2 s3 lc gt hs sy (hf h0) (hf (by omega)) (hf (by omega)) hi (by omega) hz' w
    · have lt := cmp_gt.1 lc
      have gt : cmpF c d a b = -1 := cmp_lt.2 (by omega)
      have hs : sameF a b c d = false := hf (by omega)
      by_cases h0 : d = 0
      · exact more_zero ea eb ec ed ee ef RR hk k1 k3 mx my mz m1 m2 p1 p2 s1 s2 s3 lc gt hs sy (hf (by omega)) (ht h0) w
      · by_cases hi : d ≤ a
        · exact more_apart ea eb ec ed ee ef RR hk k1 k3 mx my mz m1 m2 p1 p2 s1 s2 s3 lc gt hs sy (hf (by omega)) (hf h0) (ht (by omega)) (by omega) hi w
        · exact more_in ea eb ec ed ee ef RR hk k1 k3 mx my mz m1 m2 p1 p2 s1 s2 s3 lc gt hs sy (hf (by omega)) (hf h0) (hf (by omega)) (by omega) hi w
    · have lt := cmp_eq.1 lc
      have gt : cmpF c d a b = 0 := cmp_eq.2 (by omega)
      have hs : sameF a b c d = true := ht (by omega)
      by_cases h0 : b = 0
      · exact same_zero ea eb ec ed ee ef RR hk k1 k3 mx my mz m1 m2 p1 p2 s1 s2 s3 lc gt hs sy (ht h0) w
      · exact same_in ea eb ec ed ee ef RR hk k1 k3 mx my mz m1 m2 p1 p2 s1 s2 s3 lc gt hs sy (hf h0) (hf (by omega)) (hf (by omega)) (by omega) (by omega) w

theorem arr2 : WideMaps.ArrKey Try.prog 36 35 2 := ⟨Try.underlying36, by kernel_rfl, by kernel_rfl, by kernel_rfl⟩
theorem u16_range {a : Int} (w : (Lit.int .u16 a).wf = true) : 0 ≤ a ∧ a ≤ 65535 := by
  simp [Lit.wf] at w
  rw [show IntKind.u16.min = 0 by decide, show IntKind.u16.max = 65535 by decide] at w
  exact w
theorem order_contract (H : Type) (enc : TypeId × Value → H) (W : World) (base : Nat) (args : Array Value) (ds gs : List (DataW H)) (before : List MemPlace)
    (hval : ∀ (j : Nat) t v, Try.f4.params[j]? = some t → args[j]? = some v → Value.okWide Try.prog W .any base t v)
    (hW : DataW.Whole enc Try.prog Try.f4.params.toList Rows.spanOrderSpec.vars false W args.toList ds gs before) :
    Calls Try.prog 4 args W fun e W' => ∃ v, e = .returned v ∧ Rows.spanOrderSpec.post enc Try.prog Try.f4 false true false false W args v W' := by
  have hW' := hW
  obtain ⟨p, q, hA0, hV, rfl, hfz, hnd⟩ := hW
  have hA : DataW.TrodAll enc Try.prog W 0 (fun _ => true) true Try.f4.params.toList args.toList ds p := hA0
  rw [Try.params4] at hA hval
  obtain ⟨v0, vs0, d0, ds0, p0, q0, hargs, rfl, rfl, h0, r0⟩ := trodAll_cons hA
  obtain ⟨v1, vs1, d1, ds1, p1, q1, rfl, rfl, rfl, h1, r1⟩ := trodAll_cons r0
  obtain ⟨v2, vs2, d2, ds2, p2, q2, rfl, rfl, rfl, h2, r2⟩ := trodAll_cons r1
  obtain ⟨v3, vs3, d3, ds3, p3, q3, rfl, rfl, rfl, h3, r3⟩ := trodAll_cons r2
  obtain ⟨rfl, rfl, rfl⟩ := trodAll_nil r3
  obtain rfl : args = #[v0, v1, v2, v3] := by cases args; simp_all
  obtain ⟨rfl, rfl⟩ := trodVars_none hV
  obtain ⟨a0, a1, rfl, rfl, rfl, wa0, wa1⟩ := WideMaps.open_pair arr2 Try.underlying35 (hval 0 36 v0 rfl rfl) h0
  obtain ⟨b0, b1, rfl, rfl, rfl, wb0, wb1⟩ := WideMaps.open_pair arr2 Try.underlying35 (hval 1 36 v1 rfl rfl) h1
  obtain ⟨c0, c1, rfl, rfl, rfl, wc0, wc1⟩ := WideMaps.open_pair arr2 Try.underlying35 (hval 2 36 v2 rfl rfl) h2
  obtain ⟨n, rfl, rfl, rfl, wn⟩ := open_int Try.underlying5 (hval 3 5 v3 rfl rfl) h3
  clear hA0
  simp only [List.append_nil] at hW'
  have bn := bounds_u8 wn
  refine (order_any (u16_range wa0) (u16_range wa1) (u16_range wb0) (u16_range wb1) (u16_range wc0) (u16_range wc1) (by omega) W).mono fun e W' ⟨he, hg⟩ => ?_
  subst he
  exact ⟨_, rfl, post_below (pa := []) (pv := []) hW' (fun _ _ _ => trodAll_cons_mk (shut_bool Try.underlying4 _) trodAll_mk0)
    (fun _ _ => trodAll_cons_mk (WideMaps.shut_pair arr2 Try.underlying35 wa0 wa1) (trodAll_cons_mk (WideMaps.shut_pair arr2 Try.underlying35 wb0 wb1) (trodAll_cons_mk (WideMaps.shut_pair arr2 Try.underlying35 wc0 wc1) (trodAll_cons_mk (shut_int Try.underlying5 wn) trodAll_mk0))))
    (fun _ _ => rfl) rfl hg (ok_one (by kernel_rfl) rfl (okWide_bool_mk Try.underlying4 _))⟩
set_option maxRecDepth 100000 in
theorem order_lifted (os : Os) (started : os.Started) (H : Type) (enc : TypeId × Value → H) :
    ReturnsInHanded {} Try.checked os 4 .any (Rows.spanOrderSpec.pre6 enc Try.prog Try.f4 Rows.spanOrderRow.domain false) (Rows.spanOrderSpec.post enc Try.prog Try.f4 false true false false) := by
  refine returnsInHanded_of_change (C := Try.checked) own started (by kernel_rfl) Try.func4
    (ChangeSpec.witness6 (enc := enc) (C := Try.checked) false ⟨#[], #[.agg #[.int .u16 0, .int .u16 0], .agg #[.int .u16 0, .int .u16 0], .agg #[.int .u16 0, .int .u16 0], .int .u8 0], []⟩ 8 (by kernel_rfl) (by kernel_rfl) (by kernel_rfl) (by kernel_rfl)) ?_
  intro W base args ds gs before hval hW _ _
  exact order_contract H enc W base args ds gs before hval hW
theorem order_holds : Rows.SpanOrderSaid :=
  OpenClaim.holds_of_wide 4 Try.f4 rfl rfl rfl rfl rfl rfl rfl ⟨rfl, rfl, rfl, rfl, rfl⟩ rfl rfl rfl rfl rfl (by kernel_rfl) Try.func4 (by kernel_rfl)
    (of_decide_eq_true (by kernel_rfl)) (by unfold Func.isWrapper; first | (rw [if_pos (by decide +kernel)]; kernel_rfl) | (rw [if_neg (by decide +kernel)]; exact ⟨rfl, rfl⟩))
    (fun os started H enc _ => order_lifted os started H enc)
end Go.Proofs.Ytciannedpbhfmaa.Spn
