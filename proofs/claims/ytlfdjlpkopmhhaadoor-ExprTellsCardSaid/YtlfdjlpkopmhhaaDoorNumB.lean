/- Layer 1 (num): the document's own answer, bit by bit: a loop of 64 rounds. -/
import Derived.Test.YtlfdjlpkopmhhaaDoorNumA
namespace Go.Proofs.YtlfdjlpkopmhhaaDoor.Num
open Go.RowKit

/-- The bit that a kind makes of two bits. -/
def gk (k x y : Nat) : Nat := if k = 0 then (if x + y > 0 then 1 else 0) else if k = 1 then (if x = y then 0 else 1) else (if x + y = 2 then 1 else 0)
theorem bit_lt (A k : Nat) : A / 2 ^ k % 2 = 0 ∨ A / 2 ^ k % 2 = 1 := by omega
theorem div_succ (A k : Nat) : A / 2 ^ (k + 1) = A / 2 ^ k / 2 := by rw [Nat.pow_succ, Nat.div_div_eq_div_mul]
theorem mod_succ (X k : Nat) : X % 2 ^ (k + 1) = X % 2 ^ k + 2 ^ k * (X / 2 ^ k % 2) := by
  rw [Nat.pow_succ, Nat.mod_mul]
theorem pow_le (k : Nat) (h : k < 64) : 2 ^ k ≤ 9223372036854775808 := Nat.pow_le_pow_right (n := 2) (by omega) (show k ≤ 63 by omega)
theorem pow_succ_mod (k : Nat) : 2 ^ (k + 1) % 18446744073709551616 = 2 ^ k % 18446744073709551616 * 2 % 18446744073709551616 := by
  rw [Nat.pow_succ, Nat.mod_mul_mod]
theorem pow_mod (k : Nat) (h : k < 64) : 2 ^ k % 18446744073709551616 = 2 ^ k := Nat.mod_eq_of_lt (by have := pow_le k h; omega)

/-- What holds at the head of a round. -/
def BwRel (X A B : Nat) (a b o p i : Value) : Prop :=
  ∃ k ak bk ok pk : Nat, k ≤ 64 ∧ i = .int .i64 (k : Int) ∧ a = .int .u64 (ak : Int) ∧ b = .int .u64 (bk : Int) ∧ o = .int .u64 (ok : Int) ∧ p = .int .u64 (pk : Int)
    ∧ ak = A / 2 ^ k ∧ bk = B / 2 ^ k ∧ ok = X % 2 ^ k ∧ pk = 2 ^ k % 18446744073709551616
theorem bw_start (X A B : Nat) : BwRel X A B (.int .u64 (A : Int)) (.int .u64 (B : Int)) (.int .u64 0) (.int .u64 1) (.int .i64 0) :=
  ⟨0, A, B, 0, 1, by omega, rfl, rfl, rfl, rfl, rfl, by simp, by simp, by simp [Nat.mod_one], by simp⟩
theorem bw_next {kind X A B k ak bk ok pk : Nat} (hX : ∀ j, X / 2 ^ j % 2 = gk kind (A / 2 ^ j % 2) (B / 2 ^ j % 2)) (hk : k < 64)
    (ha : ak = A / 2 ^ k) (hb : bk = B / 2 ^ k) (ho : ok = X % 2 ^ k) (hp : pk = 2 ^ k % 18446744073709551616) :
    BwRel X A B (.int .u64 ((ak / 2 : Nat) : Int)) (.int .u64 ((bk / 2 : Nat) : Int)) (.int .u64 ((ok + pk * gk kind (ak % 2) (bk % 2) : Nat) : Int)) (.int .u64 ((pk * 2 % 18446744073709551616 : Nat) : Int)) (.int .i64 ((k + 1 : Nat) : Int)) :=
  ⟨k + 1, _, _, _, _, hk, rfl, rfl, rfl, rfl, rfl, by rw [div_succ, ha], by rw [div_succ, hb], by rw [mod_succ, ho, hp, pow_mod k hk, hX k, ha, hb], by rw [pow_succ_mod k, hp]⟩
theorem val_u64 {a : Int} {b : Nat} (h : a = (b : Int)) : Value.int .u64 a = .int .u64 (b : Int) := by rw [h]

theorem bit_one (A : Nat) : (A % 2 = 0 ∧ (A : Int) % 2 = 0) ∨ (A % 2 = 1 ∧ (A : Int) % 2 = 1) := by omega
theorem bw_close {X A B : Nat} {a b o p i a' b' o' p' i' : Int} (h : BwRel X A B (.int .u64 a) (.int .u64 b) (.int .u64 o) (.int .u64 p) (.int .i64 i))
    (ha : a' = a) (hb : b' = b) (ho : o' = o) (hp : p' = p) (hi : i' = i) : BwRel X A B (.int .u64 a') (.int .u64 b') (.int .u64 o') (.int .u64 p') (.int .i64 i') := by
  subst ha hb ho hp hi; exact h
set_option maxHeartbeats 1000000 in
theorem bitwise_nat (kind X A B : Nat) (hkind : kind = 0 ∨ kind = 1 ∨ kind = 2) (hA : A < 18446744073709551616) (hB : B < 18446744073709551616) (hX64 : X < 18446744073709551616)
    (hX : ∀ j, X / 2 ^ j % 2 = gk kind (A / 2 ^ j % 2) (B / 2 ^ j % 2)) (w : World) :
    Calls Tryd.prog 35 #[.int .i64 (kind : Int), .int .u64 (A : Int), .int .u64 (B : Int)] w fun e w' => e = .returned (.int .u64 (X : Int)) ∧ w = w' := by
  have HX := Lib.hid hX; clear hX
  go_enter Tryd.func35, Tryd.ntmps35
  go_wp2
  go_loop [1, 2, 7, 8, 9] (fun a b o p i => BwRel X A B a b o p i) (fun _ _ _ _ i => 64 - (intOf i).toNat)
  case atStart => exact bw_start X A B
  case round =>
    obtain ⟨k, ak, bk, ok, pk, hk, rfl, rfl, rfl, rfl, rfl, ha, hb, ho, hp⟩ := hrel
    have Ha := Lib.hid ha
    have Hb := Lib.hid hb
    have Ho := Lib.hid ho
    have Hp := Lib.hid hp
    have hak : ak < 18446744073709551616 := by rw [ha]; exact Nat.lt_of_le_of_lt (Nat.div_le_self _ _) hA
    have hbk : bk < 18446744073709551616 := by rw [hb]; exact Nat.lt_of_le_of_lt (Nat.div_le_self _ _) hB
    by_cases hlt : k < 64
    · have hpk : pk ≤ 9223372036854775808 := by rw [hp, pow_mod k hlt]; exact pow_le k hlt
      have hok : ok < pk := by rw [hp, pow_mod k hlt, ho]; exact Nat.mod_lt _ (Nat.two_pow_pos k)
      have HN := Lib.hid (bw_next HX.out hlt ha hb ho hp)
      clear ha hb ho hp Ha Hb Ho Hp
      have hx := bit_one ak
      have hy := bit_one bk
      rcases hkind with rfl | rfl | rfl
      all_goals
        rcases hx with ⟨hx1, hx2⟩ | ⟨hx1, hx2⟩
        all_goals
          rcases hy with ⟨hy1, hy2⟩ | ⟨hy1, hy2⟩
          all_goals
            have HN' := HN.out
            rw [hx1, hy1] at HN'
            have HN'' := Lib.hid HN'
            clear HN' HN hx1 hy1
            go_wp2
            go_round
            case rel => exact bw_close HN''.out (by omega) (by omega) (by simp [gk]) (by rw [IntKind.wrap_u64]; omega) (by omega)
            case measure => simp [intOf]; omega
    · have hk64 : k = 64 := by omega
      subst hk64
      have HE : Hid ((ok : Int) = (X : Int)) := by
        have : ok = X := by rw [ho]; exact Nat.mod_eq_of_lt hX64
        rw [this]; exact rfl
      clear ha hb ho hp
      go_wp2
      go_ret
      exact ⟨ret_int HE.out, rfl⟩
/-- Bits of two numbers, one by one. -/
theorem bitN (X j : Nat) : X / 2 ^ j % 2 = (X.testBit j).toNat := by rw [Nat.toNat_testBit]
theorem or_bits (A B j : Nat) : (A ||| B) / 2 ^ j % 2 = gk 0 (A / 2 ^ j % 2) (B / 2 ^ j % 2) := by
  simp only [bitN, Nat.testBit_or]; cases A.testBit j <;> cases B.testBit j <;> rfl
theorem xor_bits (A B j : Nat) : (A ^^^ B) / 2 ^ j % 2 = gk 1 (A / 2 ^ j % 2) (B / 2 ^ j % 2) := by
  simp only [bitN, Nat.testBit_xor]; cases A.testBit j <;> cases B.testBit j <;> rfl
theorem and_bits (A B j : Nat) : (A &&& B) / 2 ^ j % 2 = gk 2 (A / 2 ^ j % 2) (B / 2 ^ j % 2) := by
  simp only [bitN, Nat.testBit_and]; cases A.testBit j <;> cases B.testBit j <;> rfl
theorem nat_of {a : Int} (h : 0 ≤ a) : ∃ A : Nat, a = (A : Int) := ⟨a.toNat, by omega⟩

theorem bitwise_or (a b : Int) (ha : 0 ≤ a) (ha' : a < 18446744073709551616) (hb : 0 ≤ b) (hb' : b < 18446744073709551616) (w : World) :
    Calls Tryd.prog 35 #[.int .i64 0, .int .u64 a, .int .u64 b] w fun e w' => e = .returned (.int .u64 (doF 7 a b)) ∧ w = w' := by
  obtain ⟨A, rfl⟩ := nat_of ha
  obtain ⟨B, rfl⟩ := nat_of hb
  have e : doF 7 (A : Int) (B : Int) = ((A ||| B : Nat) : Int) := u64_or_nat A B (by omega) (by omega)
  rw [e]
  exact bitwise_nat 0 (A ||| B) A B (by omega) (by omega) (by omega) (Nat.or_lt_two_pow (n := 64) (by omega) (by omega)) (or_bits A B) w
theorem bitwise_xor (a b : Int) (ha : 0 ≤ a) (ha' : a < 18446744073709551616) (hb : 0 ≤ b) (hb' : b < 18446744073709551616) (w : World) :
    Calls Tryd.prog 35 #[.int .i64 1, .int .u64 a, .int .u64 b] w fun e w' => e = .returned (.int .u64 (doF 8 a b)) ∧ w = w' := by
  obtain ⟨A, rfl⟩ := nat_of ha
  obtain ⟨B, rfl⟩ := nat_of hb
  have e : doF 8 (A : Int) (B : Int) = ((A ^^^ B : Nat) : Int) := u64_xor_nat A B (by omega) (by omega)
  rw [e]
  exact bitwise_nat 1 (A ^^^ B) A B (by omega) (by omega) (by omega) (Nat.xor_lt_two_pow (n := 64) (by omega) (by omega)) (xor_bits A B) w
theorem bitwise_and (a b : Int) (ha : 0 ≤ a) (ha' : a < 18446744073709551616) (hb : 0 ≤ b) (hb' : b < 18446744073709551616) (w : World) :
    Calls Tryd.prog 35 #[.int .i64 2, .int .u64 a, .int .u64 b] w fun e w' => e = .returned (.int .u64 (doF 12 a b)) ∧ w = w' := by
  obtain ⟨A, rfl⟩ := nat_of ha
  obtain ⟨B, rfl⟩ := nat_of hb
  have e : doF 12 (A : Int) (B : Int) = ((A &&& B : Nat) : Int) := u64_and_nat A B (by omega) (by omega)
  rw [e]
  exact bitwise_nat 2 (A &&& B) A B (by omega) (by omega) (by omega) (Nat.and_lt_two_pow (n := 64) A (by omega)) (and_bits A B) w

theorem rdo_cmp (op : Int) (hop : op = 1 ∨ op = 2 ∨ op = 3) (a b : Int) (w : World) :
    Calls Tryd.prog 9 #[.int .u8 op, .int .u64 a, .int .u64 b] w fun e w' => e = .returned (.int .u64 (doF op a b)) ∧ w = w' := by
  rcases hop with rfl | rfl | rfl
  all_goals
    go_enter Tryd.func9, Tryd.ntmps9
    go_wp2_with (go_at_call 34; refine (rtruth_any _ _).mono ?_; rintro e w' ⟨rfl, rfl⟩)
    go_ret
    exact ⟨rfl, rfl⟩
theorem rdo_le (a b : Int) (w : World) :
    Calls Tryd.prog 9 #[.int .u8 4, .int .u64 a, .int .u64 b] w fun e w' => e = .returned (.int .u64 (doF 4 a b)) ∧ w = w' := by
  have ht : doF 4 a b = b2 (decide (a ≤ b)) := rfl
  rcases Int.lt_trichotomy a b with h | h | h
  · have HT : Hid (b2 true = doF 4 a b) := Lib.hid (by rw [ht, decide_eq_true (by omega)])
    clear ht
    go_enter Tryd.func9, Tryd.ntmps9
    go_wp2_with (go_at_call 34; refine (rtruth_any _ _).mono ?_; rintro e w' ⟨rfl, rfl⟩)
    go_ret
    exact ⟨ret_int HT.out, rfl⟩
  · subst h
    have HT : Hid (b2 true = doF 4 a a) := Lib.hid (by rw [ht, decide_eq_true (by omega)])
    clear ht
    go_enter Tryd.func9, Tryd.ntmps9
    go_wp2_with (go_at_call 34; refine (rtruth_any _ _).mono ?_; rintro e w' ⟨rfl, rfl⟩)
    go_ret
    exact ⟨ret_int HT.out, rfl⟩
  · have HT : Hid (b2 (decide (a < b)) = doF 4 a b) := Lib.hid (by rw [ht, decide_eq_false (by omega), decide_eq_false (by omega)])
    have e1 : (a == b) = false := beq_eq_false_iff_ne.2 (by omega)
    clear ht
    go_enter Tryd.func9, Tryd.ntmps9
    go_wp2_with (go_at_call 34; refine (rtruth_any _ _).mono ?_; rintro e w' ⟨rfl, rfl⟩)
    go_ret
    exact ⟨ret_int HT.out, rfl⟩
theorem rdo_pure (op : Int) (hop : op = 5 ∨ op = 6 ∨ op = 9) (a b : Int) (w : World) :
    Calls Tryd.prog 9 #[.int .u8 op, .int .u64 a, .int .u64 b] w fun e w' => e = .returned (.int .u64 (doF op a b)) ∧ w = w' := by
  rcases hop with rfl | rfl | rfl
  all_goals
    go_enter Tryd.func9, Tryd.ntmps9
    go_wp2
    go_ret
    exact ⟨rfl, rfl⟩
theorem rdo_bits (op : Int) (hop : op = 7 ∨ op = 8 ∨ op = 12) (a b : Int) (ha : 0 ≤ a) (ha' : a < 18446744073709551616) (hb : 0 ≤ b) (hb' : b < 18446744073709551616) (w : World) :
    Calls Tryd.prog 9 #[.int .u8 op, .int .u64 a, .int .u64 b] w fun e w' => e = .returned (.int .u64 (doF op a b)) ∧ w = w' := by
  rcases hop with rfl | rfl | rfl
  · go_enter Tryd.func9, Tryd.ntmps9
    go_wp2_with (go_at_call 35; refine (bitwise_or a b ha ha' hb hb' _).mono ?_; rintro e w' ⟨rfl, rfl⟩)
    go_ret
    exact ⟨rfl, rfl⟩
  · go_enter Tryd.func9, Tryd.ntmps9
    go_wp2_with (go_at_call 35; refine (bitwise_xor a b ha ha' hb hb' _).mono ?_; rintro e w' ⟨rfl, rfl⟩)
    go_ret
    exact ⟨rfl, rfl⟩
  · go_enter Tryd.func9, Tryd.ntmps9
    go_wp2_with (go_at_call 35; refine (bitwise_and a b ha ha' hb hb' _).mono ?_; rintro e w' ⟨rfl, rfl⟩)
    go_ret
    exact ⟨rfl, rfl⟩
theorem rem_of (a b : Int) (ha : 0 ≤ a) (ha' : a < 18446744073709551616) (hb : 0 < b) : IntKind.u64.wrap (a - IntKind.u64.wrap (a / b * b)) = doF 11 a b := by
  rw [← doF_11 a b hb, IntKind.wrap_u64, IntKind.wrap_u64]
  have h1 : a / b * b + a % b = a := by rw [Int.mul_comm]; exact Int.mul_ediv_add_emod a b
  have h2 : 0 ≤ a % b := Int.emod_nonneg _ (by omega)
  have h3 : 0 ≤ a / b := Int.ediv_nonneg ha (by omega)
  have h4 : 0 ≤ a / b * b := Int.mul_nonneg h3 (by omega)
  omega
theorem rdo_div (op : Int) (hop : op = 10 ∨ op = 11) (a b : Int) (ha : 0 ≤ a) (ha' : a < 18446744073709551616) (hb : 0 < b) (w : World) :
    Calls Tryd.prog 9 #[.int .u8 op, .int .u64 a, .int .u64 b] w fun e w' => e = .returned (.int .u64 (doF op a b)) ∧ w = w' := by
  rcases hop with rfl | rfl
  · go_enter Tryd.func9, Tryd.ntmps9
    go_wp2
    go_ret
    exact ⟨ret_int (doF_10 a b hb), rfl⟩
  · have HR := Lib.hid (rem_of a b ha ha' hb)
    go_enter Tryd.func9, Tryd.ntmps9
    go_wp2
    go_ret
    exact ⟨ret_int HR.out, rfl⟩
theorem rdo_zero (op : Int) (hop : op = 10 ∨ op = 11) (a : Int) (w : World) :
    Calls Tryd.prog 9 #[.int .u8 op, .int .u64 a, .int .u64 0] w fun e w' => e = .returned (.int .u64 (doF op a 0)) ∧ w = w' := by
  rcases hop with rfl | rfl
  all_goals
    go_enter Tryd.func9, Tryd.ntmps9
    go_wp2
    go_ret
    exact ⟨rfl, rfl⟩
theorem rdo_none (op : Int) (hop : op < 1 ∨ 12 < op) (a b : Int) (w : World) :
    Calls Tryd.prog 9 #[.int .u8 op, .int .u64 a, .int .u64 b] w fun e w' => e = .returned (.int .u64 (doF op a b)) ∧ w = w' := by
  have hz : doF op a b = 0 := by
    unfold doF; repeat rw [if_neg (by omega)]
  have HZ := Lib.hid hz; clear hz
  rcases hop with h | h
  all_goals
    go_enter Tryd.func9, Tryd.ntmps9
    go_wp2
    go_ret
    exact ⟨ret_int HZ.out.symm, rfl⟩
/-- The document's own Do, whatever its operation: of numbers of 64 bits. -/
theorem rdo_any (op a b : Int) (ha : 0 ≤ a) (ha' : a < 18446744073709551616) (hb : 0 ≤ b) (hb' : b < 18446744073709551616) (w : World) :
    Calls Tryd.prog 9 #[.int .u8 op, .int .u64 a, .int .u64 b] w fun e w' => e = .returned (.int .u64 (doF op a b)) ∧ w = w' := by
  by_cases h1 : op < 1 ∨ 12 < op
  · exact rdo_none op h1 a b w
  · by_cases h2 : op = 10 ∨ op = 11
    · by_cases h3 : b = 0
      · subst h3; exact rdo_zero op h2 a w
      · exact rdo_div op h2 a b ha ha' (by omega) w
    · by_cases h4 : op ≤ 3
      · exact rdo_cmp op (by omega) a b w
      · by_cases h5 : op = 4
        · subst h5; exact rdo_le a b w
        · by_cases h6 : op = 7 ∨ op = 8 ∨ op = 12
          · exact rdo_bits op h6 a b ha ha' hb hb' w
          · exact rdo_pure op (by omega) a b w
end Go.Proofs.YtlfdjlpkopmhhaaDoor.Num
