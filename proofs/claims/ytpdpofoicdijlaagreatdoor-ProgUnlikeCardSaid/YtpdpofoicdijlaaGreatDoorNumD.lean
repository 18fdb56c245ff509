/- Layer 1 (num): operations undo one another. -/
import Derived.Test.YtpdpofoicdijlaaGreatDoorNumC
namespace Go.Proofs.YtpdpofoicdijlaaGreatDoor.Num
open Go.RowKit

theorem wrap_bd (n : Int) : 0 ≤ IntKind.u64.wrap n ∧ IntKind.u64.wrap n < 18446744073709551616 := by rw [IntKind.wrap_u64]; omega
def Ok64 (r : Int) : Prop := 0 ≤ r ∧ r < 18446744073709551616
theorem ite_ok {c : Prop} [Decidable c] {a b : Int} (ha : c → Ok64 a) (hb : ¬ c → Ok64 b) : Ok64 (if c then a else b) := by
  by_cases h : c
  · rw [if_pos h]; exact ha h
  · rw [if_neg h]; exact hb h
theorem ok_zero : Ok64 0 := ⟨by omega, by omega⟩
theorem doF_bd (op a b : Int) (ha : 0 ≤ a) (ha' : a < 18446744073709551616) (hb : 0 ≤ b) (hb' : b < 18446744073709551616) :
    0 ≤ doF op a b ∧ doF op a b < 18446744073709551616 := by
  obtain ⟨A, rfl⟩ := nat_of ha
  obtain ⟨B, rfl⟩ := nat_of hb
  have h7 : bits .or .u64 (A : Int) (B : Int) = ((A ||| B : Nat) : Int) := u64_or_nat A B (by omega) (by omega)
  have h8 : bits .xor .u64 (A : Int) (B : Int) = ((A ^^^ B : Nat) : Int) := u64_xor_nat A B (by omega) (by omega)
  have h12 : bits .and .u64 (A : Int) (B : Int) = ((A &&& B : Nat) : Int) := u64_and_nat A B (by omega) (by omega)
  have l7 : (A ||| B : Nat) < 18446744073709551616 := Nat.or_lt_two_pow (n := 64) (by omega) (by omega)
  have l8 : (A ^^^ B : Nat) < 18446744073709551616 := Nat.xor_lt_two_pow (n := 64) (by omega) (by omega)
  have l12 : (A &&& B : Nat) < 18446744073709551616 := Nat.and_lt_two_pow (n := 64) A (by omega)
  have hd : ¬ (B : Int) = 0 → 0 ≤ (A : Int) / B ∧ (A : Int) / B < 18446744073709551616 := fun h =>
    ⟨Int.ediv_nonneg (by omega) (by omega), Int.lt_of_le_of_lt (Int.ediv_le_self _ (by omega)) ha'⟩
  have hr : ¬ (B : Int) = 0 → 0 ≤ (A : Int) % B ∧ (A : Int) % B < 18446744073709551616 := fun h =>
    ⟨Int.emod_nonneg _ h, by have := Int.emod_lt_of_pos (A : Int) (show (0 : Int) < B by omega); omega⟩
  unfold doF
  simp only [h7, h8, h12]
  show Ok64 _
  repeat' (first | exact b2_u64 _ | exact wrap_bd _ | exact hd ‹_› | exact hr ‹_› | exact ok_zero | exact ⟨by omega, by omega⟩ | refine ite_ok (fun _ => ?_) (fun _ => ?_))
theorem oneF_bd (op a : Int) : 0 ≤ oneF op a ∧ oneF op a < 18446744073709551616 := by
  unfold oneF
  show Ok64 _
  repeat' (first | exact b2_u64 _ | exact wrap_bd _ | exact ok_zero | refine ite_ok (fun _ => ?_) (fun _ => ?_))
theorem sub_add (a b : Int) (ha : 0 ≤ a) (ha' : a < 18446744073709551616) : doF 6 (doF 5 a b) b = a := by
  show IntKind.u64.wrap (IntKind.u64.wrap (a + b) - b) = a
  rw [IntKind.wrap_u64, IntKind.wrap_u64]; omega
theorem xor_xor (a b : Int) (ha : 0 ≤ a) (ha' : a < 18446744073709551616) (hb : 0 ≤ b) (hb' : b < 18446744073709551616) : doF 8 (doF 8 a b) b = a := by
  obtain ⟨A, rfl⟩ := nat_of ha
  obtain ⟨B, rfl⟩ := nat_of hb
  show bits .xor .u64 (bits .xor .u64 (A : Int) (B : Int)) (B : Int) = A
  rw [u64_xor_nat A B (by omega) (by omega), u64_xor_nat (A ^^^ B) B (Nat.xor_lt_two_pow (n := 64) (by omega) (by omega)) (by omega), Nat.xor_assoc, Nat.xor_self, Nat.xor_zero]
theorem neg_sub (a : Int) : oneF 14 a = doF 6 0 a := by
  show IntKind.u64.wrap (-a) = IntKind.u64.wrap (0 - a)
  rw [Int.zero_sub]
theorem div_rem (a b : Int) (ha : 0 ≤ a) (ha' : a < 18446744073709551616) (hb : 0 < b) : doF 5 (doF 9 (doF 10 a b) b) (doF 11 a b) = a := by
  rw [← doF_10 a b hb, ← doF_11 a b hb]
  show IntKind.u64.wrap (IntKind.u64.wrap (a / b * b) + a % b) = a
  rw [IntKind.wrap_u64, IntKind.wrap_u64]
  have h1 : a / b * b + a % b = a := by rw [Int.mul_comm]; exact Int.mul_ediv_add_emod a b
  have h2 : 0 ≤ a % b := Int.emod_nonneg _ (by omega)
  have h4 : 0 ≤ a / b * b := Int.mul_nonneg (Int.ediv_nonneg ha (by omega)) (by omega)
  omega
theorem rem_lt (a b : Int) (hb : 0 < b) : doF 3 (doF 11 a b) b = 1 := by
  rw [← doF_11 a b hb]
  show b2 (decide (a % b < b)) = 1
  rw [decide_eq_true (Int.emod_lt_of_pos a hb)]; rfl
theorem eq_ne (a b : Int) : IntKind.u64.wrap (doF 1 a b + doF 2 a b) = 1 := by
  show IntKind.u64.wrap (b2 (a == b) + b2 (!(a == b))) = 1
  cases (a == b) <;> rfl
theorem lt_le (a b : Int) : IntKind.u64.wrap (doF 3 a b + doF 4 b a) = 1 := by
  show IntKind.u64.wrap (b2 (decide (a < b)) + b2 (decide (b ≤ a))) = 1
  by_cases h : a < b
  · rw [decide_eq_true h, decide_eq_false (by omega)]; rfl
  · rw [decide_eq_false h, decide_eq_true (by omega)]; rfl
theorem not_eq (a b : Int) : oneF 13 (doF 1 a b) = doF 2 a b := by
  show b2 (b2 (a == b) == 0) = b2 (!(a == b))
  cases (a == b) <;> rfl
theorem and_or_nat (A B : Nat) : (A &&& B) + (A ||| B) = A + B := by
  induction A using Nat.strongRecOn generalizing B with
  | _ A ih =>
    by_cases hA : A = 0
    · subst hA; simp
    · have := ih (A / 2) (by omega) (B / 2)
      have h1 : (A &&& B) / 2 = A / 2 &&& B / 2 := Nat.and_div_two
      have h2 : (A ||| B) / 2 = A / 2 ||| B / 2 := Nat.or_div_two
      have h3 : (A &&& B) % 2 = gk 2 (A % 2) (B % 2) := by simpa using and_bits A B 0
      have h4 : (A ||| B) % 2 = gk 0 (A % 2) (B % 2) := by simpa using or_bits A B 0
      have h5 : gk 2 (A % 2) (B % 2) + gk 0 (A % 2) (B % 2) = A % 2 + B % 2 := by
        rcases Nat.mod_two_eq_zero_or_one A with h | h <;> rcases Nat.mod_two_eq_zero_or_one B with h' | h' <;> simp [h, h', gk]
      omega
theorem and_or (a b : Int) (ha : 0 ≤ a) (ha' : a < 18446744073709551616) (hb : 0 ≤ b) (hb' : b < 18446744073709551616) :
    doF 5 (doF 12 a b) (doF 7 a b) = doF 5 a b := by
  obtain ⟨A, rfl⟩ := nat_of ha
  obtain ⟨B, rfl⟩ := nat_of hb
  show IntKind.u64.wrap (bits .and .u64 (A : Int) (B : Int) + bits .or .u64 (A : Int) (B : Int)) = IntKind.u64.wrap ((A : Int) + B)
  rw [u64_and_nat A B (by omega) (by omega), u64_or_nat A B (by omega) (by omega)]
  have := and_or_nat A B
  congr 1; omega

end Go.Proofs.YtpdpofoicdijlaaGreatDoor.Num
