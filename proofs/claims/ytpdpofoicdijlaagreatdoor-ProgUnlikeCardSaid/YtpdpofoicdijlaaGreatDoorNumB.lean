/- Layer 1 (num): the document's own answer, bit by bit: a loop of 64 rounds. -/
import Derived.Test.YtpdpofoicdijlaaGreatDoorNumA
namespace Go.Proofs.YtpdpofoicdijlaaGreatDoor.Num
open Go.RowKit

/-- The bit that a kind makes of two bits. -/
def gk (k x y : Nat) : Nat := if k = 0 then (if x + y > 0 then 1 else 0) else if k = 1 then (if x = y then 0 else 1) else (if x + y = 2 then 1 else 0)
theorem bit_lt (A k : Nat) : A / 2 ^ k % 2 = 0 ∨ A / 2 ^ k % 2 = 1 := by omega
theorem div_succ (A k : Nat) : A / 2 ^ (k + 1) = A / 2 ^ k / 2 := by rw [Nat.pow_succ, Nat.div_div_eq_div_mul]
theorem mod_succ (X k : Nat) : X % 2 ^ (k + 1) = X % 2 ^ k + 2 ^ k * (X / 2 ^ k % 2) := by
  rw [Nat.pow_succ, Nat.mod_mul]
theorem pow_le (k : Nat) (h : k < 64) : 2 ^ k ≤ 9223372036854775808 := Nat.pow_le_pow_right (n := 2) (by omega) (show k ≤ 63 by omega)
theorem pow_succ_mod (k : Nat) : 2 ^ (k + 1) % 18446744073709551616 = 2 ^ k % 18446744073709551616 * 2 % 18446744073709551616 := by
  rw [Nat.pow_succ, Nat.mod_mul_mod]
theorem pow_mod (k : Nat) (h : k < 64) : 2 ^ k % 18446744073709551616 = 2 ^ k := Nat.mod_eq_of_lt (by have := pow_le k h; omega)

/-- What holds at the head of a round. -/
def BwRel (X A B : Nat) (a b o p i : Value) : Prop :=
  ∃ k ak bk ok pk : Nat, k ≤ 64 ∧ i = .int .i64 (k : Int) ∧ a = .int .u64 (ak : Int) ∧ b = .int .u64 (bk : Int) ∧ o = .int .u64 (ok : Int) ∧ p = .int .u64 (pk : Int)
    ∧ ak = A / 2 ^ k ∧ bk = B / 2 ^ k ∧ ok = X % 2 ^ k ∧ pk = 2 ^ k % 18446744073709551616
theorem bw_start (X A B : Nat) : BwRel X A B (.int .u64 (A : Int)) (.int .u64 (B : Int)) (.int .u64 0) (.int .u64 1) (.int .i64 0) :=
  ⟨0, A, B, 0, 1, by omega, rfl, rfl, rfl, rfl, rfl, by simp, by simp, by simp [Nat.mod_one], by simp⟩
theorem bw_next {kind X A B k ak bk ok pk : Nat} (hX : ∀ j, X / 2 ^ j % 2 = gk kind (A / 2 ^ j % 2) (B / 2 ^ j % 2)) (hk : k < 64)
    (ha : ak = A / 2 ^ k) (hb : bk = B / 2 ^ k) (ho : ok = X % 2 ^ k) (hp : pk = 2 ^ k % 18446744073709551616) :
    BwRel X A B (.int .u64 ((ak / 2 : Nat) : Int)) (.int .u64 ((bk / 2 : Nat) : Int)) (.int .u64 ((ok + pk * gk kind (ak % 2) (bk % 2) : Nat) : Int)) (.int .u64 ((pk * 2 % 18446744073709551616 : Nat) : Int)) (.int .i64 ((k + 1 : Nat) : Int)) :=
  ⟨k + 1, _, _, _, _, hk, rfl, rfl, rfl, rfl, rfl, by rw [div_succ, ha], by rw [div_succ, hb], by rw [mod_succ, ho, hp, pow_mod k hk, hX k, ha, hb], by rw [pow_succ_mod k, hp]⟩
theorem val_u64 {a : Int} {b : Nat} (h : a = (b : Int)) : Value.int .u64 a = .int .u64 (b : Int) := by rw [h]

theorem bit_one (A : Nat) : (A % 2 = 0 ∧ (A : Int) % 2 = 0) ∨ (A % 2 = 1 ∧ (A : Int) % 2 = 1) := by omega
theorem bw_close {X A B : Nat} {a b o p i a' b' o' p' i' : Int} (h : BwRel X A B (.int .u64 a) (.int .u64 b) (.int .u64 o) (.int .u64 p) (.int .i64 i))
    (ha : a' = a) (hb : b' = b) (ho : o' = o) (hp : p' = p) (hi : i' = i) : BwRel X A B (.int .u64 a') (.int .u64 b') (.int .u64 o') (.int .u64 p') (.int .i64 i') := by
  subst ha hb ho hp hi; exact h
/-- Bits of two numbers, one by one. -/
theorem bitN (X j : Nat) : X / 2 ^ j % 2 = (X.testBit j).toNat := by rw [Nat.toNat_testBit]
theorem or_bits (A B j : Nat) : (A ||| B) / 2 ^ j % 2 = gk 0 (A / 2 ^ j % 2) (B / 2 ^ j % 2) := by
  simp only [bitN, Nat.testBit_or]; cases A.testBit j <;> cases B.testBit j <;> rfl
theorem xor_bits (A B j : Nat) : (A ^^^ B) / 2 ^ j % 2 = gk 1 (A / 2 ^ j % 2) (B / 2 ^ j % 2) := by
  simp only [bitN, Nat.testBit_xor]; cases A.testBit j <;> cases B.testBit j <;> rfl
theorem and_bits (A B j : Nat) : (A &&& B) / 2 ^ j % 2 = gk 2 (A / 2 ^ j % 2) (B / 2 ^ j % 2) := by
  simp only [bitN, Nat.testBit_and]; cases A.testBit j <;> cases B.testBit j <;> rfl
theorem nat_of {a : Int} (h : 0 ≤ a) : ∃ A : Nat, a = (A : Int) := ⟨a.toNat, by omega⟩

theorem rem_of (a b : Int) (ha : 0 ≤ a) (ha' : a < 18446744073709551616) (hb : 0 < b) : IntKind.u64.wrap (a - IntKind.u64.wrap (a / b * b)) = doF 11 a b := by
  rw [← doF_11 a b hb, IntKind.wrap_u64, IntKind.wrap_u64]
  have h1 : a / b * b + a % b = a := by rw [Int.mul_comm]; exact Int.mul_ediv_add_emod a b
  have h2 : 0 ≤ a % b := Int.emod_nonneg _ (by omega)
  have h3 : 0 ≤ a / b := Int.ediv_nonneg ha (by omega)
  have h4 : 0 ≤ a / b * b := Int.mul_nonneg h3 (by omega)
  omega
end Go.Proofs.YtpdpofoicdijlaaGreatDoor.Num
