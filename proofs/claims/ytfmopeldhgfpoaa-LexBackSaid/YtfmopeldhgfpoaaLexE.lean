/- Layer 2 (lex): the document's own answer: its leaves. -/
import Derived.Test.YtfmopeldhgfpoaaLexB
import Derived.Deep.LoopGhost
namespace Go.Proofs.Ytfmopeldhgfpoaa.Lex
open Go.RowKit

theorem word_first (s : ByteArray) (k : Nat) (w : World) :
    Calls Try.prog 16 #[.int .u8 (bAt s k), .bool true] w fun e w' => e = .returned (.bool (isL (byt s k))) ∧ w = w' := by
  have e : isL (byt s k) = (decide (97 ≤ bAt s k) && decide (bAt s k ≤ 122)) := by
    unfold isL bAt; congr 1 <;> (simp; omega)
  rw [e]; clear e
  have b0 := (bAt_bd s k).1
  generalize bAt s k = b at *
  by_cases h : 97 ≤ b
  all_goals
    by_cases h' : b ≤ 122
    all_goals
      go_enter Try.func16, Try.ntmps16
      go_wp2
      go_ret
      exact ⟨ret_bool (by simp [h, h']), rfl⟩
theorem word_next (s : ByteArray) (k : Nat) (w : World) :
    Calls Try.prog 16 #[.int .u8 (bAt s k), .bool false] w fun e w' => e = .returned (.bool (isLD (byt s k))) ∧ w = w' := by
  have e : isLD (byt s k) = (decide (97 ≤ bAt s k) && decide (bAt s k ≤ 122) || decide (48 ≤ bAt s k) && decide (bAt s k ≤ 57)) := by
    unfold isLD isL isD bAt; congr 1 <;> congr 1 <;> (simp; omega)
  rw [e]; clear e
  have b0 := (bAt_bd s k).1
  generalize bAt s k = b at *
  by_cases h : 97 ≤ b
  all_goals
    by_cases h' : b ≤ 122
    all_goals
      by_cases g : 48 ≤ b
      all_goals
        by_cases g' : b ≤ 57
        all_goals first | (exfalso; omega) | skip
        all_goals
          go_enter Try.func16, Try.ntmps16
          go_wp2
          go_ret
          exact ⟨ret_bool (by simp [h, h', g, g']), rfl⟩

theorem signs_any (w : World) : Calls Try.prog 18 #[] w fun e w' =>
    e = .returned (.slice (some ⟨w.heap.size, 0, none⟩) 21 21) ∧ w' = w.alloc (.cells #[.string ⟨#[61, 61]⟩, .string ⟨#[33, 61]⟩, .string ⟨#[60, 61]⟩, .string ⟨#[60]⟩, .string ⟨#[61]⟩, .string ⟨#[33]⟩, .string ⟨#[43]⟩, .string ⟨#[45]⟩, .string ⟨#[124]⟩, .string ⟨#[94]⟩, .string ⟨#[42]⟩, .string ⟨#[47]⟩, .string ⟨#[37]⟩, .string ⟨#[38]⟩, .string ⟨#[40]⟩, .string ⟨#[41]⟩, .string ⟨#[123]⟩, .string ⟨#[125]⟩, .string ⟨#[44]⟩, .string ⟨#[59]⟩, .string ⟨#[58]⟩] 9) := by
  go_enter Try.func18, Try.ntmps18
  go_wp2
  go_ret
  exact ⟨rfl, rfl⟩


set_option maxHeartbeats 1000000 in
theorem place_any (s : ByteArray) (k : Nat) (w : World) (hs : s.size ≤ 4096) (hk : k ≤ s.size) :
    Calls Try.prog 15 #[.string s, .int .i64 k] w fun e w' => e = .returned (.agg #[.int .i64 (lineAt s k), .int .i64 (colAt s k)]) ∧ Below w.heap.size w w' := by
  go_enter Try.func15, Try.ntmps15
  go_wp2

  go_loopg [6] k (fun g v6 wx => ∃ j, j ≤ k ∧ g = k - j ∧ v6 = .int .i64 (j : Nat) ∧ Sits wx w.heap.size 25 #[.int .i64 0, .int .i64 0] ∧ Sits wx (w.heap.size + 1) 25 #[.int .i64 (lineAt s j), .int .i64 (colAt s j)] ∧ Below w.heap.size w wx)
  case atStart => exact ⟨0, Nat.zero_le _, rfl, rfl, (Sits.new _ _ _).alloc _, Sits.made (by simp) _ _, ((Below.refl _ _).alloc (Nat.le_refl _) _).alloc (by simp) _⟩
  case round =>
    obtain ⟨j, hj, rfl, rfl, hR, hP, hb⟩ := hrel
    obtain ⟨r0, r1, rr0, rr1⟩ := hR.all2
    obtain ⟨p0, p1, pp0, pp1⟩ := hP.all2
    have hbd := place_bd s j
    by_cases hlt : j < k
    · have hin := bAt_in s j (by omega)
      by_cases hn : bAt s j = 10
      · have HL := Lib.hid (line_nl s j (by omega) hn)
        go_wp2
        go_roundg (k - (j + 1))
        case measure => omega
        case rel => exact ⟨j + 1, by omega, rfl, by go_num, (((hR.far (by simp) _).far (by simp) _).far (by simp) _), by rw [HL.out.1, HL.out.2]; exact ((hP.put 1 _).put 0 _).put 1 _, ((hb.setCell (by simp) _).setCell (by simp) _).setCell (by simp) _⟩
      · have HL := Lib.hid (line_go s j (by omega) hn)
        go_wp2
        go_roundg (k - (j + 1))
        case measure => omega
        case rel => exact ⟨j + 1, by omega, rfl, by go_num, hR.far (by simp) _, by rw [HL.out.1, HL.out.2]; exact hP.put 1 _, hb.setCell (by simp) _⟩
    · obtain rfl : j = k := by omega
      go_wp2
      refine bodyPost_ret (v := .agg #[.int .i64 (lineAt s j), .int .i64 (colAt s j)]) (by simp [results, go_sem, r0, r1]) rfl ⟨rfl, ?_⟩
      exact (hb.setCell (Nat.le_refl _) _).setCell (Nat.le_refl _) _

def numOf (t : ByteArray) : Nat := num t.data.toList
def NumPost (t : ByteArray) (e : Ending) : Prop :=
  (numOf t < top ∧ e = .returned (.tuple #[.int .u64 (numOf t : Nat), .bool true])) ∨ (¬ numOf t < top ∧ e = .returned (.tuple #[.int .u64 0, .bool false]))
theorem numAt_all (t : ByteArray) : numAt t 0 t.size = numOf t := by
  unfold numAt numOf
  rw [List.drop_zero, Nat.sub_zero, List.take_of_length_le (show t.data.toList.length ≤ t.size from Nat.le_refl _)]
theorem numAt_le (t : ByteArray) (i : Nat) : numAt t 0 i ≤ numOf t := by
  unfold numAt numOf
  rw [List.drop_zero, Nat.sub_zero]
  have := num_le_append (t.data.toList.take i) (t.data.toList.drop i)
  rwa [List.take_append_drop] at this
set_option maxHeartbeats 1000000 in
theorem number_any (t : ByteArray) (w : World) (ht : t.size ≤ 4096) (hd : ∀ i, i < t.size → isD (byt t i) = true) :
    Calls Try.prog 17 #[.string t] w fun e w' => NumPost t e ∧ w = w' := by
  have HD := Lib.hid hd; clear hd
  go_enter Try.func17, Try.ntmps17
  go_wp2
  go_loopg [4, 5] t.size (fun g v4 v5 wx => ∃ i, i ≤ t.size ∧ g = t.size - i ∧ v4 = .int .u64 (numAt t 0 i : Nat) ∧ (numAt t 0 i : Int) ≤ 18446744073709551615 ∧ v5 = .int .i64 (i : Nat) ∧ w = wx)
  case atStart => exact ⟨0, Nat.zero_le _, rfl, by rw [numAt_none]; rfl, by rw [numAt_none]; decide, rfl, rfl⟩
  case round =>
    obtain ⟨i, hi, rfl, rfl, hnb, rfl, rfl⟩ := hrel
    by_cases hlt : i < t.size
    · have hin := bAt_in t i hlt
      obtain ⟨hb1, hb2⟩ := digit_bd (HD.out i hlt)
      have HNUM := Lib.hid (numAt_next t 0 i (Nat.zero_le _) hlt hb1)
      have hn0 : (0 : Int) ≤ (numAt t 0 i : Nat) := Int.natCast_nonneg _
      by_cases hov : (18446744073709551615 - (bAt t i - 48)) / 10 < (numAt t 0 i : Int)
      · have HB := Lib.hid (show ¬ numOf t < top from by
          have h1 := numAt_le t (i + 1)
          have h2 := HNUM.out
          unfold top; omega)
        go_wp2
        refine bodyPost_ret (results_tmp2 rfl _ _ _) rfl ⟨.inr ⟨HB.out, rfl⟩, rfl⟩
      · have hsum : (numAt t 0 (i + 1) : Int) ≤ 18446744073709551615 := by rw [HNUM.out]; omega
        go_wp2
        go_roundg (t.size - (i + 1))
        case measure => omega
        case rel => exact ⟨i + 1, by omega, rfl, by rw [HNUM.out], hsum, by go_num, rfl⟩
    · obtain rfl : i = t.size := by omega
      have HB := Lib.hid (show numOf t < top from by rw [← numAt_all]; unfold top; omega)
      go_wp2
      refine bodyPost_ret (results_tmp2 rfl _ _ _) rfl ⟨.inl ⟨HB.out, by rw [← numAt_all]; rfl⟩, rfl⟩
end Go.Proofs.Ytfmopeldhgfpoaa.Lex
