/- Layer 2 (lex): whether a piece stands at its place: the law's own walk. -/
import Derived.Test.YtfmopeldhgfpoaaLexK
import Derived.Test.YtfmopeldhgfpoaaLexB
import Derived.Deep.LoopGhost
import Derived.Deep.QuietTactic
import Derived.BigQuiet
namespace Go.Proofs.Ytfmopeldhgfpoaa.Lex
open Go.RowKit

theorem place_apart (s : ByteArray) (i j : Nat) (hij : i < j) (hj : j ≤ s.size) : (lineAt s i == lineAt s j) = false ∨ ((lineAt s i == lineAt s j) = true ∧ (colAt s i == colAt s j) = false) := by
  have h := pl_inj s.data.toList i j hij hj
  cases e1 : (lineAt s i == lineAt s j)
  · exact .inl rfl
  · refine .inr ⟨rfl, ?_⟩
    cases e2 : (colAt s i == colAt s j)
    · rfl
    · exfalso
      apply h
      have a1 : lineAt s i = lineAt s j := by simpa using e1
      have a2 : colAt s i = colAt s j := by simpa using e2
      unfold lineAt at a1; unfold colAt at a2
      exact Prod.ext (by omega) (by omega)

def Yes' (w : World) (e : Ending) (w' : World) : Prop := e = .returned (.bool true) ∧ Below w.heap.size w w'
set_option maxHeartbeats 2000000 in
set_option maxRecDepth 100000 in
theorem stands_any (s : ByteArray) (j kind nu : Nat) (tx : ByteArray) (w : World) (hs : s.size ≤ 4096) (hj : j ≤ s.size) (h0 : kind = 0 → j = s.size)
    (h1 : kind ≠ 0 → j + tx.size ≤ s.size ∧ ((s.extract j (j + tx.size)).toList == tx.toList) = true ∧ tx.toList ≠ []) :
    Calls Try.prog 9 #[.string s, .agg #[.int .u8 (kind : Nat), .string tx, .int .u64 (nu : Nat), .int .i64 (lineAt s j), .int .i64 (colAt s j)]] w fun e w' => Yes' w e w' := by
  have H0 := Lib.hid h0; clear h0
  have H1 := Lib.hid h1; clear h1
  go_enter Try.func9, Try.ntmps9
  go_wp2_with fail
  go_loopg [5, 6, 7] j (fun g v5 v6 v7 wx => ∃ i, i ≤ j ∧ g = j - i ∧ v5 = .int .i64 (lineAt s i) ∧ v6 = .int .i64 (colAt s i) ∧ v7 = .int .i64 (i : Nat) ∧
    Sits wx w.heap.size 34 #[.int .u8 (kind : Nat), .string tx, .int .u64 (nu : Nat), .int .i64 (lineAt s j), .int .i64 (colAt s j)] ∧ Below w.heap.size w wx)
  case atStart => exact ⟨0, Nat.zero_le _, rfl, rfl, rfl, rfl, Sits.new _ _ _, (Below.refl _ _).alloc (Nat.le_refl _) _⟩
  case round =>
    obtain ⟨i, hi, rfl, rfl, rfl, rfl, hB, hb⟩ := hrel
    obtain ⟨c0, c1, c2, c3, c4, _⟩ := hB.all5
    have hbd := place_bd s i
    by_cases hij : i < j
    · have hin := bAt_in s i (by omega)
      have hne : ((i : Int) == (s.size : Int)) = false := by simp; omega
      have hway := place_apart s i j hij hj
      by_cases hn : bAt s i = 10
      · have HL := Lib.hid (line_nl s i (by omega) hn)
        rcases hway with e1 | ⟨e1, e2⟩
        all_goals
          go_wp2_with fail
          go_roundg (j - (i + 1))
          case measure => omega
          case rel => exact ⟨i + 1, hij, rfl, by rw [HL.out.1], by rw [HL.out.2], by go_num, hB, hb⟩
      · have HL := Lib.hid (line_go s i (by omega) hn)
        rcases hway with e1 | ⟨e1, e2⟩
        all_goals
          go_wp2_with fail
          go_roundg (j - (i + 1))
          case measure => omega
          case rel => exact ⟨i + 1, hij, rfl, by rw [HL.out.1], by rw [HL.out.2], by go_num, hB, hb⟩
    · obtain rfl : i = j := by omega
      by_cases hk : kind = 0
      · have hz := H0.out hk
        subst hk
        subst hz
        go_wp2_with fail
        go_ret
        exact ⟨rfl, hb⟩
      · obtain ⟨hf, heq, hne⟩ := H1.out hk
        have hkb : ((kind : Int) == 0) = false := by simp; omega
        have hf1 : (tx.size : Int) ≤ (s.size : Int) - (i : Int) := by omega
        have i0 : (0 : Int) ≤ (i : Int) := Int.natCast_nonneg _
        have i1 : (i : Int) ≤ (i : Int) + (tx.size : Int) := by omega
        have i2 : (i : Int) + (tx.size : Int) ≤ (s.size : Int) := by omega
        have hne2 : tx.toList.isEmpty = false := by simpa using hne
        go_wp2_with fail
        go_quiet (fail)
        go_wp2_with fail
        go_ret
        exact ⟨rfl, ⟨hb.os, hb.tape, hb.output, hb.size, hb.block⟩⟩
end Go.Proofs.Ytfmopeldhgfpoaa.Lex
