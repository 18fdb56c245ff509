/- Layer 2 (lex): the document's own answer: its list of signs, and what the first of them that fits says. -/
import Derived.Test.YtfmopeldhgfpoaaLexE
namespace Go.Proofs.Ytfmopeldhgfpoaa.Lex
open Go.RowKit

def sgs : List (List UInt8) := [[61, 61], [33, 61], [60, 61], [60], [61], [33], [43], [45], [124], [94], [42], [47], [37], [38], [40], [41], [123], [125], [44], [59], [58]]
def sgn (q : Nat) : ByteArray := ⟨(sgs.getD q []).toArray⟩
def sgCells : Array Value := ((List.range 21).map fun q => Value.string (sgn q)).toArray
theorem sgCells_lit : sgCells = #[.string ⟨#[61, 61]⟩, .string ⟨#[33, 61]⟩, .string ⟨#[60, 61]⟩, .string ⟨#[60]⟩, .string ⟨#[61]⟩, .string ⟨#[33]⟩, .string ⟨#[43]⟩, .string ⟨#[45]⟩, .string ⟨#[124]⟩, .string ⟨#[94]⟩, .string ⟨#[42]⟩, .string ⟨#[47]⟩, .string ⟨#[37]⟩, .string ⟨#[38]⟩, .string ⟨#[40]⟩, .string ⟨#[41]⟩, .string ⟨#[123]⟩, .string ⟨#[125]⟩, .string ⟨#[44]⟩, .string ⟨#[59]⟩, .string ⟨#[58]⟩] := rfl
theorem sgCells_at (q : Nat) (h : q < 21) : sgCells[q]? = some (.string (sgn q)) := by
  unfold sgCells
  simp [h]
theorem sgn_size : ∀ q, q < 21 → 1 ≤ (sgn q).size ∧ (sgn q).size ≤ 2 := by
  intro q hq
  have h : ∀ q : Fin 21, 1 ≤ (sgs.getD q.1 []).length ∧ (sgs.getD q.1 []).length ≤ 2 := by decide
  exact h ⟨q, hq⟩

/-- Sign number q stands at k. -/
def hits (s : ByteArray) (k q : Nat) : Bool := decide (k + (sgn q).size ≤ s.size) && ((s.extract k (k + (sgn q).size)).toList == (sgn q).toList)
theorem hits_list (s : ByteArray) (k q : Nat) : hits s k q = (decide (k + (sgs.getD q []).length ≤ s.size) && ((s.data.toList.drop k).take (sgs.getD q []).length == sgs.getD q [])) := by
  unfold hits
  have e : (sgn q).size = (sgs.getD q []).length := rfl
  rw [Lib.toList_data, Lib.toList_data, cut_eq, e, Nat.add_sub_cancel_left]; rfl
theorem hits_one (s : ByteArray) (k q : Nat) (x : UInt8) (hk : k < s.size) (h : sgs.getD q [] = [x]) : hits s k q = (byt s k == x) := by
  rw [hits_list, h, drop_cons _ k hk]
  have : k + 1 ≤ s.size := hk
  simp [byt, this]
theorem hits_two (s : ByteArray) (k q : Nat) (x : UInt8) (hk : k < s.size) (h : sgs.getD q [] = [x, 61]) : hits s k q = (byt s k == x && byt s (k + 1) == 61) := by
  rw [hits_list, h, drop_cons _ k hk]
  by_cases h1 : k + 1 < s.size
  · rw [drop_cons _ (k + 1) h1]
    have : k + 2 ≤ s.size := h1
    simp [byt, this]
  · rw [byt_out s (k + 1) (by omega)]
    have : ¬ k + 2 ≤ s.size := by omega
    simp [this]

theorem none_hits (s : ByteArray) (k : Nat) (hk : k < s.size) (h : ∀ q, q < 21 → hits s k q = false) : isS (byt s k) = false := by
  have g : ∀ q x, q < 21 → sgs.getD q [] = [x] → (byt s k == x) = false := fun q x hq hx => by rw [← hits_one s k q x hk hx]; exact h q hq
  have g3 := g 3 60 (by omega) rfl
  have g4 := g 4 61 (by omega) rfl
  have g5 := g 5 33 (by omega) rfl
  have g6 := g 6 43 (by omega) rfl
  have g7 := g 7 45 (by omega) rfl
  have g8 := g 8 124 (by omega) rfl
  have g9 := g 9 94 (by omega) rfl
  have g10 := g 10 42 (by omega) rfl
  have g11 := g 11 47 (by omega) rfl
  have g12 := g 12 37 (by omega) rfl
  have g13 := g 13 38 (by omega) rfl
  have g14 := g 14 40 (by omega) rfl
  have g15 := g 15 41 (by omega) rfl
  have g16 := g 16 123 (by omega) rfl
  have g17 := g 17 125 (by omega) rfl
  have g18 := g 18 44 (by omega) rfl
  have g19 := g 19 59 (by omega) rfl
  have g20 := g 20 58 (by omega) rfl
  simp only [beq_eq_false_iff_ne, ne_eq] at *
  simp [isS, signs, *]

theorem first_hits (s : ByteArray) (k p : Nat) (hk : k < s.size) (hp : p < 21) (hh : hits s k p = true) (hn : ∀ q, q < p → hits s k q = false) :
    isS (byt s k) = true ∧ (sgn p).size = (if grows (byt s k) && byt s (k + 1) == 61 then 2 else 1) := by
  by_cases h3 : p < 3
  · have two : ∀ x, sgs.getD p [] = [x, 61] → isS x = true → grows x = true → isS (byt s k) = true ∧ (sgn p).size = (if grows (byt s k) && byt s (k + 1) == 61 then 2 else 1) := by
      intro x hx h1 h2
      have e := hits_two s k p x hk hx
      rw [hh] at e
      simp only [Bool.true_eq, Bool.and_eq_true, beq_iff_eq] at e
      have hs : (sgn p).size = 2 := by show (sgs.getD p []).length = 2; rw [hx]; rfl
      rw [e.1, e.2, hs, h1, h2]
      exact ⟨rfl, rfl⟩
    match p, h3 with
    | 0, _ => exact two 61 rfl rfl rfl
    | 1, _ => exact two 33 rfl rfl rfl
    | 2, _ => exact two 60 rfl rfl rfl
  · have d0 := hits_two s k 0 61 hk rfl
    have d1 := hits_two s k 1 33 hk rfl
    have d2 := hits_two s k 2 60 hk rfl
    rw [hn 0 (by omega)] at d0
    rw [hn 1 (by omega)] at d1
    rw [hn 2 (by omega)] at d2
    have hg : (grows (byt s k) && byt s (k + 1) == 61) = false := by
      unfold grows
      cases e1 : (byt s k == 61) <;> cases e2 : (byt s k == 33) <;> cases e3 : (byt s k == 60) <;> cases e4 : (byt s (k + 1) == 61) <;> simp [e1, e2, e3, e4] at d0 d1 d2 ⊢
    rw [hg]
    have one : ∀ x, sgs.getD p [] = [x] → isS x = true → isS (byt s k) = true ∧ (sgn p).size = (if false = true then 2 else 1) := by
      intro x hx h1
      have e := hits_one s k p x hk hx
      rw [hh] at e
      have e' : byt s k = x := by simpa using e.symm
      have hs : (sgn p).size = 1 := by show (sgs.getD p []).length = 1; rw [hx]; rfl
      rw [e', hs, h1]
      exact ⟨rfl, rfl⟩
    have hc : p = 3 ∨ p = 4 ∨ p = 5 ∨ p = 6 ∨ p = 7 ∨ p = 8 ∨ p = 9 ∨ p = 10 ∨ p = 11 ∨ p = 12 ∨ p = 13 ∨ p = 14 ∨ p = 15 ∨ p = 16 ∨ p = 17 ∨ p = 18 ∨ p = 19 ∨ p = 20 := by omega
    clear hp h3 hh hn d0 d1 d2
    rcases hc with rfl | rfl | rfl | rfl | rfl | rfl | rfl | rfl | rfl | rfl | rfl | rfl | rfl | rfl | rfl | rfl | rfl | rfl
    · exact one 60 rfl rfl
    · exact one 61 rfl rfl
    · exact one 33 rfl rfl
    · exact one 43 rfl rfl
    · exact one 45 rfl rfl
    · exact one 124 rfl rfl
    · exact one 94 rfl rfl
    · exact one 42 rfl rfl
    · exact one 47 rfl rfl
    · exact one 37 rfl rfl
    · exact one 38 rfl rfl
    · exact one 40 rfl rfl
    · exact one 41 rfl rfl
    · exact one 123 rfl rfl
    · exact one 125 rfl rfl
    · exact one 44 rfl rfl
    · exact one 59 rfl rfl
    · exact one 58 rfl rfl
end Go.Proofs.Ytfmopeldhgfpoaa.Lex
