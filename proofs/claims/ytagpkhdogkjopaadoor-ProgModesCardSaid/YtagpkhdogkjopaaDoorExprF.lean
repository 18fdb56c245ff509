/- Layer 3 (expr): how the document itself writes a row's expression. -/
import Derived.Test.YtagpkhdogkjopaaDoorExprE
namespace Go.Proofs.YtagpkhdogkjopaaDoor.Expr
open Go.RowKit Go.Proofs.YtagpkhdogkjopaaDoor.Mem Go.Lib

/-! ### How long a text is -/
def Ex.size : Ex → Nat
  | .one _ a => a.size + 1
  | .two _ a b => a.size + b.size + 1
  | _ => 1
theorem atLeast_len (n k : Nat) (l : List UInt8) : (atLeast n k l).length ≤ l.length + 2 := by
  unfold atLeast; split <;> simp
theorem sign_len (op : Nat) : (sign op).length ≤ 2 := by
  unfold sign
  by_cases h : op < 15
  · have : ∀ y : Fin 15, (([[], [61, 61], [33, 61], [60], [60, 61], [43], [45], [124], [94], [42], [47], [37], [38], [33], [45]] : List (List UInt8)).getD y.val []).length ≤ 2 := by decide
    exact this ⟨op, h⟩
  · rw [List.getD_eq_getElem?_getD, List.getElem?_eq_none (by simp; omega)]; simp
theorem text_len (e : Ex) (h : e.ok) : e.text.length ≤ 28 * e.size := by
  induction e with
  | num n => have := dec_len n h; simp only [Ex.text, Ex.size]; omega
  | reg i => have h' : i < 8 := h; have := dec_len i (by omega); simp only [Ex.text, Ex.size, List.length_cons]; omega
  | of t i =>
    have h' : t < 4 ∧ i < 8 := h
    have : (dec t).length ≤ 1 := by unfold dec; rw [Lib.decDigits_length, Lib.nDigits_small (by omega)]; exact Nat.le_refl _
    have := dec_len i (by omega); simp only [Ex.text, Ex.size, List.length_cons, List.length_append]; omega
  | loc x => simp [Ex.text, Ex.size]
  | one op a ih =>
    have := ih h.2; have := atLeast_len (strongOp op) a.strong a.text; have := sign_len op
    simp only [Ex.text, Ex.size, List.length_append]; omega
  | two op a b iha ihb =>
    have := iha h.2.2.1; have := ihb h.2.2.2; have := atLeast_len (strongOp op) a.strong a.text; have := atLeast_len (strongOp op + 1) b.strong b.text; have := sign_len op
    simp only [Ex.text, Ex.size, List.length_append, List.length_cons, List.length_nil]; omega
theorem size_depth (e : Ex) : e.size + 1 ≤ 2 ^ e.depth := by
  induction e with
  | one op a ih => simp only [Ex.size, Ex.depth, Nat.pow_succ]; omega
  | two op a b iha ihb =>
    have h1 : 2 ^ a.depth ≤ 2 ^ max a.depth b.depth := Nat.pow_le_pow_right (by omega) (Nat.le_max_left _ _)
    have h2 : 2 ^ b.depth ≤ 2 ^ max a.depth b.depth := Nat.pow_le_pow_right (by omega) (Nat.le_max_right _ _)
    simp only [Ex.size, Ex.depth, Nat.pow_succ]; omega
  | _ => simp [Ex.size, Ex.depth]
theorem text_len12 (e : Ex) (h : e.ok) (hd : e.depth ≤ 12) : e.text.length ≤ 114660 := by
  have h1 := text_len e h
  have h2 := size_depth e
  have h3 : 2 ^ e.depth ≤ 2 ^ 12 := Nat.pow_le_pow_right (by omega) hd
  have h4 : (2 : Nat) ^ 12 = 4096 := rfl
  omega
theorem Sp.size {l : List It} {k m : Nat} {e : Ex} (h : Sp l k e m) : e.size ≤ m - k := by
  induction h with
  | one _ _ _ hs ih => have := hs.le; simp only [Ex.size]; omega
  | two _ _ _ _ hs1 hs2 ih1 ih2 => have := hs1.le; have := hs2.le; simp only [Ex.size]; omega
  | _ => simp [Ex.size]
theorem Sp.strong {l : List It} {k m : Nat} {e : Ex} (h : Sp l k e m) : ∃ a, l[k]? = some a ∧ strongIt a = e.strong := by
  cases h with
  | num h hk => exact ⟨_, h, by unfold strongIt; rw [if_pos (by omega)]; rfl⟩
  | reg h hk _ => exact ⟨_, h, by unfold strongIt; rw [if_pos (by omega)]; rfl⟩
  | of h hk _ _ => exact ⟨_, h, by unfold strongIt; rw [if_pos (by omega)]; rfl⟩
  | loc h hk _ _ _ => exact ⟨_, h, by unfold strongIt; rw [if_pos (by omega)]; rfl⟩
  | one h hk ho _ => exact ⟨_, h, by unfold strongIt; rw [if_neg (by omega), if_pos hk]; rcases ho with e | e <;> rw [Ex.strong, e] <;> rfl⟩
  | @two _ a e f m j h hk h1 h2 _ _ => exact ⟨a, h, by
      show strongIt a = strongOp a.op
      unfold strongIt strongOp
      rw [if_neg (by omega), if_neg (by omega)]
      by_cases a1 : a.op < 5
      · rw [if_pos a1, if_pos ⟨h1, by omega⟩]
      · rw [if_neg a1, if_neg (show ¬ (1 ≤ a.op ∧ a.op ≤ 4) by omega)]
        by_cases a2 : a.op < 9
        · rw [if_pos a2, if_pos (show 5 ≤ a.op ∧ a.op ≤ 8 by omega)]
        · rw [if_neg a2, if_neg (show ¬ (5 ≤ a.op ∧ a.op ≤ 8) by omega), if_pos (show 9 ≤ a.op ∧ a.op ≤ 12 by omega)]⟩

theorem sign_any (op : Nat) (h : op ≤ 255) (w : World) (hT : Tabs w) : Calls Tryd.prog 62 #[.int .u8 op] w fun e w' => e = .returned (.string (str (sign op))) ∧ w = w' :=
  (Num.text_any op (by omega) (by omega) w hT.1).mono fun _ _ h => h

/-! ### The document's own text -/
section
variable (l : List It) (k : Nat) (v : Value) (w : World)
end
theorem item_keep {l : List It} {g o cap : Nat} {w : World} (h : ∀ W, Below w.heap.size w W → Row W (.slice (some ⟨g, o, none⟩) l.length cap) l) {k : Nat} {a : It} (ha : l[k]? = some a) : Hid (∀ W, Below w.heap.size w W → ItemAt W g (o + k * 6) a) := Lib.hid fun W hb => by
  obtain ⟨g', o', cap', hv', _, _, hit⟩ := (h W hb).item ha
  injection hv' with e1 _ _
  injection e1 with e1
  injection e1 with e1 e2
  subst e1; subst e2
  exact hit
end Go.Proofs.YtagpkhdogkjopaaDoor.Expr
