/- Layer 1 (num): the contracts of the program's functions and of the document's own answers. -/
import Derived.Test.YtpdpofoicdijlaaGreatDoorRows
import Derived.WalkKit
import Derived.WalkLawsBesides
import Derived.WalkMore
import Derived.Scope
import Derived.ScopeJumps
import Derived.Outline
import Derived.Lib.Hide
import Derived.LoopTactic
import Derived.Below
import Derived.Laws.BitsAllLaws
namespace Go.Proofs.YtpdpofoicdijlaaGreatDoor.Num
open Go.RowKit

def b2 (b : Bool) : Int := if b then 1 else 0

/-- A scope whose run may go forward to one label, once: what stands behind the label is walked from there. -/
theorem wp_scope_forward {P : Program} {a : Act} {w : World} {Q : Exit → Act → World → Prop} {c rest : Code} (l : Nat) (hf : findLabel c l = some rest)
    (first : c.wp P (Exit.jump l (fun a' w' => rest.wp P (Exit.noGoto Q) a' w') Q) a w) : (Code.scope c).wp P Q a w :=
  wp_scope_jumps l (fun a' w' => rest.wp P (Exit.noGoto Q) a' w') (fun _ _ => 0) hf first
    (fun _ _ h => wp_mono h (fun e _ _ hq => by cases e <;> first | exact hq | exact False.elim hq))
section
variable {Q : Exit → Act → World → Prop} {J : Act → World → Prop} {a : Act} {w : World} {l : Nat}
theorem jump_ret (h : Q .ret a w) : Exit.jump l J Q .ret a w := h
end

/-- The answer of two sides. -/
def doF (op a b : Int) : Int :=
  if op = 1 then b2 (a == b) else if op = 2 then b2 (a != b) else if op = 3 then b2 (decide (a < b)) else if op = 4 then b2 (decide (a ≤ b))
  else if op = 5 then IntKind.u64.wrap (a + b) else if op = 6 then IntKind.u64.wrap (a - b)
  else if op = 7 then bits .or .u64 a b else if op = 8 then bits .xor .u64 a b else if op = 9 then IntKind.u64.wrap (a * b)
  else if op = 10 then (if b = 0 then 0 else a / b) else if op = 11 then (if b = 0 then 0 else a % b) else if op = 12 then bits .and .u64 a b else 0


theorem ret_int {k : IntKind} {a b : Int} (h : a = b) : Ending.returned (.int k a) = .returned (.int k b) := by rw [h]
theorem doF_10 (a b : Int) (h : 0 < b) : a / b = doF 10 a b := by
  have : b ≠ 0 := by omega
  simp [doF, this]
theorem doF_11 (a b : Int) (h : 0 < b) : a % b = doF 11 a b := by
  have : b ≠ 0 := by omega
  simp [doF, this]
/-- The answer of one side. -/
def oneF (op a : Int) : Int := if op = 13 then b2 (a == 0) else if op = 14 then IntKind.u64.wrap (-a) else 0
/-- How many sides. -/
def sidesF (op : Int) : Int := if 1 ≤ op ∧ op ≤ 12 then 2 else if op = 13 ∨ op = 14 then 1 else 0
theorem sidesF_2 {op : Int} (h1 : 1 ≤ op) (h2 : op ≤ 12) : 2 = sidesF op := by unfold sidesF; rw [if_pos ⟨h1, h2⟩]
theorem sidesF_1 {op : Int} (h : op = 13 ∨ op = 14) : 1 = sidesF op := by unfold sidesF; rw [if_neg (by omega), if_pos h]
theorem sidesF_0 {op : Int} (h : op < 1 ∨ 14 < op) : 0 = sidesF op := by unfold sidesF; rw [if_neg (by omega), if_neg (by omega)]
theorem sides_any (op : Int) (w : World) :
    Calls Tryz.prog 122 #[.int .u8 op] w fun e w' => e = .returned (.int .i64 (sidesF op)) ∧ w = w' := by
  by_cases h1 : op < 1
  · go_enter Tryz.func122, Tryz.ntmps122
    have e1 : (op == 13) = false := beq_eq_false_iff_ne.2 (by omega)
    have e2 : (op == 14) = false := beq_eq_false_iff_ne.2 (by omega)
    go_wp2
    go_ret
    exact ⟨ret_int (sidesF_0 (.inl h1)), rfl⟩
  · by_cases h2 : op ≤ 12
    · go_enter Tryz.func122, Tryz.ntmps122
      go_wp2
      go_ret
      exact ⟨ret_int (sidesF_2 (by omega) h2), rfl⟩
    · by_cases h3 : op = 13
      · subst h3
        go_enter Tryz.func122, Tryz.ntmps122
        go_wp2
        go_ret
        exact ⟨rfl, rfl⟩
      · by_cases h4 : op = 14
        · subst h4
          go_enter Tryz.func122, Tryz.ntmps122
          go_wp2
          go_ret
          exact ⟨rfl, rfl⟩
        · have e1 : (op == 13) = false := beq_eq_false_iff_ne.2 h3
          have e2 : (op == 14) = false := beq_eq_false_iff_ne.2 h4
          have h5 : 14 < op := by omega
          clear h3 h4
          go_enter Tryz.func122, Tryz.ntmps122
          go_wp2
          go_ret
          exact ⟨ret_int (sidesF_0 (.inr h5)), rfl⟩
theorem rsides_any (op : Int) (w : World) :
    Calls Tryz.prog 135 #[.int .u8 op] w fun e w' => e = .returned (.int .i64 (sidesF op)) ∧ w = w' := by
  by_cases h1 : op < 1
  · go_enter Tryz.func135, Tryz.ntmps135
    have e1 : (op == 13) = false := beq_eq_false_iff_ne.2 (by omega)
    have e2 : (op == 14) = false := beq_eq_false_iff_ne.2 (by omega)
    go_wp2
    go_ret
    exact ⟨ret_int (sidesF_0 (.inl h1)), rfl⟩
  · by_cases h2 : op ≤ 12
    · go_enter Tryz.func135, Tryz.ntmps135
      have e1 : (op == 13) = false := beq_eq_false_iff_ne.2 (by omega)
      have e2 : (op == 14) = false := beq_eq_false_iff_ne.2 (by omega)
      go_wp2
      go_ret
      exact ⟨ret_int (sidesF_2 (by omega) h2), rfl⟩
    · by_cases h3 : op = 13
      · subst h3
        go_enter Tryz.func135, Tryz.ntmps135
        go_wp2
        go_ret
        exact ⟨rfl, rfl⟩
      · by_cases h4 : op = 14
        · subst h4
          go_enter Tryz.func135, Tryz.ntmps135
          go_wp2
          go_ret
          exact ⟨rfl, rfl⟩
        · have e1 : (op == 13) = false := beq_eq_false_iff_ne.2 h3
          have e2 : (op == 14) = false := beq_eq_false_iff_ne.2 h4
          have h5 : 14 < op := by omega
          clear h3 h4
          go_enter Tryz.func135, Tryz.ntmps135
          go_wp2
          go_ret
          exact ⟨ret_int (sidesF_0 (.inr h5)), rfl⟩
end Go.Proofs.YtpdpofoicdijlaaGreatDoor.Num
