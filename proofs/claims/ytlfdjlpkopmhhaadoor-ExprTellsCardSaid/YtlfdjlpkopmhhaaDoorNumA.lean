/- Layer 1 (num): the contracts of the program's functions and of the document's own answers. -/
import Derived.Test.YtlfdjlpkopmhhaaDoorRows
import Derived.WalkKit
import Derived.WalkLawsBesides
import Derived.WalkMore
import Derived.Scope
import Derived.ScopeJumps
import Derived.Outline
import Derived.Lib.Hide
import Derived.LoopTactic
import Derived.Below
import Derived.Laws.BitsAllLaws
namespace Go.Proofs.YtlfdjlpkopmhhaaDoor.Num
open Go.RowKit

def b2 (b : Bool) : Int := if b then 1 else 0

/-- A scope whose run may go forward to one label, once: what stands behind the label is walked from there. -/
theorem wp_scope_forward {P : Program} {a : Act} {w : World} {Q : Exit → Act → World → Prop} {c rest : Code} (l : Nat) (hf : findLabel c l = some rest)
    (first : c.wp P (Exit.jump l (fun a' w' => rest.wp P (Exit.noGoto Q) a' w') Q) a w) : (Code.scope c).wp P Q a w :=
  wp_scope_jumps l (fun a' w' => rest.wp P (Exit.noGoto Q) a' w') (fun _ _ => 0) hf first
    (fun _ _ h => wp_mono h (fun e _ _ hq => by cases e <;> first | exact hq | exact False.elim hq))
section
variable {Q : Exit → Act → World → Prop} {J : Act → World → Prop} {a : Act} {w : World} {l : Nat}
theorem jump_ret (h : Q .ret a w) : Exit.jump l J Q .ret a w := h
end

theorem truth_any (b : Bool) (w : World) :
    Calls Tryd.prog 33 #[.bool b] w fun e w' => e = .returned (.int .u64 (b2 b)) ∧ w = w' := by
  cases b
  all_goals
    go_enter Tryd.func33, Tryd.ntmps33
    go_wp2
    go_ret
    exact ⟨rfl, rfl⟩
theorem rtruth_any (b : Bool) (w : World) :
    Calls Tryd.prog 34 #[.bool b] w fun e w' => e = .returned (.int .u64 (b2 b)) ∧ w = w' := by
  cases b
  all_goals
    go_enter Tryd.func34, Tryd.ntmps34
    go_wp2
    go_ret
    exact ⟨rfl, rfl⟩

/-- The answer of two sides. -/
def doF (op a b : Int) : Int :=
  if op = 1 then b2 (a == b) else if op = 2 then b2 (a != b) else if op = 3 then b2 (decide (a < b)) else if op = 4 then b2 (decide (a ≤ b))
  else if op = 5 then IntKind.u64.wrap (a + b) else if op = 6 then IntKind.u64.wrap (a - b)
  else if op = 7 then bits .or .u64 a b else if op = 8 then bits .xor .u64 a b else if op = 9 then IntKind.u64.wrap (a * b)
  else if op = 10 then (if b = 0 then 0 else a / b) else if op = 11 then (if b = 0 then 0 else a % b) else if op = 12 then bits .and .u64 a b else 0


/-- What the walk of a straight arm leaves. -/
theorem do_pure (op : Int) (hop : op = 5 ∨ op = 6 ∨ op = 7 ∨ op = 8 ∨ op = 9 ∨ op = 12) (a b : Int) (w : World) :
    Calls Tryd.prog 8 #[.int .u8 op, .int .u64 a, .int .u64 b] w fun e w' => e = .returned (.int .u64 (doF op a b)) ∧ w = w' := by
  rcases hop with rfl | rfl | rfl | rfl | rfl | rfl
  all_goals
    go_enter Tryd.func8, Tryd.ntmps8
    go_wp2
    go_step3
    go_wp2
    rw [Exit.noGoto_ret]
    go_ret
    exact ⟨rfl, rfl⟩
theorem do_cmp (op : Int) (hop : op = 1 ∨ op = 2 ∨ op = 3 ∨ op = 4) (a b : Int) (w : World) :
    Calls Tryd.prog 8 #[.int .u8 op, .int .u64 a, .int .u64 b] w fun e w' => e = .returned (.int .u64 (doF op a b)) ∧ w = w' := by
  rcases hop with rfl | rfl | rfl | rfl
  all_goals
    go_enter Tryd.func8, Tryd.ntmps8
    go_wp2
    go_step3
    go_wp2_with (go_at_call 33; refine (truth_any _ _).mono ?_; rintro e w' ⟨rfl, rfl⟩)
    rw [Exit.noGoto_ret]
    go_ret
    exact ⟨rfl, rfl⟩
theorem ret_int {k : IntKind} {a b : Int} (h : a = b) : Ending.returned (.int k a) = .returned (.int k b) := by rw [h]
theorem doF_10 (a b : Int) (h : 0 < b) : a / b = doF 10 a b := by
  have : b ≠ 0 := by omega
  simp [doF, this]
theorem doF_11 (a b : Int) (h : 0 < b) : a % b = doF 11 a b := by
  have : b ≠ 0 := by omega
  simp [doF, this]
theorem do_div (op : Int) (hop : op = 10 ∨ op = 11) (a b : Int) (h1 : 0 ≤ a) (_h2 : a < 18446744073709551616) (h3 : 0 < b) (w : World) :
    Calls Tryd.prog 8 #[.int .u8 op, .int .u64 a, .int .u64 b] w fun e w' => e = .returned (.int .u64 (doF op a b)) ∧ w = w' := by
  rcases hop with rfl | rfl
  all_goals
    go_enter Tryd.func8, Tryd.ntmps8
    go_wp2
    go_step3
    go_wp2
    rw [Exit.noGoto_ret]
    go_ret
    first | exact ⟨ret_int (doF_10 a b h3), rfl⟩ | exact ⟨ret_int (doF_11 a b h3), rfl⟩
theorem do_zero (op : Int) (hop : op = 10 ∨ op = 11) (a : Int) (w : World) :
    Calls Tryd.prog 8 #[.int .u8 op, .int .u64 a, .int .u64 0] w fun e w' => e = .returned (.int .u64 (doF op a 0)) ∧ w = w' := by
  rcases hop with rfl | rfl
  all_goals
    go_enter Tryd.func8, Tryd.ntmps8
    go_wp2
    refine wp_scope_forward 0 rfl ?_
    go_wp2
    go_step3
    refine ⟨rfl, ?_⟩
    go_wp2
    rw [Exit.noGoto_ret]
    go_ret
    exact ⟨rfl, rfl⟩
theorem do_none (op : Int) (hop : op < 1 ∨ 12 < op) (a b : Int) (w : World) :
    Calls Tryd.prog 8 #[.int .u8 op, .int .u64 a, .int .u64 b] w fun e w' => e = .returned (.int .u64 (doF op a b)) ∧ w = w' := by
  have hz : doF op a b = 0 := by
    unfold doF; repeat rw [if_neg (by omega)]
  have HZ := Lib.hid hz; clear hz
  rcases hop with h | h
  all_goals
    go_enter Tryd.func8, Tryd.ntmps8
    go_wp2
    go_step3
    go_wp2
    go_step3
    go_wp2
    rw [Exit.noGoto_ret]
    go_ret
    exact ⟨ret_int HZ.out.symm, rfl⟩
/-- num.Do, whatever its operation: of numbers of 64 bits. -/
theorem do_any (op a b : Int) (ha : 0 ≤ a) (ha' : a < 18446744073709551616) (hb : 0 ≤ b) (w : World) :
    Calls Tryd.prog 8 #[.int .u8 op, .int .u64 a, .int .u64 b] w fun e w' => e = .returned (.int .u64 (doF op a b)) ∧ w = w' := by
  by_cases h1 : op < 1 ∨ 12 < op
  · exact do_none op h1 a b w
  · by_cases h2 : op = 10 ∨ op = 11
    · by_cases h3 : b = 0
      · subst h3; exact do_zero op h2 a w
      · exact do_div op h2 a b ha ha' (by omega) w
    · by_cases h4 : op ≤ 4
      · exact do_cmp op (by omega) a b w
      · exact do_pure op (by omega) a b w

/-- The answer of one side. -/
def oneF (op a : Int) : Int := if op = 13 then b2 (a == 0) else if op = 14 then IntKind.u64.wrap (-a) else 0
theorem one_any (op a : Int) (w : World) :
    Calls Tryd.prog 10 #[.int .u8 op, .int .u64 a] w fun e w' => e = .returned (.int .u64 (oneF op a)) ∧ w = w' := by
  by_cases h13 : op = 13
  · subst h13
    go_enter Tryd.func10, Tryd.ntmps10
    go_wp2_with (go_at_call 33; refine (truth_any _ _).mono ?_; rintro e w' ⟨rfl, rfl⟩)
    go_ret
    exact ⟨rfl, rfl⟩
  · by_cases h14 : op = 14
    · subst h14
      go_enter Tryd.func10, Tryd.ntmps10
      go_wp2
      go_ret
      exact ⟨rfl, rfl⟩
    · have HZ : Hid (oneF op a = 0) := Lib.hid (by unfold oneF; rw [if_neg h13, if_neg h14])
      have e1 : (op == 13) = false := beq_eq_false_iff_ne.2 h13
      have e2 : (op == 14) = false := beq_eq_false_iff_ne.2 h14
      clear h13 h14
      go_enter Tryd.func10, Tryd.ntmps10
      go_wp2
      go_ret
      exact ⟨ret_int HZ.out.symm, rfl⟩
theorem rone_any (op a : Int) (w : World) :
    Calls Tryd.prog 11 #[.int .u8 op, .int .u64 a] w fun e w' => e = .returned (.int .u64 (oneF op a)) ∧ w = w' := by
  by_cases h13 : op = 13
  · subst h13
    go_enter Tryd.func11, Tryd.ntmps11
    go_wp2_with (go_at_call 34; refine (rtruth_any _ _).mono ?_; rintro e w' ⟨rfl, rfl⟩)
    go_ret
    exact ⟨rfl, rfl⟩
  · by_cases h14 : op = 14
    · subst h14
      go_enter Tryd.func11, Tryd.ntmps11
      go_wp2
      go_ret
      exact ⟨rfl, rfl⟩
    · have HZ : Hid (oneF op a = 0) := Lib.hid (by unfold oneF; rw [if_neg h13, if_neg h14])
      have e1 : (op == 13) = false := beq_eq_false_iff_ne.2 h13
      have e2 : (op == 14) = false := beq_eq_false_iff_ne.2 h14
      clear h13 h14
      go_enter Tryd.func11, Tryd.ntmps11
      go_wp2
      go_ret
      exact ⟨ret_int HZ.out.symm, rfl⟩

/-- How many sides. -/
def sidesF (op : Int) : Int := if 1 ≤ op ∧ op ≤ 12 then 2 else if op = 13 ∨ op = 14 then 1 else 0
theorem sidesF_2 {op : Int} (h1 : 1 ≤ op) (h2 : op ≤ 12) : 2 = sidesF op := by unfold sidesF; rw [if_pos ⟨h1, h2⟩]
theorem sidesF_1 {op : Int} (h : op = 13 ∨ op = 14) : 1 = sidesF op := by unfold sidesF; rw [if_neg (by omega), if_pos h]
theorem sidesF_0 {op : Int} (h : op < 1 ∨ 14 < op) : 0 = sidesF op := by unfold sidesF; rw [if_neg (by omega), if_neg (by omega)]
theorem sides_any (op : Int) (w : World) :
    Calls Tryd.prog 12 #[.int .u8 op] w fun e w' => e = .returned (.int .i64 (sidesF op)) ∧ w = w' := by
  by_cases h1 : op < 1
  · go_enter Tryd.func12, Tryd.ntmps12
    have e1 : (op == 13) = false := beq_eq_false_iff_ne.2 (by omega)
    have e2 : (op == 14) = false := beq_eq_false_iff_ne.2 (by omega)
    go_wp2
    go_ret
    exact ⟨ret_int (sidesF_0 (.inl h1)), rfl⟩
  · by_cases h2 : op ≤ 12
    · go_enter Tryd.func12, Tryd.ntmps12
      go_wp2
      go_ret
      exact ⟨ret_int (sidesF_2 (by omega) h2), rfl⟩
    · by_cases h3 : op = 13
      · subst h3
        go_enter Tryd.func12, Tryd.ntmps12
        go_wp2
        go_ret
        exact ⟨rfl, rfl⟩
      · by_cases h4 : op = 14
        · subst h4
          go_enter Tryd.func12, Tryd.ntmps12
          go_wp2
          go_ret
          exact ⟨rfl, rfl⟩
        · have e1 : (op == 13) = false := beq_eq_false_iff_ne.2 h3
          have e2 : (op == 14) = false := beq_eq_false_iff_ne.2 h4
          have h5 : 14 < op := by omega
          clear h3 h4
          go_enter Tryd.func12, Tryd.ntmps12
          go_wp2
          go_ret
          exact ⟨ret_int (sidesF_0 (.inr h5)), rfl⟩
theorem rsides_any (op : Int) (w : World) :
    Calls Tryd.prog 13 #[.int .u8 op] w fun e w' => e = .returned (.int .i64 (sidesF op)) ∧ w = w' := by
  by_cases h1 : op < 1
  · go_enter Tryd.func13, Tryd.ntmps13
    have e1 : (op == 13) = false := beq_eq_false_iff_ne.2 (by omega)
    have e2 : (op == 14) = false := beq_eq_false_iff_ne.2 (by omega)
    go_wp2
    go_ret
    exact ⟨ret_int (sidesF_0 (.inl h1)), rfl⟩
  · by_cases h2 : op ≤ 12
    · go_enter Tryd.func13, Tryd.ntmps13
      have e1 : (op == 13) = false := beq_eq_false_iff_ne.2 (by omega)
      have e2 : (op == 14) = false := beq_eq_false_iff_ne.2 (by omega)
      go_wp2
      go_ret
      exact ⟨ret_int (sidesF_2 (by omega) h2), rfl⟩
    · by_cases h3 : op = 13
      · subst h3
        go_enter Tryd.func13, Tryd.ntmps13
        go_wp2
        go_ret
        exact ⟨rfl, rfl⟩
      · by_cases h4 : op = 14
        · subst h4
          go_enter Tryd.func13, Tryd.ntmps13
          go_wp2
          go_ret
          exact ⟨rfl, rfl⟩
        · have e1 : (op == 13) = false := beq_eq_false_iff_ne.2 h3
          have e2 : (op == 14) = false := beq_eq_false_iff_ne.2 h4
          have h5 : 14 < op := by omega
          clear h3 h4
          go_enter Tryd.func13, Tryd.ntmps13
          go_wp2
          go_ret
          exact ⟨ret_int (sidesF_0 (.inr h5)), rfl⟩
end Go.Proofs.YtlfdjlpkopmhhaaDoor.Num
