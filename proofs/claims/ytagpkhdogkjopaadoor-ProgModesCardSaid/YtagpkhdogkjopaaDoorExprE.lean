/- Layer 3 (expr): where the document's own expression ends; whether a row is good; whether two items are alike. -/
import Derived.Test.YtagpkhdogkjopaaDoorExprD
import Derived.LoopN
namespace Go.Proofs.YtagpkhdogkjopaaDoor.Expr
open Go.RowKit Go.Proofs.YtagpkhdogkjopaaDoor.Mem Go.Lib

def endV : Option (Nat × Nat) → Value
  | some p => .tuple #[.int .i64 (p.1 : Nat), .int .i64 (p.2 : Nat)]
  | none => .tuple #[.int .i64 (-1), .int .i64 0]
theorem ret_pair {k k' : IntKind} {a b a' b' : Int} (h1 : a = a') (h2 : b = b') : Ending.returned (.tuple #[.int k a, .int k' b]) = .returned (.tuple #[.int k a', .int k' b']) := by rw [h1, h2]
theorem max0 (d : Nat) : max (0 : Int) (d : Int) = (d : Int) := by omega

section
variable (l : List It) (k f : Nat) (v : Value) (w : World)
end
/-- What the row begins with. -/
def endOf (l : List It) : Option (Nat × Nat) := endF l (l.length + 1) 0
def goodV (r : Option (Nat × Nat)) : Value := match r with
  | some p => .tuple #[.int .i64 (p.1 : Nat), .bool (decide (p.2 ≤ 12))]
  | none => .tuple #[.int .i64 (-1), .bool false]
/-- Two items, as far as their kinds say. -/
def alikeB (a b : It) : Bool :=
  decide (a.kind = b.kind) && (if a.kind = 0 then decide (a.n = b.n) else if a.kind = 1 then decide (a.i = b.i) else if a.kind = 2 then decide (a.t = b.t) && decide (a.i = b.i)
    else if a.kind = 3 then decide (a.x = b.x) else decide (a.op = b.op))
theorem nat_beq (a b : Nat) : ((a : Int) == (b : Int)) = decide (a = b) := by
  by_cases h : a = b
  · subst h; simp
  · rw [beq_eq_false_iff_ne.2 (by omega)]; simp [h]
end Go.Proofs.YtagpkhdogkjopaaDoor.Expr
