/- Part 5 of the proof: what is used of the texts ExprF. -/
import Derived.Test.YtagebkachdmnbaaGreatDoorMA3
import Derived.LoopN
section
namespace Go.Proofs.YtagebkachdmnbaaGreatDoor.Expr
open Go.RowKit Go.Proofs.YtagebkachdmnbaaGreatDoor.Mem Go.Lib
theorem sign_any (op:Nat) (h:op<=255) (w:World) (hT:Tabs w):Calls Tryz.prog 285 #[.int .u8 op] w fun e w'=>e = .returned (.string (str (sign op)))/\w=w' :=
  (Num.text_any op (by omega) (by omega) w hT.1).mono fun _ _ h=>h
section
variable (l : List It) (k : Nat) (v : Value) (w : World)
end
end Go.Proofs.YtagebkachdmnbaaGreatDoor.Expr
end
