/- Part 7 of the proof: what is used of the texts ExprV. -/
import Derived.Test.YtagebkachdmnbaaGreatDoorEA5
import Derived.Test.YtagebkachdmnbaaGreatDoorEA3
section
namespace Go.Proofs.YtagebkachdmnbaaGreatDoor.Expr
open Go.RowKit Go.ChangeShapes Go.WideShapes Go.ChangeAt Go.Proofs.YtagebkachdmnbaaGreatDoor.Card Go.Proofs.YtagebkachdmnbaaGreatDoor.Mem Go.Deep
theorem nat_of_u64 {z:Int} (h:(Lit.int .u64 z).wf=true):∃ n:Nat,z=(n:Nat)/\n<18446744073709551616:=by
  have:=bounds_u64 h
  exact ⟨z.toNat,by omega,by omega⟩
section
variable {H : Type} {enc : TypeId × Value → H} {w : World} {base : Nat} {sp : Nat → Bool} {held : Bool}
end
end Go.Proofs.YtagebkachdmnbaaGreatDoor.Expr
end
