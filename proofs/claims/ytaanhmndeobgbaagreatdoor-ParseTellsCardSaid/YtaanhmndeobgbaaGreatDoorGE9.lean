/- Part 50 of the proof: what is used of the texts ExprV. -/
import Derived.Test.YtaanhmndeobgbaaGreatDoorGA9
import Derived.Test.YtaanhmndeobgbaaGreatDoorGA6
namespace Go.Proofs.YtaanhmndeobgbaaGreatDoor.Expr
open Go.RowKit Go.ChangeShapes Go.WideShapes Go.ChangeAt Card Mem Go.Deep
theorem laidOut:laidOutB Tryz.prog=true:=by kernel_rfl
section
variable {H : Type} {enc : TypeId × Value → H} {w : World} {base : Nat} {sp : Nat → Bool} {held : Bool}
end
end Go.Proofs.YtaanhmndeobgbaaGreatDoor.Expr
