/- Layer 3 (expr): what an expression comes to, whatever tells its leaves. -/
import Derived.Test.YtpdpofoicdijlaaGreatDoorExprI
namespace Go.Proofs.YtpdpofoicdijlaaGreatDoor.Expr
open Go.RowKit Go.Proofs.YtpdpofoicdijlaaGreatDoor.Mem Go.Lib

section
variable {κ : Type} {F : FuncId} {f c : Array Value} {B : Nat} {tl : List TypeId} {J : κ → World → Prop} {lf : κ → Ex → Int × κ} {lim : κ → Ex → Prop} {g gl : Nat} {w0 w w' : World} {st st' : List Int} {k : κ}
def reckR (lf : κ → Ex → Int × κ) (e : Ex) (s : List Int × κ) : List Int × κ := (s.1 ++ [(e.value lf s.2).1], (e.value lf s.2).2)
end
end Go.Proofs.YtpdpofoicdijlaaGreatDoor.Expr
