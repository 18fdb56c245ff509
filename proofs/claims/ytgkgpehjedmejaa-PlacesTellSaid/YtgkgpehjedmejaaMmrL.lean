/- Layer 11 (memory): slices.Backward, an iterator that goes through a row from its end. -/
import Derived.RangeFuncNested
import Derived.RangeFuncBound
import Derived.RangeFuncCalls
import Derived.RangeFuncLeaves
import Derived.Shelf.Abstract
import Derived.Shelf.RegionOpen
import Derived.WalkKit
import Derived.OwnWalkIn
import Derived.TacticsInMore
import Derived.LoopNIn
import Derived.LoopIn
import Derived.Test.YtgkgpehjedmejaaMmrK
namespace Go.Proofs.Ytgkgpehjedmejaa.Mmr
open Go.RowKit Go.Shelf Go.Proofs.Ytgkgpehjedmejaa.Mem Go.Proofs.Ytgkgpehjedmejaa.Flow
attribute [local go_sem] Oper.semAt_some

/-- What comes in a round: a place, and an item of which L is so. -/
abbrev Round (L : It → Prop) := { q : Int × It // L q.2 }
abbrev encI {L : It → Prop} (x : Round L) : Array Value := #[.int .i64 x.1.1, itV x.1.2]
theorem rev_at {l : List It} {k t : Nat} {x : It} (h : k < l.length) (ht : t = l.length - 1 - k) (hx : l[t]? = some x) : l.reverse.take (k + 1) = l.reverse.take k ++ [x] := by
  rw [List.take_add_one, List.getElem?_reverse h, ← ht, hx]; rfl
end Go.Proofs.Ytgkgpehjedmejaa.Mmr
