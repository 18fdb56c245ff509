/- Layer 11 (memory): Closed. -/
import Derived.Test.YtgkgpehjedmejaaMmrN
namespace Go.Proofs.Ytgkgpehjedmejaa.Mmr
open Go.RowKit Go.Proofs.Ytgkgpehjedmejaa.Mem Go.Proofs.Ytgkgpehjedmejaa.Flow

structure ClAt (w : World) (p : Nat → Option Addr) (c : Nat → Nat) (m : Mm) (v : Nat → Int) (W : World) : Prop where
  at2 : Sits W w.heap.size 28 (memCells p c m)
  at3 : Sits W (w.heap.size + 1) 50 (Vew.vewCells v)
  low : Below w.heap.size w W
theorem ClAt.grown {w W W' : World} {p : Nat → Option Addr} {c : Nat → Nat} {m : Mm} {v : Nat → Int} (h : ClAt w p c m v W) (hb : Below W.heap.size W W') : ClAt w p c m v W' :=
  ⟨h.at2.below hb h.at2.lt, h.at3.below hb h.at3.lt, h.low.trans (hb.mono h.low.size)⟩
theorem closed_eq (m : Mm) (v : Nat → Int) : closedF m v = Vew.sameF 8 v (Vew.mapsF (closeF m) v) := rfl
end Go.Proofs.Ytgkgpehjedmejaa.Mmr
