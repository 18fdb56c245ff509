/- Layer 11 (memory): At, Last, Closed. -/
import Derived.Test.YtgkgpehjedmejaaMmrM
import Derived.Test.YtgkgpehjedmejaaVewD
namespace Go.Proofs.Ytgkgpehjedmejaa.Mmr
open Go.RowKit Go.Proofs.Ytgkgpehjedmejaa.Mem Go.Proofs.Ytgkgpehjedmejaa.Flow

/-- What came back is laid into a block that was made for it. -/
def cellsO : Option It → Array Value
  | some x => itCells x
  | none => zeroIt
theorem itO_eq (r : Option It) : itO r = .agg (cellsO r) := by cases r <;> rfl
theorem cellsO_one (r : Option It) : (cellsO r).all (·.oneCell') = true := by
  cases r with
  | none => exact zero_one
  | some x => exact it_one x
theorem cellsO_size (r : Option It) : some 13 = some (cellsO r).size := by cases r <;> rfl
structure AtAt (w : World) (p : Nat → Option Addr) (c : Nat → Nat) (m : Mm) (to : Int) (z : Array Value) (W : World) : Prop where
  at3 : Sits W w.heap.size 28 (memCells p c m)
  at5 : Sits W (w.heap.size + 1) 3 #[.int .i64 to]
  at6 : Sits W (w.heap.size + 1 + 1) 52 z
  low : Below w.heap.size w W
theorem AtAt.grown {w W W' : World} {p : Nat → Option Addr} {c : Nat → Nat} {m : Mm} {to : Int} {z : Array Value} (h : AtAt w p c m to z W) (hb : Below W.heap.size W W') : AtAt w p c m to z W' :=
  ⟨h.at3.below hb h.at3.lt, h.at5.below hb h.at5.lt, h.at6.below hb h.at6.lt, h.low.trans (hb.mono h.low.size)⟩
structure LaAt (w : World) (p : Nat → Option Addr) (c : Nat → Nat) (m : Mm) (z : Array Value) (W : World) : Prop where
  at3 : Sits W w.heap.size 28 (memCells p c m)
  at6 : Sits W (w.heap.size + 1) 52 z
  low : Below w.heap.size w W
theorem LaAt.grown {w W W' : World} {p : Nat → Option Addr} {c : Nat → Nat} {m : Mm} {z : Array Value} (h : LaAt w p c m z W) (hb : Below W.heap.size W W') : LaAt w p c m z W' :=
  ⟨h.at3.below hb h.at3.lt, h.at6.below hb h.at6.lt, h.low.trans (hb.mono h.low.size)⟩
/-! ### Closed -/
structure ClJ (g : Nat) (p : Nat → Option Addr) (c : Nat → Nat) (m : Mm) (W : World) : Prop where
  at_ : Sits W g 28 (memCells p c m)
  hold : Hold W p c m
end Go.Proofs.Ytgkgpehjedmejaa.Mmr
