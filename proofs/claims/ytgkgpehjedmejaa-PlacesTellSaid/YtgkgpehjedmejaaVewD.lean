/- Layer 10 (view): a closure that says a number of a place and a time; Map. -/
import Derived.Test.YtgkgpehjedmejaaVewC
import Derived.Shelf.Abstract
import Derived.Deep.Cut
namespace Go.Proofs.Ytgkgpehjedmejaa.Vew
open Go.RowKit Go.Proofs.Ytgkgpehjedmejaa.Mem Go.Proofs.Ytgkgpehjedmejaa.Flow

def EntersV (F : FuncId) : Prop := ∀ (args : Array Value) (W : World), (callFunc F args).run Try.prog W = .ok (.enter F args) W
/-- A function value that says a number of a place and a time, wherever J holds; J stays as memory grows. -/
structure Says (F : FuncId) (f c : Array Value) (φ : Int → Int → Int) (J : World → Prop) : Prop where
  enters : EntersV F
  keep : ∀ w w', J w → Below w.heap.size w w' → J w'
  call : ∀ (i : Int) (n : Int) (w : World), 0 ≤ i → i < 4 → J w → Calls Try.prog F (f ++ (#[.int .i64 i, .int .i64 n] ++ c)) w (Made (.returned (.int .i64 (φ i n))) w)
def mapF (φ : Int → Int → Int) (f : Nat → Int) (i : Nat) : Int := φ ((i % 4 : Nat) : Int) (f i)
abbrev zero4 : Array Value := #[.int .i64 0, .int .i64 0, .int .i64 0, .int .i64 0]
structure SaidAt (w : World) (cs : Array Value) (W : World) : Prop where
  at2 : Sits W w.heap.size 48 cs
  at3 : Sits W (w.heap.size + 1) 48 zero4
  low : Below w.heap.size w W
theorem SaidAt.grown {w W W' : World} {cs : Array Value} (h : SaidAt w cs W) (hb : Below W.heap.size W W') : SaidAt w cs W' :=
  ⟨h.at2.below hb h.at2.lt, h.at3.below hb h.at3.lt, h.low.trans (hb.mono h.low.size)⟩
theorem SaidAt.put {w W : World} {cs : Array Value} (h : SaidAt w cs W) (i : Nat) (u : Value) : SaidAt w (cs.setIfInBounds i u) (W.setCell ⟨w.heap.size, i, none⟩ u) :=
  ⟨h.at2.put i u, h.at3.far (by simp) u, h.low.setCell (p := ⟨w.heap.size, i, none⟩) (Nat.le_refl _) u⟩
theorem saidAt_new (w : World) (cs : Array Value) : SaidAt w cs ((w.alloc (.cells cs 48)).alloc (.cells zero4 48)) :=
  ⟨(Sits.new _ _ _).alloc _, Sits.made (by simp) _ _, below_more (below_more (Below.refl _ w) (Nat.le_refl _) _) (by simp) _⟩
theorem SaidAt.out {w W : World} {cs : Array Value} (h : SaidAt w cs W) (u : Array Value) : Below w.heap.size w (W.setRow (w.heap.size + 1) u) :=
  ⟨h.low.os, h.low.tape, h.low.output, by simpa [World.setRow] using h.low.size, fun b hb => (setRow_other W _ _ _ (by omega)).trans (h.low.block b hb)⟩
theorem four_one (a b c d : Int) : (#[Value.int .i64 a, .int .i64 b, .int .i64 c, .int .i64 d]).all (·.oneCell') = true := by simp [Value.oneCell']
theorem arrSize : (Try.prog.info? 48).map (·.size) = some 4 := by kernel_rfl
def mapsF (φ : Int → Int → Int) (v : Nat → Int) (i : Nat) : Int := φ ((i % 4 : Nat) : Int) (v i)
end Go.Proofs.Ytgkgpehjedmejaa.Vew
