/- Layer 11 (memory): the closures of Add and find; find; BinarySearchFunc; Clone. -/
import Derived.Test.YtgkgpehjedmejaaMmrD
import Derived.Shelf.Abstract
namespace Go.Proofs.Ytgkgpehjedmejaa.Mmr
open Go.RowKit Go.Proofs.Ytgkgpehjedmejaa.Mem Go.Proofs.Ytgkgpehjedmejaa.Flow

theorem sp_of {x : It} (h : Spn.mayF x.a x.b = true) : Spn.Sp (fw x.a) (fw x.b) x.a x.b := Spn.sp_fl h
abbrev MayX (x : It) : Prop := Spn.mayF x.a x.b = true
theorem add1_enters : EntersI 28 := enters_of Try.func28 (by kernel_rfl) rfl
set_option maxRecDepth 100000 in
theorem add1_any (x y : It) (hx : MayX x) (hy : MayX y) (g : Nat) (w : World) (hg : Sits w g 52 (itCells x)) :
    Calls Try.prog 28 #[itV y, .pointer (some ⟨g, 0, none⟩)] w (Made (.returned (.bool (!apartI y x))) w) := by
  have HC := Lib.hid (Spn.apart_any (sp_of hy) (sp_of hx))
  have c1 : w.cell? ⟨g, 1, none⟩ = some (.complex .f64 (fw x.a) (fw x.b)) := hg.cell 1
  have lg := hg.lt
  clear hx hy hg
  go_enter Try.func28, Try.ntmps28
  go_wp2_with fail
  refine (HC.out _).mono ?_
  rintro e w2 ⟨rfl, rfl⟩
  go_wp2_with fail
  go_ret
  exact ⟨rfl, one_low _ _⟩
/-- Which of two items is less. -/
def cmpI (x y : It) : Int := Spn.cmpF x.a x.b y.a y.b
set_option maxRecDepth 100000 in
theorem add2_any (x y : It) (hx : MayX x) (hy : MayX y) (w : World) :
    Calls Try.prog 31 #[itV y, .complex .f64 (fw x.a) (fw x.b)] w (Made (.returned (.int .i64 (cmpI y x))) w) := by
  have HC := Lib.hid (Spn.compare_any (sp_of hy) (sp_of hx))
  clear hx hy
  go_enter Try.func31, Try.ntmps31
  go_wp2_with fail
  refine (HC.out _).mono ?_
  rintro e w2 ⟨rfl, hb⟩
  have HB := Lib.hid ((one_low w _).trans (hb.mono (one_low w _).size))
  clear hb
  go_wp2_with fail
  go_ret
  exact ⟨rfl, HB.out⟩
theorem cmp_less (y x : It) : (cmpI y x < 0) ↔ lessI y x = true := by
  simp only [cmpI, Spn.cmpF, Spn.orF, Spn.cmp1, lessI, decide_eq_true_eq]
  split <;> split <;> (try split) <;> (try split) <;> omega
/-! ### find -/
theorem mem_at {W : World} {g : Nat} {p : Nat → Option Addr} {c : Nat → Nat} {m : Mm} (h : Sits W g 28 (memCells p c m)) : ∀ k, k < 4 → W.cell? ⟨g, k, none⟩ = some (.slice (p k) (m.row k).length (c k))
  | 0, _ => h.cell 0
  | 1, _ => h.cell 1
  | 2, _ => h.cell 2
  | 3, _ => h.cell 3
  | (n + 4), h => absurd h (by omega)
structure FindAt (w : World) (p : Nat → Option Addr) (c : Nat → Nat) (m : Mm) (to owner : Int) (res : Bool) (W : World) : Prop where
  at5 : Sits W w.heap.size 28 (memCells p c m)
  at7 : Sits W (w.heap.size + 1) 3 #[.int .i64 to]
  at8 : Sits W (w.heap.size + 1 + 1) 3 #[.int .i64 owner]
  at9 : Sits W (w.heap.size + 1 + 1 + 1) 4 #[.bool res]
  low : Below w.heap.size w W
theorem FindAt.grown {w W W' : World} {p : Nat → Option Addr} {c : Nat → Nat} {m : Mm} {to owner : Int} {res : Bool} (h : FindAt w p c m to owner res W) (hb : Below W.heap.size W W') : FindAt w p c m to owner res W' :=
  ⟨h.at5.below hb h.at5.lt, h.at7.below hb h.at7.lt, h.at8.below hb h.at8.lt, h.at9.below hb h.at9.lt, h.low.trans (hb.mono h.low.size)⟩
theorem four_low (w : World) (a b c d : Obj) : Below w.heap.size w ((((w.alloc a).alloc b).alloc c).alloc d) := Vew.below_more (Vew.below3 w a b c) (by simp; omega) d
structure FindJ (g1 g2 g3 : Nat) (to owner : Int) (res : Bool) (W : World) : Prop where
  a : Sits W g1 3 #[.int .i64 to]
  b : Sits W g2 4 #[.bool res]
  d : Sits W g3 3 #[.int .i64 owner]
structure FitM (m : Mm) : Prop where
  n : m.n ≤ 4
  few : ∀ i, (m.row i).length ≤ 40
  may : ∀ i y, y ∈ m.row i → MayX y
theorem OkM.fit {m : Mm} (h : OkM m) : FitM m := ⟨h.most, h.few, fun i y hy => h.may i y hy⟩
end Go.Proofs.Ytgkgpehjedmejaa.Mmr
