/- Layer 11 (memory): wakes, a memory that is known. -/
import Derived.Test.YtgkgpehjedmejaaMmrQ
namespace Go.Proofs.Ytgkgpehjedmejaa.Mmr
open Go.RowKit Go.Proofs.Ytgkgpehjedmejaa.Mem Go.Proofs.Ytgkgpehjedmejaa.Flow

def x1 : It := ⟨0, 0, 1, 5, Vew.zeroF, false, 1⟩
def x2 : It := ⟨0, 0, 2, 6, Vew.zeroF, false, -1⟩
def x3 : It := ⟨0, 2, 3, 0, Vew.zeroF, true, 1⟩
theorem fw_1 : fw 1 = 4607182418800017408 := by decide
theorem fw_2 : fw 2 = 4611686018427387904 := by decide
theorem fw_3 : fw 3 = 4613937818241073152 := by decide
abbrev cells1 : Array Value := #[.int .i64 0, .complex .f64 0 4607182418800017408, .int .u64 5, .int .i64 0, .int .i64 0, .int .i64 0, .int .i64 0, .int .i64 0, .int .i64 0, .int .i64 0, .int .i64 0, .bool false, .int .i64 1]
abbrev cells2 : Array Value := #[.int .i64 0, .complex .f64 0 4611686018427387904, .int .u64 6, .int .i64 0, .int .i64 0, .int .i64 0, .int .i64 0, .int .i64 0, .int .i64 0, .int .i64 0, .int .i64 0, .bool false, .int .i64 (-1)]
abbrev cells3 : Array Value := #[.int .i64 0, .complex .f64 4611686018427387904 4613937818241073152, .int .u64 0, .int .i64 0, .int .i64 0, .int .i64 0, .int .i64 0, .int .i64 0, .int .i64 0, .int .i64 0, .int .i64 0, .bool true, .int .i64 1]
theorem cells1_eq : itCells x1 = cells1 := by simp only [itCells, x1, fw_0, fw_1]; rfl
theorem cells2_eq : itCells x2 = cells2 := by simp only [itCells, x2, fw_0, fw_2]; rfl
theorem cells3_eq : itCells x3 = cells3 := by simp only [itCells, x3, fw_2, fw_3]; rfl
theorem pair_of {α β : Type} {p : α × β} {b : β} (h : p.2 = b) : p = (p.1, b) := by rw [← h]
theorem hold_over {W : World} {p : Nat → Option Addr} {c : Nat → Nat} {m : Mm} {g : Nat} {t : TypeId} {cs : Array Value} (h : Hold W p c m) (hs : Sits W g t cs) (hc : ∀ u ∈ cs.toList, ∀ k x y, u ≠ .complex k x y) (cs' : Array Value) : Hold (W.setRow g cs') p c m :=
  ⟨fun i hi => its_row (h.row i hi) hs hc cs', h.cap⟩
/-- A slice of so many. -/
def sliceV (n : Nat) : Value → World → Prop := fun u _ => ∃ r d, u = .slice r n d
theorem sliceV_mono (n : Nat) : Mono (sliceV n) := fun _ _ _ h _ => h
/-- What wakes asks. -/
structure Wk (m0 m1 n k q : Mm) (y : It) : Prop where
  e0 : beginE [7] = (m0, 0)
  e1 : addF m0 x1 = (m1, 0)
  e2 : ∃ m', addF m1 x2 = (m', 5)
  e3 : addF m1 x3 = (n, 0)
  e4 : ∃ m', cancelF n 0 3 0 = (m', 6)
  e5 : cancelF n 0 3 1 = (k, 0)
  e6 : lastF n 0 (fun _ => true) = some y
  e7 : y.n = 5
  e8 : fulfilF n 0 1 1 = (q, 0)
  e9 : (listF n 0).length = 3
  e10 : (listF k 0).length = 2
  e11 : (ownedF n 1).length = 2
  e12 : (ownedF q 1).length = 1
  e13 : closedF n (Vew.atF 0 1 true) = true
  e14 : closedF n (Vew.atF 0 3 true) = false
  one : m0.n = 1
  o0 : OkM m0
  o1 : OkM m1
  on : OkM n
  ok : OkM k
  oq : OkM q
theorem wk_there : ∃ m0 m1 n k q y, Wk m0 m1 n k q y := by
  have o0 : OkM (beginL [7]) := ok_begin (by decide) (by decide)
  have o1 := ok_add o0 x1
  have on := ok_add o1 x3
  refine ⟨beginL [7], (addF (beginL [7]) x1).1, (addF (addF (beginL [7]) x1).1 x3).1, (cancelF (addF (addF (beginL [7]) x1).1 x3).1 0 3 1).1, (fulfilF (addF (addF (beginL [7]) x1).1 x3).1 0 1 1).1, x1,
    rfl, pair_of ?_, ⟨_, pair_of ?_⟩, pair_of ?_, ⟨_, pair_of ?_⟩, pair_of ?_, ?_, rfl, pair_of ?_, ?_, ?_, ?_, ?_, ?_, ?_, rfl, o0, o1, on, ok_cancel on _ _ _, ok_fulfil on _ _ _⟩
  all_goals (first | rfl | decide)
end Go.Proofs.Ytgkgpehjedmejaa.Mmr
