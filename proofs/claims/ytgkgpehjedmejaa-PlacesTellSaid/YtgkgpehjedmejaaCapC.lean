/- Layer 12 (cap): rows of the document's items, opened; wakes, a memory that is known. -/
import Derived.Test.YtgkgpehjedmejaaMmrV
import Derived.Test.YtgkgpehjedmejaaMmrY
import Derived.Test.YtgkgpehjedmejaaCapZ
namespace Go.Proofs.Ytgkgpehjedmejaa.Cap
open Go.RowKit Go.ChangeShapes Go.WideShapes Go.ChangeAt Go.Joins Go.Proofs.Ytgkgpehjedmejaa.Mem Go.Deep Go.Proofs.Ytgkgpehjedmejaa.Mmr
theorem ritem_cells : Try.prog.cellsOf 60 = 14 := by kernel_rfl
section
variable {H : Type} {enc : TypeId × Value → H} {w : World} {base : Nat} {sp : Nat → Bool} {held : Bool}
set_option maxRecDepth 100000 in
theorem ritems_open {v : Value} {d : DataW H} {p : List MemPlace} (hv : Value.okWide Try.prog w .any base 23 v) (h : DataW.Trod enc Try.prog w 0 sp held 23 v d p) :
    ∃ (q : Option Addr) (l : List It) (cap : Nat), v = .slice q l.length cap ∧ l.length ≤ maxLen ∧ Rts w q l ∧ ∀ a ∈ l, Rng a := by
  obtain ⟨q, len, cap, rfl⟩ := okWide_slice Try.underlying23 hv
  obtain ⟨n, hn⟩ := h
  rcases open_slice Try.underlying23 hn with ⟨hcs, _⟩ | ⟨a, len', cap', m, n', D, Pl, hcs, _, hl, hm, hmm, _, hi⟩
  · simp [Value.cells] at hcs
    obtain ⟨rfl, rfl, rfl⟩ := hcs
    exact ⟨none, [], 0, rfl, Nat.zero_le _, fun k x h => by simp at h, fun a ha => by cases ha⟩
  · simp [Value.cells] at hcs
    obtain ⟨rfl, rfl, rfl⟩ := hcs
    have hml : len ≤ m := by rw [hmm]; split <;> omega
    rw [ritem_cells] at hi
    have each : ∀ i, i < len → ∃ y : It, Rng y ∧ ∃ g o, some a = some (⟨g, o, none⟩ : Addr) ∧ g < w.heap.size ∧ ∀ j, j < 14 → w.cell? ⟨g, o + i * 14 + j, none⟩ = (rtCells y)[j]? := fun i hik => by
      obtain ⟨cs, hc, ht⟩ := hi i (by omega)
      obtain ⟨_, hcl, hcc⟩ := World.cells?_some hc
      obtain ⟨b, off, spot⟩ := a
      have hspot : spot = none := by
        obtain ⟨c0, hc0, _⟩ := hi 0 (by omega)
        obtain ⟨_, hl0, hh⟩ := World.cells?_some hc0
        have h0 := hh 0 (by omega)
        rw [List.getElem?_eq_getElem (by omega), Nat.zero_mul] at h0
        exact spot_add (World.cell?_spot h0)
      subst hspot
      obtain ⟨y, hr, hy⟩ := item_open (by omega) ht
      have cell : ∀ j, j < 14 → w.cell? ⟨b, off + i * 14 + j, none⟩ = cs[j]? := fun j hj => by
        have := hcc j (by omega)
        rwa [Mmr.add_plain, Mmr.add_plain] at this
      refine ⟨y, hr, b, off, rfl, ?_, fun j hj => (cell j hj).trans (hy j hj)⟩
      have h0 := (cell 0 (by omega)).trans (hy 0 (by omega))
      exact World.block_lt_of_cell? _ _ h0
    obtain ⟨l, hll, hq⟩ := list_of each
    refine ⟨some a, l, cap, by rw [hll], by omega, fun k y hy => (hq k y hy).2, fun y hy => ?_⟩
    obtain ⟨k, hk⟩ := List.mem_iff_getElem?.1 hy
    exact (hq k y hk).1
end
end Go.Proofs.Ytgkgpehjedmejaa.Cap
namespace Go.Proofs.Ytgkgpehjedmejaa.Cap
open Go.RowKit Go.Proofs.Ytgkgpehjedmejaa.Mem Go.Proofs.Ytgkgpehjedmejaa.Flow Go.Proofs.Ytgkgpehjedmejaa.Mmr

def x4 : It := ⟨0, 2, 3, 5, Vew.zeroF, false, 1⟩
def y0 : It := ⟨0, 0, 0, 7, Vew.zeroF, false, -1⟩
theorem fw_4 : fw 4 = 4616189618054758400 := by decide
abbrev cells4 : Array Value := #[.int .i64 0, .complex .f64 4611686018427387904 4613937818241073152, .int .u64 5, .int .i64 0, .int .i64 0, .int .i64 0, .int .i64 0, .int .i64 0, .int .i64 0, .int .i64 0, .int .i64 0, .bool false, .int .i64 1]
abbrev cellsA : Array Value := #[.int .i64 0, .complex .f64 0 4611686018427387904, .int .u64 0, .int .i64 0, .int .i64 0, .int .i64 0, .int .i64 0, .int .i64 0, .int .i64 0, .int .i64 0, .int .i64 0, .bool true, .int .i64 (-1)]
abbrev cellsB : Array Value := #[.int .i64 0, .complex .f64 4613937818241073152 4616189618054758400, .int .u64 0, .int .i64 0, .int .i64 0, .int .i64 0, .int .i64 0, .int .i64 0, .int .i64 0, .int .i64 0, .int .i64 0, .bool true, .int .i64 (-1)]
theorem cells4_eq : itCells x4 = cells4 := by simp only [itCells, x4, fw_2, fw_3]; rfl
theorem cellsA_eq : itCells (resI 0 0 2) = cellsA := by simp only [itCells, resI, fw_0, fw_2]; rfl
theorem cellsB_eq : itCells (resI 0 3 4) = cellsB := by simp only [itCells, resI, fw_3, fw_4]; rfl
structure Wk12 (m0 m1 mc : Mm) : Prop where
  e0 : beginE [7] = (m0, 0)
  e1 : addF m0 x4 = (m1, 0)
  e2 : capP m1 = (mc, 0)
  e3 : listF mc 0 = [y0, resI 0 0 2, x4, resI 0 3 4]
  e4 : topP mc 0 = 3 ∧ topP mc 1 = 0 ∧ topP mc 2 = 0 ∧ topP mc 3 = 0
  o0 : OkM m0
  o1 : OkM m1
  oc : OkM mc
theorem ok_cap {m : Mm} (h : OkM m) : OkM (capP m).1 := by
  unfold capP
  cases hu : upP m m.n with
  | none => exact h
  | some f =>
    have : ∀ k {f}, upP m k = some f → OkM f := by
      intro k
      induction k with
      | zero => intro f hf; injection hf with hf; rw [← hf]; exact h
      | succ k ih =>
        intro f hf
        have hf' : (upP m k).bind (fun f => fillP f (k : Nat) (rooms 0 (listF m (k : Nat)))) = some f := hf
        cases hk : upP m k with
        | none => rw [hk] at hf'; cases hf'
        | some g => rw [hk] at hf'; exact fill_ok _ _ (ih hk) hf'
    exact this _ hu
theorem wk12_there : ∃ m0 m1 mc, Wk12 m0 m1 mc := by
  have o0 : OkM (beginL [7]) := ok_begin (by decide) (by decide)
  have o1 := ok_add o0 x4
  have oc := ok_cap o1
  refine ⟨beginL [7], (addF (beginL [7]) x4).1, (capP (addF (beginL [7]) x4).1).1, rfl, pair_of ?_, pair_of ?_, ?_, ?_, o0, o1, oc⟩
  · rfl
  · rfl
  · rfl
  · exact ⟨rfl, rfl, rfl, rfl⟩
end Go.Proofs.Ytgkgpehjedmejaa.Cap
