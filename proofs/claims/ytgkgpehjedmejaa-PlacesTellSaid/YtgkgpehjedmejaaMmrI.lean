/- Layer 11 (memory): Fulfil, Cancel. -/
import Derived.Test.YtgkgpehjedmejaaMmrH
namespace Go.Proofs.Ytgkgpehjedmejaa.Mmr
open Go.RowKit Go.Proofs.Ytgkgpehjedmejaa.Mem Go.Proofs.Ytgkgpehjedmejaa.Flow

/-- What is found, where something is. -/
structure Hit (m : Mm) (loc to owner : Int) (res : Bool) (k t : Nat) (y : It) : Prop where
  locK : loc = (k : Nat)
  lt : k < m.n
  idx : (findF m loc to owner res).1 = (t : Nat)
  at_ : (m.row k)[t]? = some y
  is : endI to owner res y = true
  own : owner ≠ -1
theorem find_hit {m : Mm} {loc to owner : Int} {res : Bool} (h : (findF m loc to owner res).2 = 0) : ∃ k t y, Hit m loc to owner res k t y := by
  have h0 := h
  unfold findF at h
  by_cases h1 : hasF m loc = false
  · rw [if_pos h1] at h; simp at h
  rw [if_neg h1] at h
  by_cases h2 : idxF (endI to owner res) (m.row loc.toNat) < 0 ∨ owner = -1
  · rw [if_pos h2] at h; simp at h
  rw [if_neg h2] at h
  simp only [Bool.not_eq_false] at h1
  obtain ⟨hl0, hl1⟩ := has_iff.1 h1
  have h2' : 0 ≤ idxF (endI to owner res) (m.row loc.toNat) := by omega
  have e : (findF m loc to owner res).1 = idxF (endI to owner res) (m.row loc.toNat) := by
    unfold findF; rw [if_neg (by rw [h1]; simp), if_neg h2]
  unfold idxF at h2' e
  cases hi : (m.row loc.toNat).findIdx? (endI to owner res) with
  | none => rw [hi] at h2'; simp at h2'
  | some t =>
    rw [hi] at e
    obtain ⟨ht, hy, _⟩ := List.findIdx?_eq_some_iff_getElem.1 hi
    exact ⟨loc.toNat, t, _, by omega, by omega, e, List.getElem?_eq_getElem ht, hy, by omega⟩
theorem fulfil_hit {m : Mm} {loc to owner : Int} {k t : Nat} {y : It} (h : Hit m loc to owner false k t y) (h0 : (findF m loc to owner false).2 = 0) : fulfilF m loc to owner = (withF m k t (t + 1) [freeI y], 0) := by
  unfold fulfilF
  rw [if_neg (by rw [h0]; simp), h.idx, show loc.toNat = k by have := h.locK; omega, show ((t : Nat) : Int).toNat = t by omega, h.at_]
  rfl
theorem cancel_hit {m : Mm} {loc to owner : Int} {k t : Nat} {y : It} (h : Hit m loc to owner true k t y) (h0 : (findF m loc to owner true).2 = 0) : cancelF m loc to owner = (withF m k t (t + 1) [], 0) := by
  unfold cancelF
  rw [if_neg (by rw [h0]; simp), h.idx, show loc.toNat = k by have := h.locK; omega, show ((t : Nat) : Int).toNat = t by omega]
abbrev freeCells (x : It) : Array Value := #[.int .i64 x.loc, .complex .f64 (fw x.a) (fw x.b), .int .u64 x.n, .int .i64 (x.v 0), .int .i64 (x.v 1), .int .i64 (x.v 2), .int .i64 (x.v 3), .int .i64 (x.v 4), .int .i64 (x.v 5), .int .i64 (x.v 6), .int .i64 (x.v 7), .bool x.res, .int .i64 (-1)]
structure EndAt (w : World) (p : Nat → Option Addr) (c : Nat → Nat) (m : Mm) (W : World) : Prop where
  at4 : Sits W w.heap.size 28 (memCells p c m)
  at8 : Sits W (w.heap.size + 1) 28 zeroMem
  low : Below w.heap.size w W
theorem EndAt.grown {w W W' : World} {p : Nat → Option Addr} {c : Nat → Nat} {m : Mm} (h : EndAt w p c m W) (hb : Below W.heap.size W W') : EndAt w p c m W' :=
  ⟨h.at4.below hb h.at4.lt, h.at8.below hb h.at8.lt, h.low.trans (hb.mono h.low.size)⟩
theorem EndAt.out {w W : World} {p : Nat → Option Addr} {c : Nat → Nat} {m : Mm} (h : EndAt w p c m W) {p2 : Nat → Option Addr} {c2 : Nat → Nat} {m2 : Mm} (hh : Hold W p2 c2 m2) (a : Int) :
    GivesE (m2, a) w (.returned (.tuple #[memV p2 c2 m2, .int .i64 a])) (W.setRow (w.heap.size + 1) (memCells p2 c2 m2)) ∧ Sits (W.setRow (w.heap.size + 1) (memCells p2 c2 m2)) (w.heap.size + 1) 28 (memCells p2 c2 m2) :=
  ⟨⟨p2, c2, rfl, hold_row hh h.at8 _, row_low h.low (by omega) _⟩, setRow_heap W _ _ _ _ _ h.at8⟩
end Go.Proofs.Ytgkgpehjedmejaa.Mmr
