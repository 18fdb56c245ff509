/- Layer 3 (expr): what tells leaves to Eval in ExprTells. -/
import Derived.Test.YtlfdjlpkopmhhaaDoorExprJ
namespace Go.Proofs.YtlfdjlpkopmhhaaDoor.Expr
open Go.RowKit Go.Proofs.YtlfdjlpkopmhhaaDoor.Mem Go.Lib

/-- The count of what was told, in a block behind a world. -/
structure Cnt (W0 : World) (nB : Nat) (k : Nat) (w : World) : Prop where
  n : Sits w nB 3 #[.int .i64 (k : Nat)]
  low : Below nB W0 w
theorem counted {nB k : Nat} {w : World} (hn : Sits w nB 3 #[.int .i64 (k : Nat)]) (o : Obj) : Sits ((w.alloc o).setCell ⟨nB, 0, none⟩ (.int .i64 ((k : Int) + 1))) nB 3 #[.int .i64 ((k + 1 : Nat) : Int)] ∧ Fr nB [3] w ((w.alloc o).setCell ⟨nB, 0, none⟩ (.int .i64 ((k : Int) + 1))) := by
  have ha := hn.alloc o
  refine ⟨?_, ⟨((Below.refl nB w).alloc (Nat.le_of_lt hn.lt) o).setCell (Nat.le_refl nB) _, fun t ht => (Stable.below ((Below.refl _ w).alloc (Nat.le_refl _) o)).trans (Stable.put ha (fun e => ht (by rw [e]; decide)) 0 _)⟩⟩
  have := ha.put 0 (.int .i64 ((k : Int) + 1))
  simpa using this
theorem counted2 {nB k : Nat} {w : World} (hn : Sits w nB 3 #[.int .i64 (k : Nat)]) (o : Obj) : Sits ((w.setCell ⟨nB, 0, none⟩ (.int .i64 ((k : Int) + 1))).alloc o) nB 3 #[.int .i64 ((k + 1 : Nat) : Int)] ∧ Fr nB [3] w ((w.setCell ⟨nB, 0, none⟩ (.int .i64 ((k : Int) + 1))).alloc o) := by
  have ha := hn.put 0 (.int .i64 ((k : Int) + 1))
  refine ⟨?_, ⟨((Below.refl nB w).setCell (Nat.le_refl nB) _).alloc (by simpa [World.setCell] using Nat.le_of_lt hn.lt) o, fun t ht => (Stable.put (t := t) hn (fun e => ht (by rw [e]; decide)) 0 _).trans (Stable.below ((Below.refl _ _).alloc (Nat.le_refl _) o))⟩⟩
  have := ha.alloc o
  simpa using this
set_option maxRecDepth 100000 in
theorem next_in (nB bL g o cap k a ul : Nat) (q op n t i x : Nat) (w : World) (hul : ul ≤ 100) (hk : k < ul)
    (hn : Sits w nB 3 #[.int .i64 (k : Nat)]) (hb : Sits w bL 31 #[.slice (some ⟨g, o, none⟩) ul cap]) (hu : w.cell? ⟨g, o + k, none⟩ = some (.int .u64 (a : Nat))) :
    Calls Tryd.prog 21 #[.agg (exprCells ⟨q, op, n, t, i, x⟩ (.pointer none) (.pointer none)), .pointer (some ⟨nB, 0, none⟩), .pointer (some ⟨bL, 0, none⟩)] w
      fun e' w' => e' = .returned (.int .u64 (a : Nat)) ∧ Sits w' nB 3 #[.int .i64 ((k + 1 : Nat) : Int)] ∧ Fr nB [3] w w' := by
  have cn := hn.cell 0
  have fn := hn.free 0
  have ln := hn.lt
  have cb := hb.cell 0
  have lb := hb.lt
  have hne : bL ≠ nB := hb.differ hn (by decide)
  have lg := World.block_lt_of_cell? w _ hu
  have hg : g ≠ nB := fun e => by
    subst e
    rw [hn.cell] at hu
    cases hz : o + k with
    | zero => rw [hz] at hu; cases hu
    | succ j => rw [hz] at hu; cases hu
  have i1 : (k : Int) < (ul : Int) := by omega
  have i2 : (0 : Int) ≤ k := by omega
  have i3 : (ul : Int) ≤ 100 := by omega
  have hw : IntKind.i64.wrap ((k : Int) + 1) = (k : Int) + 1 := IntWalk.i64_in _ (by omega)
  simp only [exprCells] at cn cb ⊢
  have HS := Lib.hid hn
  clear hn hb hul hk
  go_enter Tryd.func21, Tryd.ntmps21
  go_wp2_with fail
  go_ret
  first
    | exact ⟨rfl, counted HS.out _⟩
    | exact ⟨rfl, counted2 HS.out _⟩
set_option maxRecDepth 100000 in
theorem next_out (nB bL cap k ul : Nat) (p : Option Addr) (q op n t i x : Nat) (w : World) (hk : ul ≤ k) (hk' : k ≤ 1000)
    (hn : Sits w nB 3 #[.int .i64 (k : Nat)]) (hb : Sits w bL 31 #[.slice p ul cap]) :
    Calls Tryd.prog 21 #[.agg (exprCells ⟨q, op, n, t, i, x⟩ (.pointer none) (.pointer none)), .pointer (some ⟨nB, 0, none⟩), .pointer (some ⟨bL, 0, none⟩)] w
      fun e' w' => e' = .returned (.int .u64 0) ∧ Sits w' nB 3 #[.int .i64 ((k + 1 : Nat) : Int)] ∧ Fr nB [3] w w' := by
  have cn := hn.cell 0
  have fn := hn.free 0
  have ln := hn.lt
  have cb := hb.cell 0
  have lb := hb.lt
  have hne : bL ≠ nB := hb.differ hn (by decide)
  have i1 : (ul : Int) ≤ (k : Int) := by omega
  have i2 : (0 : Int) ≤ k := by omega
  have i3 : (k : Int) ≤ 1000 := by omega
  have hw : IntKind.i64.wrap ((k : Int) + 1) = (k : Int) + 1 := IntWalk.i64_in _ (by omega)
  simp only [exprCells] at cn cb ⊢
  have HS := Lib.hid hn
  clear hn hb hk hk'
  go_enter Tryd.func21, Tryd.ntmps21
  go_wp2_with fail
  go_ret
  first
    | exact ⟨rfl, counted HS.out _⟩
    | exact ⟨rfl, counted2 HS.out _⟩
theorem next_any (u : List Nat) (uv : Value) (W0 : World) (nB bL : Nat) (h0 : W0.heap.size = nB) (hbL : Sits W0 bL 31 #[uv]) (hu : URow W0 uv u) (hul : u.length ≤ 100) (e : Ex) (k : Nat) (w : World) (hk : k ≤ 1000) (h : Cnt W0 nB k w) :
    Calls Tryd.prog 21 #[leafVal e, .pointer (some ⟨nB, 0, none⟩), .pointer (some ⟨bL, 0, none⟩)] w fun e' w' => e' = .returned (.int .u64 (told u k e).1) ∧ Cnt W0 nB (told u k e).2 w' ∧ Fr nB [3] w w' := by
  have sL : Sits w bL 31 #[uv] := hbL.below h.low (by rw [← h0]; exact hbL.lt)
  have hu' : URow w uv u := hu.below (h0 ▸ h.low)
  have fin : ∀ (e' : Ending) (w' : World) (z : Int), z = (told u k e).1 → (e' = .returned (.int .u64 z) ∧ Sits w' nB 3 #[.int .i64 ((k + 1 : Nat) : Int)] ∧ Fr nB [3] w w') → e' = .returned (.int .u64 (told u k e).1) ∧ Cnt W0 nB (told u k e).2 w' ∧ Fr nB [3] w w' := by
    rintro e' w' z rfl ⟨rfl, h1, h2⟩
    exact ⟨rfl, ⟨h1, h.low.trans h2.low⟩, h2⟩
  unfold leafVal
  generalize leafIt e = it
  obtain ⟨q, op, n, t, i, x⟩ := it
  by_cases hlt : k < u.length
  · obtain ⟨a, ha⟩ : ∃ a, u[k]? = some a := ⟨_, List.getElem?_eq_getElem hlt⟩
    obtain ⟨g, o, cap, rfl, _, _, hc⟩ := hu'.item ha
    refine (next_in nB bL g o cap k a u.length q op n t i x w hul hlt h.n sL hc).mono fun e' w' hp => fin e' w' _ ?_ hp
    simp [told, List.getD_eq_getElem?_getD, ha]
  · obtain ⟨p, cap, rfl, _⟩ := hu'.len
    refine (next_out nB bL cap k u.length p q op n t i x w (by omega) hk h.n sL).mono fun e' w' hp => fin e' w' _ ?_ hp
    simp [told, List.getD_eq_getElem?_getD, List.getElem?_eq_none (show u.length ≤ k by omega)]
theorem next_enters : Enters 21 := enters_of Tryd.func21 (by kernel_rfl) rfl
theorem next_leafs (u : List Nat) (hu64 : ∀ a ∈ u, a < 18446744073709551616) (uv : Value) (W0 : World) (nB bL : Nat) (h0 : W0.heap.size = nB) (hbL : Sits W0 bL 31 #[uv]) (hu : URow W0 uv u) (hul : u.length ≤ 100) :
    Leafs (κ := Nat) 21 #[] #[.pointer (some ⟨nB, 0, none⟩), .pointer (some ⟨bL, 0, none⟩)] nB [3] (fun k w => Cnt W0 nB k w) (told u) (fun k e => k + e.size ≤ 1000) where
  enters := next_enters
  keep := fun k w w' h hf => ⟨hf.by_ _ (by decide) _ _ h.n, h.low.trans hf.low⟩
  call := fun e k w _ _ hl _ h => next_any u uv W0 nB bL h0 hbL hu hul e k w (by omega) h
  u64 := fun k e => told_u64 hu64 k e
  inOne := fun op a k h => by simp only [Ex.size] at h; omega
  inTwo := fun op a b k h => by have := told_next u a k; simp only [Ex.size] at h; omega
  aE := by decide
  aV := by decide
  aU := by decide
  aF := by decide
end Go.Proofs.YtlfdjlpkopmhhaaDoor.Expr
