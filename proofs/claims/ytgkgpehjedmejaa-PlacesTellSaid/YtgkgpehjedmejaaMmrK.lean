/- Layer 11 (memory): Owned. -/
import Derived.Test.YtgkgpehjedmejaaMmrJ
namespace Go.Proofs.Ytgkgpehjedmejaa.Mmr
open Go.RowKit Go.Proofs.Ytgkgpehjedmejaa.Mem Go.Proofs.Ytgkgpehjedmejaa.Flow

theorem Cut.below {e : TypeId} {size B : Nat} {w w' : World} {r : Option Addr} {n d : Nat} {xs : List Value} (h : Cut e size B w r n d xs) (hb : Below w.heap.size w w') : Cut e size B w' r n d xs :=
  ⟨h.lay.below hb, h.len, h.room, h.way.imp id fun ⟨h1, h2⟩ => ⟨h1, h2.imp id fun ⟨g, cap, cur, e1, e2, e3, e4⟩ => ⟨g, cap, cur, e1, e2, (hb.block g (lt_of_block e3)).trans e3, e4⟩⟩⟩
theorem Cut.empty (e : TypeId) (size B : Nat) (w : World) : Cut e size B w none 0 0 [] := ⟨fun j u h => by simp at h, by simp, Nat.le_refl _, .inl rfl⟩
theorem idx_sl (p : Nat → Option Addr) (c : Nat → Nat) (m : Mm) : ∀ (j : Nat), j < 4 → ∀ W, (Instr.index 26 (.agg #[.slice (p 0) (m.row 0).length (c 0), .slice (p 1) (m.row 1).length (c 1), .slice (p 2) (m.row 2).length (c 2), .slice (p 3) (m.row 3).length (c 3)]) (.int .i64 (j : Int))).run Try.prog W = .ok (.slice (p j) (m.row j).length (c j)) W
  | 0, _, W => Vew.run_index_array Try.underlying26 Try.sizeOf25 Try.isAgg25 (by decide) rfl W
  | 1, _, W => Vew.run_index_array Try.underlying26 Try.sizeOf25 Try.isAgg25 (by decide) rfl W
  | 2, _, W => Vew.run_index_array Try.underlying26 Try.sizeOf25 Try.isAgg25 (by decide) rfl W
  | 3, _, W => Vew.run_index_array Try.underlying26 Try.sizeOf25 Try.isAgg25 (by decide) rfl W
  | (n + 4), h, _ => absurd h (by omega)
def ofs (owner : Int) (l : List It) : List It := l.filter fun x => decide (x.owner = owner)
def sofar (m : Mm) (owner : Int) (j k : Nat) : List It := ofs owner ((List.range j).flatMap m.row ++ (m.row j).take k)
theorem ofs_len (owner : Int) (l : List It) : (ofs owner l).length ≤ l.length := List.length_filter_le _ _
theorem sofar_end (m : Mm) (owner : Int) (j : Nat) : sofar m owner j (m.row j).length = sofar m owner (j + 1) 0 := by
  unfold sofar
  rw [List.take_length, List.take_zero, List.append_nil, List.range_succ, List.flatMap_append]
  simp
theorem sofar_all (m : Mm) (owner : Int) : sofar m owner 4 0 = ownedF m owner := by
  unfold sofar ofs ownedF; rw [List.take_zero, List.append_nil]
theorem sofar_yes (m : Mm) (owner : Int) (j k : Nat) (x : It) (h : (m.row j)[k]? = some x) (hx : x.owner = owner) : sofar m owner j (k + 1) = sofar m owner j k ++ [x] := by
  unfold sofar ofs
  rw [List.take_add_one, h, Option.toList_some, ← List.append_assoc, List.filter_append]
  congr 1
  simp [hx]
theorem sofar_no (m : Mm) (owner : Int) (j k : Nat) (x : It) (h : (m.row j)[k]? = some x) (hx : x.owner ≠ owner) : sofar m owner j (k + 1) = sofar m owner j k := by
  unfold sofar ofs
  rw [List.take_add_one, h, Option.toList_some, ← List.append_assoc, List.filter_append]
  simp [hx]
theorem flat_len (m : Mm) (h : ∀ i, (m.row i).length ≤ 40) (j : Nat) : ((List.range j).flatMap m.row).length ≤ j * 40 := by
  induction j with
  | zero => simp
  | succ j ih => rw [List.range_succ, List.flatMap_append, List.length_append, List.flatMap_cons, List.flatMap_nil, List.append_nil]; have := h j; omega
theorem sofar_len (m : Mm) (h : ∀ i, (m.row i).length ≤ 40) (owner : Int) (j k : Nat) : (sofar m owner j k).length ≤ (j + 1) * 40 := by
  unfold sofar
  refine Nat.le_trans (ofs_len _ _) ?_
  rw [List.length_append, List.length_take]
  have := flat_len m h j
  have := h j
  omega
structure OwnAt (w : World) (r : Option Addr) (d : Nat) (l : List It) (W : World) : Prop where
  cut : Cut 52 13 w.heap.size W r l.length d (cellsOf itL l)
  low : Below w.heap.size w W
theorem OwnAt.grown {w W W' : World} {r : Option Addr} {d : Nat} {l : List It} (h : OwnAt w r d l W) (hb : Below W.heap.size W W') : OwnAt w r d l W' := ⟨h.cut.below hb, h.low.trans (hb.mono h.low.size)⟩
end Go.Proofs.Ytgkgpehjedmejaa.Mmr
