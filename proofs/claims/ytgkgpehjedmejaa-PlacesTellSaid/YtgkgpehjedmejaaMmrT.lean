/- Layer 11 (memory): acts in memory; where the walk of MemoryApart stands. -/
import Derived.Test.YtgkgpehjedmejaaMmrR
import Derived.Deep.DeepCutAuto
import Derived.Deep.CutBlock
import Derived.Deep.RegionWith
namespace Go.Proofs.Ytgkgpehjedmejaa.Mmr
open Go.RowKit Go.Proofs.Ytgkgpehjedmejaa.Mem Go.Proofs.Ytgkgpehjedmejaa.Flow

/-- An act. -/
structure Ac where
  do_ : Int
  x : It
abbrev acCells (a : Ac) : Array Value := #[.int .u8 a.do_, .int .i64 a.x.loc, .int .i64 a.x.a, .int .i64 a.x.b, .int .u64 a.x.n, .int .i64 (a.x.v 0), .int .i64 (a.x.v 1), .int .i64 (a.x.v 2), .int .i64 (a.x.v 3), .int .i64 (a.x.v 4), .int .i64 (a.x.v 5), .int .i64 (a.x.v 6), .int .i64 (a.x.v 7), .bool a.x.res, .int .i64 a.x.owner]
/-- A row of acts lies there. -/
def Acts (w : World) (p : Option Addr) (l : List Ac) : Prop := ∀ k a, l[k]? = some a → ∃ g o, p = some ⟨g, o, none⟩ ∧ g < w.heap.size ∧ ∀ i, i < 15 → w.cell? ⟨g, o + k * 15 + i, none⟩ = (acCells a)[i]?
theorem Acts.below {w w' : World} {p : Option Addr} {l : List Ac} (h : Acts w p l) (hb : Below w.heap.size w w') : Acts w' p l := fun k x hx => by
  obtain ⟨g, o, e, hg, hc⟩ := h k x hx
  exact ⟨g, o, e, Nat.lt_of_lt_of_le hg hb.size, fun i hi => (hb.cell (p := ⟨g, o + k * 15 + i, none⟩) hg).trans (hc i hi)⟩
def ActAt (w : World) (g q : Nat) (a : Ac) : Prop :=
  w.cell? ⟨g, q, none⟩ = some (.int .u8 a.do_) ∧ w.cell? ⟨g, q + 1, none⟩ = some (.int .i64 a.x.loc) ∧ w.cell? ⟨g, q + 2, none⟩ = some (.int .i64 a.x.a) ∧ w.cell? ⟨g, q + 3, none⟩ = some (.int .i64 a.x.b) ∧ w.cell? ⟨g, q + 4, none⟩ = some (.int .u64 a.x.n) ∧
  w.cell? ⟨g, q + 5, none⟩ = some (.int .i64 (a.x.v 0)) ∧ w.cell? ⟨g, q + 6, none⟩ = some (.int .i64 (a.x.v 1)) ∧ w.cell? ⟨g, q + 7, none⟩ = some (.int .i64 (a.x.v 2)) ∧ w.cell? ⟨g, q + 8, none⟩ = some (.int .i64 (a.x.v 3)) ∧
  w.cell? ⟨g, q + 9, none⟩ = some (.int .i64 (a.x.v 4)) ∧ w.cell? ⟨g, q + 10, none⟩ = some (.int .i64 (a.x.v 5)) ∧ w.cell? ⟨g, q + 11, none⟩ = some (.int .i64 (a.x.v 6)) ∧ w.cell? ⟨g, q + 12, none⟩ = some (.int .i64 (a.x.v 7)) ∧
  w.cell? ⟨g, q + 13, none⟩ = some (.bool a.x.res) ∧ w.cell? ⟨g, q + 14, none⟩ = some (.int .i64 a.x.owner)
theorem Acts.there {w : World} {p : Option Addr} {l : List Ac} (h : Acts w p l) {k : Nat} {a : Ac} (hx : l[k]? = some a) : ∃ g o, p = some ⟨g, o, none⟩ ∧ g < w.heap.size ∧ ActAt w g (o + k * 15) a := by
  obtain ⟨g, o, e, hg, hc⟩ := h k a hx
  exact ⟨g, o, e, hg, hc 0 (by decide), hc 1 (by decide), hc 2 (by decide), hc 3 (by decide), hc 4 (by decide), hc 5 (by decide), hc 6 (by decide), hc 7 (by decide), hc 8 (by decide), hc 9 (by decide), hc 10 (by decide), hc 11 (by decide), hc 12 (by decide), hc 13 (by decide), hc 14 (by decide)⟩
/-- What an act makes of a memory. -/
def actF (m : Mm) (a : Ac) : Mm × Int := if a.do_ = 0 then fulfilF m a.x.loc a.x.b a.x.owner else if a.do_ = 1 then cancelF m a.x.loc a.x.b a.x.owner else addF m (lawI a.x)
theorem ok_act {m : Mm} (h : OkM m) (a : Ac) : OkM (actF m a).1 := by
  unfold actF
  split
  · exact ok_fulfil h _ _ _
  · split
    · exact ok_cancel h _ _ _
    · exact ok_add h _
theorem act_no {m : Mm} {a : Ac} (h : (actF m a).2 ≠ 0) : (actF m a).1 = m := by
  unfold actF at h ⊢
  by_cases h0 : a.do_ = 0
  · rw [if_pos h0] at h ⊢; exact fulfil_no h
  · rw [if_neg h0] at h ⊢
    by_cases h1 : a.do_ = 1
    · rw [if_pos h1] at h ⊢; exact cancel_no h
    · rw [if_neg h1] at h ⊢; exact add_no h
theorem act_yes {m : Mm} (hO : OkM m) {a : Ac} (h0 : a.do_ = 0) (h : (actF m a).2 = 0) :
    (listF (actF m a).1 a.x.loc).length = (listF m a.x.loc).length ∧ (ownedF m a.x.owner).length = (ownedF (actF m a).1 a.x.owner).length + 1 := by
  unfold actF at h ⊢
  rw [if_pos h0] at h ⊢
  exact fulfil_yes hO h
theorem law_id {m : Mm} {x : It} (h : (addF m (lawI x)).2 = 0) : lawI x = x := by
  unfold lawI
  by_cases hm : Spn.mayF x.a x.b = true
  · rw [if_pos hm]
  · exfalso
    obtain ⟨k, hA⟩ := add_ok h
    have := hA.may
    unfold lawI at this
    rw [if_neg hm] at this
    exact absurd this (show ¬ Spn.mayF (-1) 0 = true by decide)
theorem law_undo {m m2 : Mm} {x : It} {f : Int} (hO : OkM m) (h : addF m (lawI x) = (m2, f)) (hf : f = 0) (hr : x.res = true) (ho : 0 ≤ x.owner) : cancelF m2 x.loc x.b x.owner = (m, 0) := by
  subst hf
  have h2 : (addF m (lawI x)).2 = 0 := by rw [h]
  have e := law_id h2
  rw [e] at h h2
  have := cancel_add hO h2 hr ho
  rwa [h] at this
theorem list_mem {m : Mm} (hO : OkM m) {loc : Int} {x : It} (h : x ∈ listF m loc) : MayX x := by
  unfold listF at h
  split at h
  · exact hO.may _ _ h
  · simp at h
theorem list_few {m : Mm} (hO : OkM m) (loc : Int) : (listF m loc).length ≤ 40 := by
  unfold listF
  split
  · exact hO.few _
  · simp
theorem owned_few {m : Mm} (hO : OkM m) (owner : Int) : (ownedF m owner).length ≤ 160 := by
  unfold ownedF
  refine Nat.le_trans (List.length_filter_le _ _) ?_
  have := flat_len m hO.few 4
  omega
theorem list_rise {m : Mm} (hO : OkM m) (loc : Int) : (listF m loc).Pairwise fun x y => x.b ≤ y.a ∧ x.b < y.b := by
  unfold listF
  split
  · rename_i h
    have := has_iff.1 h
    exact (hO.each _ (by omega)).rise
  · simp
/-- Frames, by the slots that matter. -/
structure Fr (n : Nat) (l : List (Nat × Value)) (A : Act) : Prop where
  size : A.tmps.size = n
  defers : A.defers = []
  at_ : ∀ p ∈ l, slot A.tmps p.1 = p.2
/-- What stays at the start of a round. -/
structure AW0 (w : World) (g5 : Nat) (p : Nat → Option Addr) (c : Nat → Nat) (m : Mm) (W : World) : Prop where
  at5 : Sits W g5 28 (memCells p c m)
  hold : Hold W p c m
  low : Below w.heap.size w W
  ge : w.heap.size ≤ g5
theorem AW0.grown {w W W' : World} {g5 : Nat} {p : Nat → Option Addr} {c : Nat → Nat} {m : Mm} (h : AW0 w g5 p c m W) (hb : Below W.heap.size W W') : AW0 w g5 p c m W' :=
  ⟨h.at5.below hb h.at5.lt, h.hold.below hb, h.low.trans (hb.mono h.low.size), h.ge⟩
/-- What stays behind an act: the item, the memory as it was, the memory as it is. -/
structure AW (w : World) (g5 g8 g9 : Nat) (x : It) (p : Nat → Option Addr) (c : Nat → Nat) (m : Mm) (p' : Nat → Option Addr) (c' : Nat → Nat) (m' : Mm) (W : World) : Prop where
  at5 : Sits W g5 28 (memCells p' c' m')
  at8 : Sits W g8 60 (rtCells x)
  at9 : Sits W g9 28 (memCells p c m)
  hold : Hold W p c m
  hold' : Hold W p' c' m'
  low : Below w.heap.size w W
  ge : w.heap.size ≤ g5
  ne : g5 ≠ g9
section
variable {w W W' : World} {g5 g8 g9 : Nat} {x : It} {p p' p2 : Nat → Option Addr} {c c' c2 : Nat → Nat} {m m' m2 : Mm}
theorem AW.grown (h : AW w g5 g8 g9 x p c m p' c' m' W) (hb : Below W.heap.size W W') : AW w g5 g8 g9 x p c m p' c' m' W' :=
  ⟨h.at5.below hb h.at5.lt, h.at8.below hb h.at8.lt, h.at9.below hb h.at9.lt, h.hold.below hb, h.hold'.below hb, h.low.trans (hb.mono h.low.size), h.ge, h.ne⟩
theorem AW.put (h : AW w g5 g8 g9 x p c m p' c' m' W) (hh : Hold W p2 c2 m2) : AW w g5 g8 g9 x p c m p2 c2 m2 (W.setRow g5 (memCells p2 c2 m2)) :=
  ⟨setRow_heap W _ _ _ _ _ h.at5, (setRow_other W _ _ _ (h.at8.differ h.at5 (by decide))).trans h.at8, (setRow_other W _ _ _ (Ne.symm h.ne)).trans h.at9, hold_over h.hold h.at5 (mem_plain _ _ _) _, hold_over hh h.at5 (mem_plain _ _ _) _, row_low h.low h.ge _, h.ge, h.ne⟩
abbrev chain5 (W : World) (g : Nat) (p : Nat → Option Addr) (c : Nat → Nat) (m : Mm) : World :=
  ((((W.setCell ⟨g, 0, none⟩ (.slice (p 0) (m.row 0).length (c 0))).setCell ⟨g, 1, none⟩ (.slice (p 1) (m.row 1).length (c 1))).setCell ⟨g, 2, none⟩ (.slice (p 2) (m.row 2).length (c 2))).setCell ⟨g, 3, none⟩ (.slice (p 3) (m.row 3).length (c 3))).setCell ⟨g, 4, none⟩ (.int .i64 (m.n : Nat))
theorem chain_eq {W : World} {g : Nat} {p p2 : Nat → Option Addr} {c c2 : Nat → Nat} {m m2 : Mm} (h : Sits W g 28 (memCells p c m)) : chain5 W g p2 c2 m2 = W.setRow g (memCells p2 c2 m2) := by
  have h1 := ((((h.put 0 (.slice (p2 0) (m2.row 0).length (c2 0))).put 1 (.slice (p2 1) (m2.row 1).length (c2 1))).put 2 (.slice (p2 2) (m2.row 2).length (c2 2))).put 3 (.slice (p2 3) (m2.row 3).length (c2 3))).put 4 (.int .i64 (m2.n : Nat))
  have e : (chain5 W g p2 c2 m2).heap = (W.setRow g (memCells p2 c2 m2)).heap := by
    apply Array.ext_getElem?
    intro i
    by_cases hi : i = g
    · subst hi
      exact h1.trans (setRow_heap W _ _ _ _ _ h).symm
    · rw [setRow_other W _ _ _ hi]
      unfold chain5
      rw [Below.heap_setCell _ _ _ _ hi, Below.heap_setCell _ _ _ _ hi, Below.heap_setCell _ _ _ _ hi, Below.heap_setCell _ _ _ _ hi, Below.heap_setCell _ _ _ _ hi]
  unfold chain5 at e ⊢
  unfold World.setRow at e ⊢
  unfold World.setCell at e ⊢
  simp only at e ⊢
  rw [e]
theorem AW.back (h : AW w g5 g8 g9 x p c m p' c' m' W) : AW0 w g5 p' c' m' W := ⟨h.at5, h.hold', h.low, h.ge⟩
end
theorem wanted_dead {ops : Array Oper} {o : Oper} {A : Act} {j d : Nat} {b : Bool} (hg : o.guard = some (j, b)) (hd : (ops[j]?).bind (·.dst) = some d) (hv : A.tmps[d]?.getD undef = undef) : Region.wanted o (yielded ops A.tmps) = false := by
  have e : yielded ops A.tmps j = none := by
    unfold yielded
    rw [hd]
    cases h : A.tmps[d]? with
    | none => simp [h]
    | some v => rw [h] at hv; simp only [Option.getD_some] at hv; subst hv; simp [h, undef]
  unfold Region.wanted
  rw [hg]
  simp [e]
/-! ### Words of slots -/
def memW (m : Mm) : Value → World → Prop := fun u W => ∃ p c, Hold W p c m ∧ u = memV p c m
def memE (m : Mm) (f : Int) : Value → World → Prop := fun u W => ∃ p c, Hold W p c m ∧ u = .tuple #[memV p c m, .int .i64 f]
def listW (l : List It) : Value → World → Prop := fun u W => ∃ r d, Its W r l ∧ u = .slice r l.length d
theorem memW_mono (m : Mm) : Mono (memW m) := fun _ _ _ ⟨p, c, h, e⟩ hb => ⟨p, c, h.below hb, e⟩
theorem memE_mono (m : Mm) (f : Int) : Mono (memE m f) := fun _ _ _ ⟨p, c, h, e⟩ hb => ⟨p, c, h.below hb, e⟩
theorem listW_mono (l : List It) : Mono (listW l) := fun _ _ _ ⟨p, c, h, e⟩ hb => ⟨p, c, h.below hb, e⟩
theorem pairSize : (Try.prog.info? 57).map (·.size) = some 2 := by kernel_rfl
theorem pair_one (a b : Int) : (#[Value.int .i64 a, .int .i64 b]).all (·.oneCell') = true := by simp [Value.oneCell']
/-- A block that was made for a pair of times. -/
def boxP (B : Nat) : Value → World → Prop := fun u W => ∃ g, Sits W g 57 #[.int .i64 0, .int .i64 0] ∧ B ≤ g ∧ u = .pointer (some ⟨g, 0, none⟩)
theorem boxP_mono (B : Nat) : Mono (boxP B) := fun _ _ _ ⟨g, h, hB, e⟩ hb => ⟨g, h.below hb h.lt, hB, e⟩
end Go.Proofs.Ytgkgpehjedmejaa.Mmr
