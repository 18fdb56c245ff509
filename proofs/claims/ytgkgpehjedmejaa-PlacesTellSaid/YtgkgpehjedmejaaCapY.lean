/- Layer 12 (cap): the document's Capped. -/
import Derived.Test.YtgkgpehjedmejaaCapB
import Derived.Test.YtgkgpehjedmejaaMmrT
namespace Go.Proofs.Ytgkgpehjedmejaa.Cap
open Go.RowKit Go.Proofs.Ytgkgpehjedmejaa.Mem Go.Proofs.Ytgkgpehjedmejaa.Flow Go.Proofs.Ytgkgpehjedmejaa.Mmr

def toD (l : List It) (i : Nat) (x : It) : Int := match l[i + 1]? with
  | some y => y.a
  | none => x.b + 1
def stepD (l : List It) (i : Nat) : List (Int × Int) := match l[i]? with
  | some x => if toD l i x = x.b then [] else [(x.b, toD l i x)]
  | none => []
def partD (l : List It) : Nat → List (Int × Int)
  | 0 => []
  | i + 1 => partD l i ++ stepD l i
theorem stepD_cons (x : It) (l : List It) (i : Nat) : stepD (x :: l) (i + 1) = stepD l i := rfl
theorem partD_cons (x : It) (l : List It) : ∀ i, partD (x :: l) (i + 1) = stepD (x :: l) 0 ++ partD l i
  | 0 => by show [] ++ stepD (x :: l) 0 = stepD (x :: l) 0 ++ []; rw [List.nil_append, List.append_nil]
  | i + 1 => by
    show partD (x :: l) (i + 1) ++ stepD (x :: l) (i + 1) = stepD (x :: l) 0 ++ (partD l i ++ stepD l i)
    rw [partD_cons x l i, stepD_cons, List.append_assoc]
theorem partD_all : ∀ (l : List It), partD l l.length = roomsD l
  | [] => rfl
  | [x] => by
    show [] ++ (if x.b + 1 = x.b then [] else [(x.b, x.b + 1)]) = [(x.b, x.b + 1)]
    rw [if_neg (by omega)]; rfl
  | x :: y :: l => by
    show partD (x :: y :: l) ((y :: l).length + 1) = (if y.a = x.b then [] else [(x.b, y.a)]) ++ roomsD (y :: l)
    rw [partD_cons, partD_all (y :: l)]; rfl
theorem fillD_append (m : Dm) (loc : Int) : ∀ (a b : List (Int × Int)), fillD m loc (a ++ b) = (fillD m loc a).bind fun f => fillD f loc b := by
  intro a
  induction a generalizing m with
  | nil => intro b; rfl
  | cons r a ih =>
    intro b
    show (if (dAdd m (resI loc r.1 r.2)).2 = 0 then fillD (dAdd m (resI loc r.1 r.2)).1 loc (a ++ b) else none) = Option.bind (if (dAdd m (resI loc r.1 r.2)).2 = 0 then fillD (dAdd m (resI loc r.1 r.2)).1 loc a else none) _
    by_cases h : (dAdd m (resI loc r.1 r.2)).2 = 0
    · rw [if_pos h, if_pos h]; exact ih _ b
    · rw [if_neg h, if_neg h]; rfl
theorem partD_prefix (l : List It) : ∀ j i, ∃ t, partD l (i + j) = partD l i ++ t
  | 0, i => ⟨[], by simp⟩
  | j + 1, i => by
    obtain ⟨t, ht⟩ := partD_prefix l j i
    exact ⟨t ++ stepD l (i + j), by show partD l (i + j) ++ stepD l (i + j) = _; rw [ht, List.append_assoc]⟩
theorem partD_stop {m : Dm} {loc : Int} {l : List It} {i : Nat} (hi : i ≤ l.length) (h : fillD m loc (partD l i) = none) : fillD m loc (roomsD l) = none := by
  obtain ⟨t, ht⟩ := partD_prefix l (l.length - i) i
  rw [show i + (l.length - i) = l.length by omega, partD_all] at ht
  rw [ht, fillD_append, h]; rfl
theorem upD_none {m : Dm} {k : Nat} (h : upD m k = none) : ∀ j, upD m (k + j) = none
  | 0 => h
  | j + 1 => by
    show (upD m (k + j)).bind _ = none
    rw [upD_none h j]; rfl
theorem capD_no {m : Dm} {k : Nat} (hk : k ≤ m.n) (h : upD m k = none) : capD m = (m, 4) := by
  unfold capD
  have := upD_none h (m.n - k)
  rw [show k + (m.n - k) = m.n by omega] at this
  rw [this]
theorem capD_yes {m f : Dm} (h : upD m m.n = some f) : capD m = (f, 0) := by unfold capD; rw [h]
theorem rep_may {m : Mm} {w : Dm} (h : Rep m w) : ∀ y ∈ w.l, Spn.mayF y.a y.b = true := fun y hy => by
  obtain ⟨h0, h1⟩ := h.loc y hy
  have := (h.mem (has_iff.2 ⟨h0, h1⟩)).2 ⟨hy, rfl⟩
  exact h.ok.may _ _ this
structure DcAt (w : World) (q : Option Addr) (c : Nat) (m : Dm) (q' : Option Addr) (c' : Nat) (f : Dm) (W : World) : Prop where
  at1 : Sits W w.heap.size 30 (dmCells q c m)
  at2 : Sits W (w.heap.size + 1) 30 zeroDm
  at4 : Sits W (w.heap.size + 1 + 1) 30 (dmCells q' c' f)
  hold : HoldD W q c m
  hold' : HoldD W q' c' f
  low : Below w.heap.size w W
section
variable {w W W' : World} {q q' q2 : Option Addr} {c c' c2 : Nat} {m f f2 : Dm}
theorem DcAt.grown (h : DcAt w q c m q' c' f W) (hb : Below W.heap.size W W') : DcAt w q c m q' c' f W' :=
  ⟨h.at1.below hb h.at1.lt, h.at2.below hb h.at2.lt, h.at4.below hb h.at4.lt, h.hold.below hb, h.hold'.below hb, h.low.trans (hb.mono h.low.size)⟩
theorem holdD_over {g : Nat} {t : TypeId} {cs : Array Value} (h : HoldD W q c m) (hs : Sits W g t cs) (hc : ∀ u ∈ cs.toList, ∀ k z, u = .int k z → k = .i64) (cs' : Array Value) : HoldD (W.setRow g cs') q c m :=
  ⟨rts_row h.row (rts_far h.row hs hc) cs', h.cap⟩
theorem DcAt.put4 (h : DcAt w q c m q' c' f W) (hh : HoldD W q2 c2 f2) : DcAt w q c m q2 c2 f2 (W.setRow (w.heap.size + 1 + 1) (dmCells q2 c2 f2)) :=
  ⟨(setRow_other W _ _ _ (by omega)).trans h.at1, (setRow_other W _ _ _ (by omega)).trans h.at2, setRow_heap W _ _ _ _ _ h.at4, holdD_over h.hold h.at4 (dm_plain _ _ _) _, holdD_over hh h.at4 (dm_plain _ _ _) _, row_low h.low (by omega) _⟩
end
end Go.Proofs.Ytgkgpehjedmejaa.Cap
