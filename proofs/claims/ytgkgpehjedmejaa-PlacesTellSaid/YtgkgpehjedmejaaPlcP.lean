/- Proved here: troth/trothlaw15.PlacesTell answers true for any starting numbers, any row of items, any location and any time (the places of that location of a memory made of them, and those behind that time, are what the document says; of more than 150 items, or a number of locations that may not be, it asks a memory that is known), and leaves its arguments alone. Condition: none. -/
import Derived.Test.YtgkgpehjedmejaaCapA
import Derived.Test.YtgkgpehjedmejaaMmrF
import Derived.Sort.CutIn
import Derived.Test.YtgkgpehjedmejaaMmrYB
import Derived.Test.YtgkgpehjedmejaaCapV
import Derived.Test.YtgkgpehjedmejaaMmrJ
import Derived.Test.YtgkgpehjedmejaaCapZ
import Derived.Test.YtgkgpehjedmejaaCapC
namespace Go.Proofs.Ytgkgpehjedmejaa.Plc
open Go.Proofs.Ytgkgpehjedmejaa.Mmr

abbrev mayP (r : Int × Int) : Bool := Spn.mayF r.1 r.2
def betw (a b : Int) : List (Int × Int) :=
  if b - a = 0 then [] else if b - a = 1 then [(a, b)] else if b - a = 2 then [(a, b), (a, a + 1), (a + 1, b)] else [(a, b), (a, a + 1), (a + 1, b), (a + 1, a + 2)]
def aft (a : Int) : List (Int × Int) := [(a, a + 1), (a + 1, a + 2)]
def partsF (l : List It) (k : Nat) : List (Int × Int) :=
  match l[k]?, l[k + 1]? with
  | some x, some y => betw x.b y.a
  | some x, none => aft x.b
  | _, _ => []
def uptoF (l : List It) : Nat → List (Int × Int)
  | 0 => []
  | k + 1 => uptoF l k ++ (partsF l k).filter mayP
def allF (l : List It) : List (Int × Int) := uptoF l l.length
def behF (l : List It) (t : Int) : List (Int × Int) := if l.any (fun x => decide (x.b = t)) then (allF l).filter (fun r => decide (r.1 = t)) else []

/-! ### The document's -/
def betwD (a b : Int) : List (Int × Int) :=
  ((if 0 < b - a then [(a, b)] else []) ++ if 1 < b - a then [(a, a + 1), (a + 1, b)] else []) ++ if 2 < b - a then [(a + 1, a + 2)] else []
def partsD (l : List It) (k : Nat) : List (Int × Int) :=
  match l[k]?, l[k + 1]? with
  | some x, some y => betwD x.b y.a
  | some x, none => aft x.b
  | _, _ => []
def uptoD (l : List It) : Nat → List (Int × Int)
  | 0 => []
  | k + 1 => uptoD l k ++ (partsD l k).filter mayP
def allD (w : Dm) (loc : Int) : List (Int × Int) := uptoD (dList w loc) (dList w loc).length
def endsD (w : Dm) (loc t : Int) : Bool := w.l.any fun x => decide (x.loc = loc) && decide (x.b = t)
def behD (w : Dm) (loc t : Int) : List (Int × Int) := if endsD w loc t then (allD w loc).filter (fun r => decide (r.1 = t)) else []

theorem betw_same {a b : Int} (h : a ≤ b) : betw a b = betwD a b := by
  unfold betw betwD
  by_cases h0 : b - a = 0
  · rw [if_pos h0, if_neg (by omega), if_neg (by omega), if_neg (by omega)]; rfl
  by_cases h1 : b - a = 1
  · rw [if_neg h0, if_pos h1, if_pos (by omega), if_neg (by omega), if_neg (by omega)]; rfl
  by_cases h2 : b - a = 2
  · rw [if_neg h0, if_neg h1, if_pos h2, if_pos (by omega), if_pos (by omega), if_neg (by omega)]; rfl
  · rw [if_neg h0, if_neg h1, if_neg h2, if_pos (by omega), if_pos (by omega), if_pos (by omega)]; rfl
theorem parts_same {l : List It} (h : l.Pairwise fun x y => x.b ≤ y.a ∧ x.b < y.b) (k : Nat) : partsF l k = partsD l k := by
  unfold partsF partsD
  cases h0 : l[k]? with
  | none => rfl
  | some x =>
    cases h1 : l[k + 1]? with
    | none => rfl
    | some y =>
      obtain ⟨k0, e0⟩ := List.getElem?_eq_some_iff.1 h0
      obtain ⟨k1, e1⟩ := List.getElem?_eq_some_iff.1 h1
      have := List.pairwise_iff_getElem.1 h k (k + 1) k0 k1 (by omega)
      rw [e0, e1] at this
      exact betw_same this.1
theorem upto_same {l : List It} (h : l.Pairwise fun x y => x.b ≤ y.a ∧ x.b < y.b) : ∀ k, uptoF l k = uptoD l k
  | 0 => rfl
  | k + 1 => by
    show uptoF l k ++ _ = uptoD l k ++ _
    rw [upto_same h k, parts_same h k]
theorem list_rise {m : Mm} (h : OkM m) (loc : Int) : (listF m loc).Pairwise fun x y => x.b ≤ y.a ∧ x.b < y.b := by
  unfold listF
  split
  · next hh =>
    have := has_iff.1 hh
    exact (h.each loc.toNat (by omega)).rise
  · exact List.Pairwise.nil
theorem all_same {m : Mm} {w : Dm} (h : Rep m w) (loc : Int) : allF (listF m loc) = allD w loc := by
  unfold allF allD
  rw [rep_list h]
  exact upto_same (list_rise h.ok loc) _
theorem ends_same {m : Mm} {w : Dm} (h : Rep m w) (loc t : Int) : (listF m loc).any (fun x => decide (x.b = t)) = endsD w loc t := by
  have e : endsD w loc t = (atL w.l loc).any fun x => decide (x.b = t) := by
    unfold endsD atL
    rw [List.any_filter]
  rw [e]
  cases hh : hasF m loc
  · rw [h.out hh]
    unfold listF
    rw [hh]; rfl
  · rw [← any_perm (h.at_ hh)]
    unfold listF
    rw [hh]; rfl
theorem beh_same {m : Mm} {w : Dm} (h : Rep m w) (loc t : Int) : behF (listF m loc) t = behD w loc t := by
  unfold behF behD
  rw [ends_same h, all_same h]
/-! ### How many, and how great -/
theorem parts_len (l : List It) (k : Nat) : (partsF l k).length ≤ 4 := by
  unfold partsF
  split
  · unfold betw; repeat' split
    all_goals simp
  · simp [aft]
  · simp
theorem partsD_len (l : List It) (k : Nat) : (partsD l k).length ≤ 4 := by
  unfold partsD
  split
  · unfold betwD; repeat' split
    all_goals simp
  · simp [aft]
  · simp
theorem upto_len (l : List It) : ∀ k, (uptoF l k).length ≤ 4 * k
  | 0 => by simp [uptoF]
  | k + 1 => by
    show (uptoF l k ++ _).length ≤ _
    rw [List.length_append]
    have h1 := upto_len l k
    have h2 := List.length_filter_le mayP (partsF l k)
    have h3 := parts_len l k
    omega
theorem uptoD_len (l : List It) : ∀ k, (uptoD l k).length ≤ 4 * k
  | 0 => by simp [uptoD]
  | k + 1 => by
    show (uptoD l k ++ _).length ≤ _
    rw [List.length_append]
    have h1 := uptoD_len l k
    have h2 := List.length_filter_le mayP (partsD l k)
    have h3 := partsD_len l k
    omega
theorem upto_may (l : List It) : ∀ k, ∀ r ∈ uptoF l k, mayP r = true
  | 0 => fun r h => by simp [uptoF] at h
  | k + 1 => fun r h => by
    rcases List.mem_append.1 (show r ∈ uptoF l k ++ (partsF l k).filter mayP from h) with h | h
    · exact upto_may l k r h
    · exact (List.mem_filter.1 h).2
/-- The places of so many items, and of those of the next one so many parts. -/
def preF (l : List It) (k j : Nat) : List (Int × Int) := uptoF l k ++ ((partsF l k).take j).filter mayP
theorem pre_zero (l : List It) (k : Nat) : preF l k 0 = uptoF l k := by unfold preF; simp
theorem pre_all (l : List It) (k : Nat) : preF l k (partsF l k).length = uptoF l (k + 1) := by unfold preF; rw [List.take_length]; rfl
theorem pre_yes {l : List It} {k j : Nat} {r : Int × Int} (h : (partsF l k)[j]? = some r) (hm : mayP r = true) : preF l k (j + 1) = preF l k j ++ [r] := by
  unfold preF
  rw [List.take_add_one, h, Option.toList_some, List.filter_append, List.filter_cons_of_pos hm, List.filter_nil, List.append_assoc]
theorem pre_no {l : List It} {k j : Nat} {r : Int × Int} (h : (partsF l k)[j]? = some r) (hm : mayP r = false) : preF l k (j + 1) = preF l k j := by
  unfold preF
  rw [List.take_add_one, h, Option.toList_some, List.filter_append, List.filter_cons_of_neg (by rw [hm]; decide), List.filter_nil, List.append_nil]
theorem pre_len (l : List It) (k j : Nat) : (preF l k j).length ≤ 4 * k + 4 := by
  unfold preF
  rw [List.length_append]
  have h1 := upto_len l k
  have h2 := List.length_filter_le mayP ((partsF l k).take j)
  have h3 := parts_len l k
  rw [List.length_take] at h2
  omega
theorem upto_mono (l : List It) {k : Nat} : ∀ n, uptoF l k <+: uptoF l (k + n)
  | 0 => List.prefix_rfl
  | n + 1 => (upto_mono l n).trans (List.prefix_append _ _)
theorem pre_prefix {l : List It} {k j : Nat} (hk : k < l.length) : preF l k j <+: allF l := by
  have h1 : preF l k j <+: uptoF l (k + 1) := by
    refine (List.prefix_append_right_inj _).2 ?_
    have e : partsF l k = (partsF l k).take j ++ (partsF l k).drop j := (List.take_append_drop ..).symm
    conv => rhs; rw [e]
    rw [List.filter_append]
    exact List.prefix_append _ _
  have h2 := upto_mono l (k := k + 1) (l.length - (k + 1))
  rw [show k + 1 + (l.length - (k + 1)) = l.length by omega] at h2
  exact h1.trans h2
theorem parts_bound {l : List It} (hm : ∀ x ∈ l, MayX x) (k : Nat) : ∀ r ∈ partsF l k, 0 ≤ r.1 ∧ r.1 ≤ 1048578 ∧ 0 ≤ r.2 ∧ r.2 ≤ 1048578 := by
  intro r hr
  unfold partsF at hr
  split at hr
  · next x y hx hy =>
    have h1 := may_le (hm x (List.mem_of_getElem? hx))
    have h2 := may_le (hm y (List.mem_of_getElem? hy))
    unfold betw at hr
    repeat' split at hr
    all_goals simp at hr
    all_goals (rcases hr with rfl | rfl | rfl | rfl) <;> dsimp only <;> omega
  · next x hx hy =>
    have h1 := may_le (hm x (List.mem_of_getElem? hx))
    simp only [aft, List.mem_cons, List.not_mem_nil, or_false] at hr
    rcases hr with rfl | rfl <;> dsimp only <;> omega
  · simp at hr
end Go.Proofs.Ytgkgpehjedmejaa.Plc
namespace Go.Proofs.Ytgkgpehjedmejaa.Plc
open Go.RowKit Go.Shelf Go.Proofs.Ytgkgpehjedmejaa.Mem Go.Proofs.Ytgkgpehjedmejaa.Flow Go.Proofs.Ytgkgpehjedmejaa.Mmr

/-- One of a row of pairs of whole numbers. -/
def prL (r : Int × Int) : List Value := [.int .i64 r.1, .int .i64 r.2]
/-- One of a row of spans. -/
def spL (r : Int × Int) : List Value := [.complex .f64 (fw r.1) (fw r.2)]
theorem prL_len (r : Int × Int) : (prL r).length = 2 := rfl
theorem spL_len (r : Int × Int) : (spL r).length = 1 := rfl
theorem lay_at {α : Type} {f : α → List Value} {sz : Nat} (hf : ∀ x, (f x).length = sz) (h0 : 0 < sz) {w : World} {p : Option Addr} {l : List α} (h : Lay w p (cellsOf f l)) {k : Nat} {x : α} (hx : l[k]? = some x) :
    ∃ g o, p = some ⟨g, o, none⟩ ∧ g < w.heap.size ∧ ∀ i, i < sz → w.cell? ⟨g, o + (k * sz + i), none⟩ = (f x)[i]? := by
  have at_ : ∀ i, i < sz → ∃ g o, p = some ⟨g, o, none⟩ ∧ g < w.heap.size ∧ w.cell? ⟨g, o + (k * sz + i), none⟩ = (f x)[i]? := fun i hi => by
    have e := cells_at hf l k x i hx hi
    have hs : (f x)[i]? = some ((f x)[i]'(by rw [hf]; exact hi)) := List.getElem?_eq_getElem _
    obtain ⟨g, o, h1, h2, h3⟩ := h (k * sz + i) _ (e.trans hs)
    exact ⟨g, o, h1, h2, h3.trans hs.symm⟩
  obtain ⟨g, o, e, hg, _⟩ := at_ 0 h0
  refine ⟨g, o, e, hg, fun i hi => ?_⟩
  obtain ⟨g', o', e', _, hc⟩ := at_ i hi
  rw [e] at e'
  injection e' with e'
  injection e' with e1 e2
  subst e1 e2
  exact hc
theorem pr_at {w : World} {p : Option Addr} {l : List (Int × Int)} (h : Lay w p (cellsOf prL l)) {k : Nat} {r : Int × Int} (hx : l[k]? = some r) :
    ∃ g o, p = some ⟨g, o, none⟩ ∧ g < w.heap.size ∧ w.cell? ⟨g, o + k * 2, none⟩ = some (.int .i64 r.1) ∧ w.cell? ⟨g, o + k * 2 + 1, none⟩ = some (.int .i64 r.2) := by
  obtain ⟨g, o, e, hg, hc⟩ := lay_at prL_len (by decide) h hx
  exact ⟨g, o, e, hg, hc 0 (by decide), hc 1 (by decide)⟩
theorem sp_at {w : World} {p : Option Addr} {l : List (Int × Int)} (h : Lay w p (cellsOf spL l)) {k : Nat} {r : Int × Int} (hx : l[k]? = some r) :
    ∃ g o, p = some ⟨g, o, none⟩ ∧ g < w.heap.size ∧ w.cell? ⟨g, o + k, none⟩ = some (.complex .f64 (fw r.1) (fw r.2)) := by
  obtain ⟨g, o, e, hg, hc⟩ := lay_at spL_len (by decide) h hx
  refine ⟨g, o, e, hg, ?_⟩
  have := hc 0 (by decide)
  rw [Nat.mul_one, Nat.add_zero] at this
  exact this
/-- A new block of pairs holds the first of them. -/
theorem lay_new {W : World} {g : Nat} {t : TypeId} {cs : Array Value} (h : Sits W g t cs) {xs : List Value} (hx : xs <+: cs.toList) : Lay W (some ⟨g, 0, none⟩) xs := fun j u hu => by
  refine ⟨g, 0, rfl, h.lt, ?_⟩
  rw [Nat.zero_add, h.cell j, ← Array.getElem?_toList]
  obtain ⟨ys, e⟩ := hx
  rw [← e, List.getElem?_append_left (List.getElem?_eq_some_iff.1 hu).1]
  exact hu
/-- A row of parts that lies in a block of its own. -/
def PartsAt (W : World) (n : Nat) (r : Option Addr) (l : List (Int × Int)) : Prop :=
  l = [] ∨ ∃ g cs, r = some ⟨g, 0, none⟩ ∧ n ≤ g ∧ Sits W g 98 cs ∧ cellsOf prL l <+: cs.toList
theorem PartsAt.lay {W : World} {n : Nat} {r : Option Addr} {l : List (Int × Int)} (h : PartsAt W n r l) : Lay W r (cellsOf prL l) := by
  rcases h with rfl | ⟨g, cs, rfl, _, hs, hp⟩
  · exact fun j u hu => by simp [cellsOf] at hu
  · exact lay_new hs hp
theorem PartsAt.below {W W' : World} {n : Nat} {r : Option Addr} {l : List (Int × Int)} (h : PartsAt W n r l) (hb : Below W.heap.size W W') : PartsAt W' n r l :=
  h.imp id fun ⟨g, cs, e, hn, hs, hp⟩ => ⟨g, cs, e, hn, hs.below hb hs.lt, hp⟩
/-- A row of parts came back. -/
def GivesP (l : List (Int × Int)) (w : World) (e : Ending) (w' : World) : Prop := ∃ r d, e = .returned (.slice r l.length d) ∧ PartsAt w' w.heap.size r l ∧ Below w.heap.size w w'
set_option maxRecDepth 100000 in
theorem after_any (a : Int) (h0 : 0 ≤ a) (h1 : a ≤ 1048576) (w : World) :
    Calls Try.prog 51 #[.int .i64 a] w (GivesP (aft a) w) := by
  have hw1 := IntWalk.i64_in (a + 1) (by omega)
  have hw2 := IntWalk.i64_in (a + 2) (by omega)
  go_enter Try.func51, Try.ntmps51
  go_wp2_with fail
  go_ret
  exact ⟨_, _, rfl, .inr ⟨_, _, rfl, Nat.le_refl _, Sits.new w _ _, ⟨[], rfl⟩⟩, one_low _ _⟩
set_option maxRecDepth 100000 in
set_option maxHeartbeats 2000000 in
theorem between_any (a b : Int) (ha : 0 ≤ a) (ha1 : a ≤ 1048576) (hb : 0 ≤ b) (hb1 : b ≤ 1048576) (w : World) :
    Calls Try.prog 52 #[.int .i64 a, .int .i64 b] w (GivesP (betw a b) w) := by
  have hw1 := IntWalk.i64_in (a + 1) (by omega)
  have hw2 := IntWalk.i64_in (a + 2) (by omega)
  have hw3 := IntWalk.i64_in (b - a) (by omega)
  have HS := Lib.hid (Sits.new w 98 #[.int .i64 a, .int .i64 b, .int .i64 a, .int .i64 (a + 1), .int .i64 (a + 1), .int .i64 b, .int .i64 (a + 1), .int .i64 (a + 2)])
  have HL := Lib.hid (one_low w (.cells #[.int .i64 a, .int .i64 b, .int .i64 a, .int .i64 (a + 1), .int .i64 (a + 1), .int .i64 b, .int .i64 (a + 1), .int .i64 (a + 2)] 98))
  by_cases h0 : b - a = 0
  · have e : Hid (betw a b = []) := Lib.hid (by unfold betw; rw [if_pos h0])
    go_enter Try.func52, Try.ntmps52
    go_wp2_with fail
    go_ret
    rw [e.out]
    exact ⟨_, _, rfl, .inl rfl, HL.out⟩
  by_cases h1 : b - a = 1
  · have e : Hid (betw a b = [(a, b)]) := Lib.hid (by unfold betw; rw [if_neg h0, if_pos h1])
    go_enter Try.func52, Try.ntmps52
    go_wp2_with fail
    go_ret
    rw [e.out]
    exact ⟨_, _, rfl, .inr ⟨_, _, rfl, Nat.le_refl _, HS.out, ⟨_, rfl⟩⟩, HL.out⟩
  by_cases h2 : b - a = 2
  · have e : Hid (betw a b = [(a, b), (a, a + 1), (a + 1, b)]) := Lib.hid (by unfold betw; rw [if_neg h0, if_neg h1, if_pos h2])
    go_enter Try.func52, Try.ntmps52
    go_wp2_with fail
    go_ret
    rw [e.out]
    exact ⟨_, _, rfl, .inr ⟨_, _, rfl, Nat.le_refl _, HS.out, ⟨_, rfl⟩⟩, HL.out⟩
  · have e : Hid (betw a b = [(a, b), (a, a + 1), (a + 1, b), (a + 1, a + 2)]) := Lib.hid (by unfold betw; rw [if_neg h0, if_neg h1, if_neg h2])
    go_enter Try.func52, Try.ntmps52
    go_wp2_with fail
    go_ret
    rw [e.out]
    exact ⟨_, _, rfl, .inr ⟨_, _, rfl, Nat.le_refl _, HS.out, ⟨_, rfl⟩⟩, HL.out⟩
end Go.Proofs.Ytgkgpehjedmejaa.Plc
namespace Go.Proofs.Ytgkgpehjedmejaa.Plc
open Go.RowKit Go.Shelf Go.Proofs.Ytgkgpehjedmejaa.Mem Go.Proofs.Ytgkgpehjedmejaa.Flow Go.Proofs.Ytgkgpehjedmejaa.Mmr Go.Proofs.Ytgkgpehjedmejaa.Cap
attribute [local go_sem] Oper.semAt_some

/-- Cells stay: below a size, but those of one block; above it, but those of rows of spans. -/
structure KeptP (n₀ B : Nat) (W W' : World) : Prop where
  size : W.heap.size ≤ W'.heap.size
  low : ∀ (k : Nat) (o : Obj), k < n₀ → k ≠ B → W.heap[k]? = some o → o.isCells = true → W'.heap[k]? = some o
  high : ∀ (k : Nat) (cs : Array Value) (t : TypeId) (fz : Nat × Nat), n₀ ≤ k → W.heap[k]? = some (.cells cs t fz) → t ≠ 47 → W'.heap[k]? = some (.cells cs t fz)
section
variable {n₀ B : Nat} {W W' W'' : World}
theorem KeptP.refl (n₀ B : Nat) (W : World) : KeptP n₀ B W W := ⟨Nat.le_refl _, fun _ _ _ _ h _ => h, fun _ _ _ _ _ h _ => h⟩
theorem KeptP.trans (h : KeptP n₀ B W W') (h' : KeptP n₀ B W' W'') : KeptP n₀ B W W'' :=
  ⟨Nat.le_trans h.size h'.size, fun k o a b e ho => h'.low k o a b (h.low k o a b e ho) ho, fun k cs t fz a e ht => h'.high k cs t fz a (h.high k cs t fz a e ht) ht⟩
theorem KeptP.below (h : Below W.heap.size W W') : KeptP n₀ B W W' :=
  ⟨h.size, fun k _ _ _ e _ => (h.block k (Array.getElem?_eq_some_iff.1 e).1).trans e, fun k _ _ _ _ e _ => (h.block k (Array.getElem?_eq_some_iff.1 e).1).trans e⟩
theorem KeptP.cell (h : KeptP n₀ B W W') {g i : Nat} {v : Value} (hn : g < n₀) (hg : g ≠ B) (hc : W.cell? ⟨g, i, none⟩ = some v) : W'.cell? ⟨g, i, none⟩ = some v := by
  have hlt : g < W.heap.size := World.block_lt_of_cell? _ _ hc
  obtain ⟨o, ho⟩ : ∃ o, W.heap[g]? = some o := ⟨_, Array.getElem?_eq_getElem hlt⟩
  have hcl : o.isCells = true := by
    unfold World.cell? at hc
    rw [ho] at hc
    cases o <;> first | rfl | (simp at hc)
  exact (World.cell?_of_block (a := ⟨g, i, none⟩) ((h.low g o hn hg ho hcl).trans ho.symm)).trans hc
theorem KeptP.sits (h : KeptP n₀ B W W') {g : Nat} {t : TypeId} {cs : Array Value} (hn : n₀ ≤ g) (ht : t ≠ 47) (hs : Sits W g t cs) : Sits W' g t cs := h.high g cs t _ hn hs ht
theorem KeptP.put (n₀ B : Nat) (W : World) (l : Nat) (o1 o' : Obj) (hl : W.heap[l]? = some o1) (ho : o1.isCells = false) : KeptP n₀ B W (W.putObj l o') := by
  have key : ∀ (k : Nat) (o2 : Obj), W.heap[k]? = some o2 → o2.isCells = true → (W.putObj l o').heap[k]? = some o2 := fun k o2 e h2 => by
    by_cases hkl : k = l
    · subst hkl; rw [hl] at e; injection e with e; subst e; rw [ho] at h2; cases h2
    · simp only [World.putObj]; rw [Array.getElem?_setIfInBounds_ne (Ne.symm hkl)]; exact e
  exact ⟨by simp [World.putObj], fun k o2 _ _ e h2 => key k o2 e h2, fun k cs t fz _ e _ => key k _ e rfl⟩
theorem PartsAt.kept (h : KeptP n₀ B W W') {n : Nat} (hn : n₀ ≤ n) {r : Option Addr} {l : List (Int × Int)} (hp : PartsAt W n r l) : PartsAt W' n r l :=
  hp.imp id fun ⟨g, cs, e, hg, hs, hx⟩ => ⟨g, cs, e, hg, h.sits (Nat.le_trans hn hg) (by decide) hs, hx⟩
end
abbrev spanV (r : Int × Int) : Value := .complex .f64 (fw r.1) (fw r.2)
theorem of_yes {a b : Int} (ha : a.natAbs ≤ 2 ^ 64) (hb : b.natAbs ≤ 2 ^ 64) (hm : Spn.mayF a b = true) (w : World) :
    Calls Try.prog 36 #[.int .i64 a, .int .i64 b] w fun e w' => e = .returned (.tuple #[.complex .f64 (fw a) (fw b), .bool true]) ∧ w = w' := Spn.of_yes ha hb hm w
theorem of_no {a b : Int} (ha : a.natAbs ≤ 2 ^ 64) (hb : b.natAbs ≤ 2 ^ 64) (hm : Spn.mayF a b = false) (w : World) :
    Calls Try.prog 36 #[.int .i64 a, .int .i64 b] w fun e w' => e = .returned (.tuple #[.complex .f64 0 0, .bool false]) ∧ w = w' := Spn.of_no ha hb hm w
theorem parts_some {l : List It} {k : Nat} {x y : It} (h0 : l[k]? = some x) (h1 : l[k + 1]? = some y) : partsF l k = betw x.b y.a := by unfold partsF; rw [h0, h1]
theorem parts_none {l : List It} {k : Nat} {x : It} (h0 : l[k]? = some x) (h1 : l[k + 1]? = none) : partsF l k = aft x.b := by unfold partsF; rw [h0, h1]
set_option maxRecDepth 100000 in
set_option maxHeartbeats 4000000 in
theorem each1_in (l Bs B n₀ g c : Nat) (p : Option Addr) (xs : List It) (hx : xs.length ≤ 1000) (hBs : Bs < n₀) (hBs' : Bs ≠ B) (hg : g < n₀) (hg' : g ≠ B) (hL : ∀ x ∈ xs, MayX x) (J Jx : List (Int × Int) → World → Prop) (W : World) (hB : n₀ ≤ W.heap.size) (hJ : AbidesFrom W.heap.size J)
    (hY : ∀ pre x W, J pre W → mayP x = true → pre.length < 4 * xs.length + 4 → YieldAt Fence.wide 3 Try.prog l #[spanV x] W fun e W' =>
      (e = .returned (.bool true) ∧ J (pre ++ [x]) W' ∧ KeptP n₀ B W W') ∨ (e = .returned (.bool false) ∧ Jx (pre ++ [x]) W'))
    (hcs : W.cell? ⟨Bs, 0, none⟩ = some (.slice p xs.length c)) (hc : ∀ k x, xs[k]? = some x → ∃ o, p = some ⟨g, o, none⟩ ∧ ItAt W g (o + k * 13) x) (h0 : J [] W) :
    CallsIn Fence.wide 4 Try.prog 50 #[.func (.yield l) #[] #[], .pointer (some ⟨Bs, 0, none⟩)] W fun e W' => (∃ v, e = .returned v) ∧
      ((∃ ys, ys = allF xs ∧ J ys W') ∨ (∃ pre, (∃ k, pre = (allF xs).take k) ∧ Jx pre W')) := by
  have i1 : (xs.length : Int) ≤ 1000 := by omega
  have HL := Lib.hid hL
  have HJ := Lib.hid hJ
  have HC := Lib.hid hc
  have HB := Lib.hid hB
  have HG := Lib.hid (show Bs < n₀ ∧ Bs ≠ B ∧ g < n₀ ∧ g ≠ B from ⟨hBs, hBs', hg, hg'⟩)
  have HCS := Lib.hid hcs
  clear hL hJ hc hB hBs hBs' hg hg' hx
  refine callsIn_of_wp Try.func50 rfl trivial ?_ rfl
  simp only [Try.ntmps50, List.size_toArray, List.length_cons, List.length_nil, Nat.reduceAdd, Nat.reduceSub, Array.replicate_succ, Array.replicate_zero, List.push_toArray, List.append_toArray, List.nil_append, List.cons_append]
  gi_wp2
  clear hcs
  gi_loopw [13] (fun v13 wr => ∃ (k : Nat) (pre : List (Int × Int)), k ≤ xs.length ∧ v13 = .int .i64 (k : Nat) ∧ Hid (pre = uptoF xs k) ∧ J pre wr ∧ Hid (KeptP n₀ B W wr))
    (fun v13 _ => xs.length - (intOf v13).toNat)
  case atStart => exact ⟨0, [], Nat.zero_le _, rfl, Lib.hid rfl, h0, Lib.hid (KeptP.refl _ _ _)⟩
  case round =>
    obtain ⟨k, pre, hk, rfl, HP, hJs, HNX⟩ := hrel
    by_cases hlt : k < xs.length
    · have hxt : xs[k]? = some xs[k] := List.getElem?_eq_getElem hlt
      have HXT := Lib.hid hxt
      obtain ⟨o, rfl, c0, c1, c2, c3, c4, c5, c6, c7, c8, c9, c10, c11, c12⟩ := HC.out k _ hxt
      have HLx := Lib.hid (HL.out _ (List.getElem_mem hlt))
      generalize xs[k] = x at HLx HXT c0 c1 c2 c3 c4 c5 c6 c7 c8 c9 c10 c11 c12
      have c0 := HNX.out.cell HG.out.2.2.1 HG.out.2.2.2 c0
      have c1 := HNX.out.cell HG.out.2.2.1 HG.out.2.2.2 c1
      have c2 := HNX.out.cell HG.out.2.2.1 HG.out.2.2.2 c2
      have c3 := HNX.out.cell HG.out.2.2.1 HG.out.2.2.2 c3
      have c4 := HNX.out.cell HG.out.2.2.1 HG.out.2.2.2 c4
      have c5 := HNX.out.cell HG.out.2.2.1 HG.out.2.2.2 c5
      have c6 := HNX.out.cell HG.out.2.2.1 HG.out.2.2.2 c6
      have c7 := HNX.out.cell HG.out.2.2.1 HG.out.2.2.2 c7
      have c8 := HNX.out.cell HG.out.2.2.1 HG.out.2.2.2 c8
      have c9 := HNX.out.cell HG.out.2.2.1 HG.out.2.2.2 c9
      have c10 := HNX.out.cell HG.out.2.2.1 HG.out.2.2.2 c10
      have c11 := HNX.out.cell HG.out.2.2.1 HG.out.2.2.2 c11
      have c12 := HNX.out.cell HG.out.2.2.1 HG.out.2.2.2 c12
      have k1 : (k : Int) < (xs.length : Int) := by omega
      have k0 : (0 : Int) ≤ (k : Int) := by omega
      have HKL := Lib.hid hlt
      clear hxt hlt hk
      have HJa := Lib.hid (HJ.out pre wr (wr.alloc (.cells (itCells x) 52)) none hJs (World.grownBy_alloc _ _ _) (fun r e => by cases e))
      have S5 := Lib.hid (Sits.new wr 52 (itCells x))
      have HN1 : Hid (KeptP n₀ B W (wr.alloc (.cells (itCells x) 52))) := Lib.hid (HNX.out.trans (KeptP.below (one_low _ _)))
      have HB5 : Hid (n₀ ≤ wr.heap.size) := Lib.hid (Nat.le_trans HB.out HNX.out.size)
      clear hJs
      gi_wp2_with fail
      refine ⟨trivial, ?_⟩
      clear c0 c1 c2 c3 c4 c5 c6 c7 c8 c9 c10 c11 c12
      generalize wr.alloc (.cells (itCells x) 52) = w1 at HJa S5 HN1 ⊢
      generalize wr.heap.size = g5 at S5 HB5 ⊢
      have HE := Lib.hid (may_le HLx.out)
      refine (callsIn_wide.2 (Spn.to_any (sp_of HLx.out) _)).mono ?_
      rintro e' w2 ⟨rfl, rfl⟩
      gi_wp2_with fail
      refine ⟨trivial, ?_⟩
      refine (callsIn_wide.2 (after_any x.b (by have := HE.out; omega) (by have := HE.out; omega) w1)).mono ?_
      rintro e' w2 ⟨r, d, rfl, hr, hb⟩
      have HR : Hid (PartsAt w2 n₀ r (aft x.b)) := Lib.hid (hr.imp id fun ⟨g, cs, e, hn, hs, hp⟩ => ⟨g, cs, e, by have := HN1.out.size; have := HB.out; omega, hs, hp⟩)
      have HN2 : Hid (KeptP n₀ B W w2) := Lib.hid (HN1.out.trans (KeptP.below hb))
      have HJ2 := Lib.hid (HJ.out pre w1 w2 none HJa.out ⟨hb.os, hb.tape, hb.output, hb.size, fun k hk _ => hb.block k hk⟩ (fun r e => by cases e))
      have bs := HN2.out.cell HG.out.1 HG.out.2.1 HCS.out
      have lbs := World.block_lt_of_cell? _ _ bs
      clear hr hb HN1 HJa S5
      have hwr := IntWalk.i64_in ((k : Int) + 1) (by omega)
      gi_upto_if 27 with fail
      gi_cut [6] from 27 (fun s6 wc => ∃ r d, s6 = .slice r (partsF xs k).length d ∧ Hid (PartsAt wc n₀ r (partsF xs k)) ∧ Hid (KeptP n₀ B W wc) ∧ J pre wc)
      case first =>
        by_cases hn : k + 1 < xs.length
        · have hyt : xs[k + 1]? = some xs[k + 1] := List.getElem?_eq_getElem hn
          obtain ⟨y, hy⟩ : ∃ y, xs[k + 1]? = some y := ⟨_, hyt⟩
          have HPS := Lib.hid (parts_some HXT.out hy)
          have HLy := Lib.hid (HL.out y (List.mem_of_getElem? hy))
          obtain ⟨o', e', d0, d1, _⟩ := HC.out (k + 1) _ hy
          injection e' with e'; injection e' with _ e'; subst e'
          have d1 := HN2.out.cell HG.out.2.2.1 HG.out.2.2.2 d1
          have k2 : (k : Int) + 1 < (xs.length : Int) := by omega
          have k3 : (0 : Int) ≤ (k : Int) + 1 := by omega
          have HE2 := Lib.hid (may_le HLy.out)
          clear d0 hy hyt hn
          gi_wp2_with fail
          refine ⟨trivial, ?_⟩
          refine (callsIn_wide.2 (Spn.from_any (sp_of HLy.out) _)).mono ?_
          rintro e' w3 ⟨rfl, rfl⟩
          gi_wp2_with fail
          refine ⟨trivial, ?_⟩
          refine (callsIn_wide.2 (between_any x.b y.a (by have := HE.out; omega) (by have := HE.out; omega) (by have := HE2.out; omega) (by have := HE2.out; omega) w2)).mono ?_
          rintro e' w3 ⟨r2, d2, rfl, hr, hb⟩
          have HR2 : Hid (PartsAt w3 n₀ r2 (partsF xs k)) := Lib.hid (by
            rw [HPS.out]
            exact hr.imp id fun ⟨g, cs, e, hn, hs, hp⟩ => ⟨g, cs, e, by have := HN2.out.size; have := HB.out; omega, hs, hp⟩)
          have HN3 : Hid (KeptP n₀ B W w3) := Lib.hid (HN2.out.trans (KeptP.below hb))
          have HJ3 := Lib.hid (HJ.out pre w2 w3 none HJ2.out ⟨hb.os, hb.tape, hb.output, hb.size, fun k hk _ => hb.block k hk⟩ (fun r e => by cases e))
          rw [← HPS.out]
          clear hr hb
          gi_wp2_with fail
          gi_meet
          case rel => exact ⟨_, _, rfl, HR2, HN3, HJ3.out⟩
        · have HPS := Lib.hid (parts_none HXT.out (List.getElem?_eq_none (by omega)))
          have k2 : ¬ ((k : Int) + 1 < (xs.length : Int)) := by omega
          rw [← HPS.out] at HR
          clear hn
          gi_wp2_with fail
          gi_meet
          case rel => exact ⟨r, d, congrArg (fun l => Value.slice r (List.length l) d) HPS.out.symm, HR, HN2, HJ2.out⟩
      case rest =>
        obtain ⟨r2, d2, rfl, HR2, HN3, hJ3⟩ := hcut
        clear bs lbs HR HN2 HJ2 hwr
        have HPL := Lib.hid (parts_len xs k)
        have HPB := Lib.hid (parts_bound HL.out k)
        have HP0 : Hid (pre = preF xs k 0) := Lib.hid (by rw [pre_zero]; exact HP.out)
        have i4 : ((partsF xs k).length : Int) ≤ 4 := by have := HPL.out; omega
        gi_wp2_with fail
        gi_loopw [39] (fun v39 wr => ∃ (j : Nat) (pre : List (Int × Int)), j ≤ (partsF xs k).length ∧ v39 = .int .i64 (j : Nat) ∧ Hid (pre = preF xs k j) ∧ J pre wr ∧ Hid (PartsAt wr n₀ r2 (partsF xs k)) ∧ Hid (KeptP n₀ B W wr))
          (fun v39 _ => (partsF xs k).length - (intOf v39).toNat)
        case atStart => exact ⟨0, pre, Nat.zero_le _, rfl, HP0, hJ3, HR2, HN3⟩
        case round =>
          obtain ⟨j, pre, hj, rfl, HP, hJs, HRJ, HNX⟩ := hrel
          by_cases hjl : j < (partsF xs k).length
          · have hpt : (partsF xs k)[j]? = some (partsF xs k)[j] := List.getElem?_eq_getElem hjl
            have HPT := Lib.hid hpt
            have HBD := Lib.hid (HPB.out _ (List.getElem_mem hjl))
            obtain ⟨g2, o2, rfl, lg2, d0, d1⟩ := pr_at HRJ.out.lay hpt
            generalize (partsF xs k)[j] = q at HPT HBD d0 d1
            have j1 : (j : Int) < ((partsF xs k).length : Int) := by omega
            have j0 : (0 : Int) ≤ (j : Int) := by omega
            have HJL := Lib.hid hjl
            have HJa := Lib.hid (HJ.out pre wr (wr.alloc (.cells #[.int .i64 q.1, .int .i64 q.2] 98)) none hJs (World.grownBy_alloc _ _ _) (fun r e => by cases e))
            have HRa := Lib.hid (HRJ.out.below (one_low wr (.cells #[.int .i64 q.1, .int .i64 q.2] 98)))
            have HNa : Hid (KeptP n₀ B W (wr.alloc (.cells #[.int .i64 q.1, .int .i64 q.2] 98))) := Lib.hid (HNX.out.trans (KeptP.below (one_low _ _)))
            clear hpt hjl hj hJs
            have lb8 : Hid (wr.heap.size < (wr.alloc (.cells #[.int .i64 q.1, .int .i64 q.2] 98)).heap.size) := Lib.hid (by simp)
            gi_upto_region 10 with fail
            have e0 : (wr.alloc (.cells #[.int .i64 q.1, .int .i64 q.2] 98)).cell? ⟨wr.heap.size, 0, none⟩ = some (.int .i64 q.1) := (Sits.new wr 98 _).cell 0
            have e1 : (wr.alloc (.cells #[.int .i64 q.1, .int .i64 q.2] 98)).cell? ⟨wr.heap.size, 1, none⟩ = some (.int .i64 q.2) := (Sits.new wr 98 _).cell 1
            generalize wr.alloc (.cells #[.int .i64 q.1, .int .i64 q.2] 98) = w5 at HJa HRa HNa lb8 e0 e1 ⊢
            generalize wr.heap.size = g8 at lb8 e0 e1 ⊢
            have l8 := lb8.out
            cases hm : mayP q
            · have HPN := Lib.hid ((pre_no HPT.out hm).symm)
              have HOF := Lib.hid (of_no (a := q.1) (b := q.2) (by have := HBD.out; omega) (by have := HBD.out; omega) hm w5)
              clear hm
              gi_wp2_with fail
              refine ⟨trivial, ?_⟩
              refine (callsIn_wide.2 HOF.out).mono ?_
              rintro e' w6 ⟨rfl, rfl⟩
              clear e0 e1 d0 d1
              gi_wp2_with fail
              refine ⟨fun _ h => (by cases h), ?_⟩
              gi_wp2_with fail
              go_roundw
              case rel => exact ⟨j + 1, pre, HJL.out, rfl, Lib.hid (HP.out.trans HPN.out), HJa.out, HRa, HNa⟩
              case measure => have := HJL.out; simp [intOf]; omega
            · have HPY := Lib.hid (pre_yes HPT.out hm)
              have HOF := Lib.hid (of_yes (a := q.1) (b := q.2) (by have := HBD.out; omega) (by have := HBD.out; omega) hm w5)
              obtain ⟨fn, tmps, assign, body, hy, hR⟩ := hY pre q w5 HJa.out hm (by rw [HP.out]; have := pre_len xs k j; have := HKL.out; omega)
              clear hm
              gi_wp2_with fail
              refine ⟨trivial, ?_⟩
              refine (callsIn_wide.2 HOF.out).mono ?_
              rintro e' w6 ⟨rfl, rfl⟩
              clear e0 e1 d0 d1 l8
              gi_wp2_with fail
              refine hR.mono ?_
              rintro e2 W3 (⟨rfl, hJ3, hk3⟩ | ⟨rfl, hJx3⟩)
              · have HR3 := Lib.hid (HRa.out.kept hk3 (Nat.le_refl _))
                have HN3 := Lib.hid (HNa.out.trans hk3)
                have HJ3 := Lib.hid hJ3
                clear hy hR hJ3 hk3
                gi_wp2_with fail
                go_roundw
                case rel => exact ⟨j + 1, pre ++ [q], HJL.out, rfl, Lib.hid (by rw [HPY.out, HP.out]), HJ3.out, HR3, HN3⟩
                case measure => have := HJL.out; simp [intOf]; omega
              · have HTK : Hid (∃ n, pre ++ [q] = (allF xs).take n) := Lib.hid (by
                  refine ⟨(pre ++ [q]).length, ?_⟩
                  have e : pre ++ [q] = preF xs k (j + 1) := by rw [HPY.out, HP.out]
                  rw [e]
                  exact List.prefix_iff_eq_take.1 (pre_prefix HKL.out))
                clear hy hR
                gi_wp2_with fail
                refine bodyPost_ret (results_none rfl _ _ _) rfl ?_
                exact ⟨⟨_, rfl⟩, .inr ⟨pre ++ [q], HTK.out, hJx3⟩⟩
          · obtain rfl : j = (partsF xs k).length := by omega
            have k4 : ¬ (((partsF xs k).length : Int) < ((partsF xs k).length : Int)) := by omega
            have HPA : Hid (pre = uptoF xs (k + 1)) := Lib.hid (HP.out.trans (pre_all xs k))
            clear hjl hj
            gi_wp2_with fail
            go_roundw
            case rel => exact ⟨k + 1, pre, HKL.out, rfl, HPA, hJs, HNX⟩
            case measure => have := HKL.out; simp [intOf]; omega
    · obtain rfl : k = xs.length := by omega
      have k1 : ¬ ((xs.length : Int) < (xs.length : Int)) := by omega
      clear hlt hk
      gi_wp2_with fail
      go_end0
      have e : pre = allF xs := HP.out
      exact ⟨⟨_, rfl⟩, .inl (e ▸ hJs)⟩
/-- A span that may be. -/
abbrev Pl := { r : Int × Int // mayP r = true }
abbrev encP (x : Pl) : Array Value := #[spanV x.1]
theorem each1_pl (l Bs B n₀ g c : Nat) (p : Option Addr) (xs : List It) (hx : xs.length ≤ 1000) (hBs : Bs < n₀) (hBs' : Bs ≠ B) (hg : g < n₀) (hg' : g ≠ B) (hL : ∀ x ∈ xs, MayX x) (J Jx : List Pl → World → Prop) (W : World) (hB : n₀ ≤ W.heap.size) (hJ : AbidesFrom W.heap.size J)
    (hY : ∀ pre x W, J pre W → pre.length < 4 * xs.length + 4 → YieldAt Fence.wide 3 Try.prog l (encP x) W fun e W' =>
      (e = .returned (.bool true) ∧ J (pre ++ [x]) W' ∧ KeptP n₀ B W W') ∨ (e = .returned (.bool false) ∧ Jx (pre ++ [x]) W'))
    (hcs : W.cell? ⟨Bs, 0, none⟩ = some (.slice p xs.length c)) (hc : ∀ k x, xs[k]? = some x → ∃ o, p = some ⟨g, o, none⟩ ∧ ItAt W g (o + k * 13) x) (h0 : J [] W) :
    CallsIn Fence.wide 4 Try.prog 50 #[.func (.yield l) #[] #[], .pointer (some ⟨Bs, 0, none⟩)] W fun e W' => (∃ v, e = .returned v) ∧
      ((∃ ys : List Pl, ys.map Subtype.val = allF xs ∧ J ys W') ∨ (∃ pre : List Pl, (∃ k, pre.map Subtype.val = (allF xs).take k) ∧ Jx pre W')) :=
  (each1_in l Bs B n₀ g c p xs hx hBs hBs' hg hg' hL (fun pre W => ∃ ys : List Pl, ys.map Subtype.val = pre ∧ J ys W) (fun pre W => ∃ ys : List Pl, ys.map Subtype.val = pre ∧ Jx ys W) W hB
    (fun _ W W' row ⟨ys, e, h⟩ hg hr => ⟨ys, e, hJ ys W W' row h hg hr⟩)
    (fun pre x W ⟨ys, e, h⟩ hm hl => by
      obtain ⟨fn, tmps, assign, body, hy, hR⟩ := hY ys ⟨x, hm⟩ W h (by rw [← e, List.length_map] at hl; exact hl)
      refine ⟨fn, tmps, assign, body, hy, hR.mono ?_⟩
      rintro e2 W3 (⟨h1, h2, h3⟩ | ⟨h1, h2⟩)
      · exact .inl ⟨h1, ⟨_, by rw [List.map_append, e]; rfl, h2⟩, h3⟩
      · exact .inr ⟨h1, ⟨_, by rw [List.map_append, e]; rfl, h2⟩⟩)
    hcs hc ⟨[], rfl, h0⟩).mono (by
      rintro e W' ⟨hv, ⟨ys, rfl, zs, h1, h2⟩ | ⟨pre, ⟨k, rfl⟩, zs, h1, h2⟩⟩
      · exact ⟨hv, .inl ⟨zs, h1, h2⟩⟩
      · exact ⟨hv, .inr ⟨zs, ⟨k, h1⟩, h2⟩⟩)
theorem each_any (p : Option Addr) (n c : Nat) (w : World) :
    Calls Try.prog 40 #[.slice p n c] w fun e w' => e = .returned (.func (.func 50) #[] #[.pointer (some ⟨w.heap.size, 0, none⟩)]) ∧ w' = w.alloc (.cells #[.slice p n c] 25) := by
  go_enter Try.func40, Try.ntmps40
  go_wp2_with fail
  go_ret
  exact ⟨rfl, rfl⟩
theorem each1_enters : EntersI 50 := enters_of Try.func50 (by kernel_rfl) rfl
end Go.Proofs.Ytgkgpehjedmejaa.Plc
namespace Go.Proofs.Ytgkgpehjedmejaa.Plc
open Go.RowKit Go.Shelf Go.Proofs.Ytgkgpehjedmejaa.Mem Go.Proofs.Ytgkgpehjedmejaa.Flow Go.Proofs.Ytgkgpehjedmejaa.Mmr Go.Proofs.Ytgkgpehjedmejaa.Cap
attribute [local go_sem] Oper.semAt_some

theorem wpListIn_append_cut2 {F : Fence} {m₀ : Nat} {P : Program} {t e : TypeId} {size bytes : Nat} (T : RowT P t e size bytes) {ops : Array Oper} {rest : List Oper} {o : Oper} {a : Act} {Q : Exit → Act → World → Prop} (hgd : o.guard = none) (s x : Operand)
    (ho : o.op = .call { callee := .builtin .append, args := #[s, x], argTypes := #[t, t] }) {B : Nat} {w : World} {r : Option Addr} {n d : Nat} {xs : List Value} (hs : a.eval s = .slice r n d) (h : Cut2 e size B w r n d xs) (hB : B ≤ w.heap.size)
    (q : Option Addr) (m c : Nat) (ys : List Value) (hx : a.eval x = .slice q m c) (hy : ys.length = m * size) (hq : Lay w q ys) (h1 : ∀ u ∈ ys, u.oneCell' = true) (h63 : n + m ≤ maxLen) (hb : (n + m) * bytes ≤ 140737488355328)
    (hk : ∀ r' d' w', (w.grownBy w' (Value.slice r n d).ownBlock ∧ (∀ g o s, r' = some ⟨g, o, s⟩ → (Value.slice r n d).ownBlock = some g ∨ w.heap.size ≤ g)) → Below B w w' → Cut2 e size B w' r' (n + m) d' (xs ++ ys) → wpListIn F m₀ P ops Q rest (a.put o.dst (.slice r' (n + m) d')) w') : wpListIn F m₀ P ops Q (o :: rest) a w := by
  refine wpListIn_plain hgd fun K hK => ?_
  obtain ⟨r', d', w', hr, hgr, hbl, hc⟩ := run_append_cut2 T o.type h hB q m c ys hy hq h1 h63 hb
  unfold Oper.wpIn
  refine ⟨?_, ?_⟩
  · simp [Oper.about, ho, resolve, Target.leads, Sem.run_pure]
  · rw [Oper.semAt_plain F _ _ (by rw [ho]; intro c hc'; cases hc')]
    simp [execOp, ho, resolve, invoke, builtin, hs, hx, hr, Result.andThen]
    exact hK _ _ (hk r' d' w' hgr hbl hc)
theorem rowSp : RowT Try.prog 34 47 1 16 := rowT_of (z := .complex .f64 0 0) Try.underlying34 (by kernel_rfl) rfl (by decide)
theorem sp_one (l : List (Int × Int)) : ∀ u ∈ cellsOf spL l, u.oneCell' = true := fun u hu => by
  unfold cellsOf at hu
  obtain ⟨x, _, hx⟩ := List.mem_flatMap.1 hu
  simp only [spL, List.mem_cons, List.not_mem_nil, or_false] at hx
  rw [hx]; rfl
/-- A function value that tells yes or no of a span. -/
structure TellsP (F : FuncId) (fr c : Array Value) (φ : Int × Int → Bool) (J : World → Prop) : Prop where
  enters : EntersI F
  keep : ∀ w w', J w → Below w.heap.size w w' → J w'
  call : ∀ (r : Int × Int) (w : World), mayP r = true → J w → Calls Try.prog F (fr.push (spanV r) ++ c) w (Made (.returned (.bool (φ r))) w)
theorem cut2_walk {e : TypeId} {size B : Nat} {W W' : World} {r : Option Addr} {n d : Nat} {xs : List Value} (h : Cut2 e size B W r n d xs) {row : Option Nat} (hg : W.grownBy W' row) (hr : ∀ k, row = some k → ∃ o : Obj, W.heap[k]? = some o ∧ o.isCells = false) : Cut2 e size B W' r n d xs :=
  cut2_of ⟨h.own.1, h.own.2.imp id fun ⟨g, cap, cur, e1, e2, e3, e4⟩ => ⟨g, cap, cur, e1, e2, (hg.block g (lt_of_block e3) (fun e' => by
    obtain ⟨o, ho, hc⟩ := hr g e'.symm
    rw [e3] at ho
    injection ho with ho
    subst ho
    simp [Obj.isCells] at hc)).trans e3, e4⟩⟩
structure ThAt (w : World) (n₀ : Nat) (fv : Value) (r : Option Addr) (d : Nat) (l : List (Int × Int)) (W : World) : Prop where
  at3 : Sits W w.heap.size 65 #[fv]
  at5 : Sits W (w.heap.size + 1) 34 #[.slice r l.length d]
  cut : Cut2 47 1 n₀ W r l.length d (cellsOf spL l)
  low : Below w.heap.size w W
section
variable {w W W' : World} {n₀ d : Nat} {fv : Value} {r : Option Addr} {l : List (Int × Int)}
theorem ThAt.grown (h : ThAt w n₀ fv r d l W) (hb : Below W.heap.size W W') : ThAt w n₀ fv r d l W' :=
  ⟨h.at3.below hb h.at3.lt, h.at5.below hb h.at5.lt, h.cut.below hb, h.low.trans (hb.mono h.low.size)⟩
theorem ThAt.walk (h : ThAt w n₀ fv r d l W) {row : Option Nat} (hg : W.grownBy W' row) (hr : ∀ k, row = some k → w.heap.size ≤ k ∧ ∃ o : Obj, W.heap[k]? = some o ∧ o.isCells = false) : ThAt w n₀ fv r d l W' := by
  have far : ∀ (g : Nat) (t : TypeId) (cs : Array Value), Sits W g t cs → Sits W' g t cs := fun g t cs hs => hs.grown hg fun e => by
    obtain ⟨_, o, ho, hc⟩ := hr g e
    unfold Sits at hs
    rw [hs] at ho
    injection ho with ho
    subst ho
    simp [Obj.isCells] at hc
  exact ⟨far _ _ _ h.at3, far _ _ _ h.at5, cut2_walk h.cut hg (fun k e => (hr k e).2), h.low.grown hg h.low.size (fun k e => (hr k e).1)⟩
end
theorem keeps_grown {B : Nat} {W W' : World} {row : Option Nat} (h : W.grownBy W' row) (hr : ∀ k, row = some k → ∃ cs t fz, W.heap[k]? = some (.cells cs t fz)) : KeepsFrom B W W' :=
  ⟨h.size, fun k o _ hk ho => (h.block k (Array.getElem?_eq_some_iff.1 hk).1 (fun e => by
    obtain ⟨cs, t, fz, hc⟩ := hr k e.symm
    rw [hk] at hc; injection hc with hc; subst hc; simp [Obj.isCells] at ho)).trans hk⟩
theorem cut2_block {e : TypeId} {size B : Nat} {W : World} {r : Option Addr} {n d : Nat} {xs : List Value} (h : Cut2 e size B W r n d xs) : ∀ k, (Value.slice r n d).ownBlock = some k → ∃ cs, W.heap[k]? = some (.cells cs e (0, 0)) := fun k hk => by
  obtain ⟨_, h | ⟨g, cap, cur, e1, _, h3, _⟩⟩ := h.own
  · rw [h.1] at hk; simp [Value.ownBlock] at hk
  · rw [e1] at hk; simp [Value.ownBlock] at hk; subst hk; exact ⟨cur, h3⟩
theorem kept_append {n₀ B : Nat} {W W' : World} {r : Option Addr} {n d : Nat} {xs : List Value} (h : Cut2 47 1 n₀ W r n d xs) (hg : W.grownBy W' (Value.slice r n d).ownBlock) (hb : Below n₀ W W') : KeptP n₀ B W W' :=
  ⟨hg.size, fun k o hk _ e _ => (hb.block k hk).trans e, fun k cs t fz _ e ht => (hg.block k (Array.getElem?_eq_some_iff.1 e).1 (fun e' => by
    obtain ⟨cs', hc⟩ := cut2_block h k e'.symm
    rw [e] at hc; injection hc with hc; injection hc with _ hc _; exact ht hc)).trans e⟩
theorem kept_cell {n₀ B : Nat} (hB : B < n₀) (W : World) (v : Value) : KeptP n₀ B W (W.setCell ⟨B, 0, none⟩ v) :=
  ⟨by simp [World.setCell], fun k _ _ hk e _ => (Below.heap_setCell W ⟨B, 0, none⟩ v k hk).trans e, fun k _ _ _ hk e _ => (Below.heap_setCell W ⟨B, 0, none⟩ v k (by show k ≠ B; omega)).trans e⟩
theorem cut2_far {e : TypeId} {size n₀ k : Nat} {W : World} {r : Option Addr} {n d : Nat} {xs : List Value} (h : Cut2 e size n₀ W r n d xs) (hk : k < n₀) (v : Value) : Cut2 e size n₀ (W.setCell ⟨k, 0, none⟩ v) r n d xs :=
  cut2_of ⟨h.own.1, h.own.2.imp id fun ⟨g, cap, cur, e1, e2, e3, e4⟩ => ⟨g, cap, cur, e1, e2, (Below.heap_setCell W ⟨k, 0, none⟩ v g (by show g ≠ k; omega)).trans e3, e4⟩⟩
theorem ThAt.put {w W W' : World} {n₀ d d' : Nat} {fv : Value} {r r' : Option Addr} {l : List (Int × Int)} {q : Int × Int} (h : ThAt w n₀ fv r d l W) (hn : w.heap.size + 2 ≤ n₀) (hb : Below n₀ W W') (hc : Cut2 47 1 n₀ W' r' (l.length + 1) d' (cellsOf spL l ++ cellsOf spL [q])) :
    ThAt w n₀ fv r' d' (l ++ [q]) (W'.setCell ⟨w.heap.size + 1, 0, none⟩ (.slice r' (l.length + 1) d')) := by
  have el : (l ++ [q]).length = l.length + 1 := by simp
  refine ⟨(h.at3.below hb (by omega)).far (show w.heap.size ≠ w.heap.size + 1 by omega) _, ?_, ?_, (h.low.trans (hb.mono (by omega))).setCell (p := ⟨w.heap.size + 1, 0, none⟩) (by show w.heap.size ≤ w.heap.size + 1; omega) _⟩
  · rw [el]; exact (h.at5.below hb (by omega)).put 0 _
  · rw [el, cells_append]; exact cut2_far hc (by omega) _
/-- A row of spans came back. -/
def GivesS (l : List (Int × Int)) (w : World) (e : Ending) (w' : World) : Prop := ∃ r d, e = .returned (.slice r l.length d) ∧ Lay w' r (cellsOf spL l) ∧ Below w.heap.size w w'
theorem filt_snoc (φ : Int × Int → Bool) (l : List (Int × Int)) (r : Int × Int) : (l ++ [r]).filter φ = l.filter φ ++ if φ r = true then [r] else [] := by
  rw [List.filter_append]
  congr 1
  by_cases h : φ r = true
  · rw [if_pos h, List.filter_cons_of_pos h, List.filter_nil]
  · rw [if_neg h, List.filter_cons_of_neg h, List.filter_nil]
set_option maxRecDepth 100000 in
set_option maxHeartbeats 4000000 in
theorem those_any {F : FuncId} {fr cs : Array Value} {φ : Int × Int → Bool} {J : World → Prop} (S : TellsP F fr cs φ J) (xs : List It) (p : Option Addr) (c : Nat) (w : World) (hx : xs.length ≤ 1000) (hL : ∀ x ∈ xs, MayX x) (hI : Its w p xs) (hJ : J w) :
    Calls Try.prog 19 #[.slice p xs.length c, .func (.func F) fr cs] w (GivesS ((allF xs).filter φ) w) := by
  have en := S.enters
  unfold EntersI at en
  have HS := Lib.hid S
  have HI := Lib.hid hI
  have HJ := Lib.hid hJ
  have HL := Lib.hid hL
  have HX := Lib.hid hx
  obtain ⟨g, hg⟩ : ∃ g, g < w.heap.size + 1 ∧ g ≠ w.heap.size + 1 ∧ ∀ n x, xs[n]? = some x → ∃ o, p = some ⟨g, o, none⟩ := by
    cases p with
    | none => exact ⟨0, by omega, by omega, fun n x hx => by obtain ⟨_, _, e, _⟩ := hI n x hx; cases e⟩
    | some a =>
      by_cases hx0 : 0 < xs.length
      · obtain ⟨g, o, e, hg, _⟩ := hI 0 _ (List.getElem?_eq_getElem hx0)
        exact ⟨g, by omega, by omega, fun _ _ _ => ⟨o, e⟩⟩
      · exact ⟨0, by omega, by omega, fun n x hx => by have := (List.getElem?_eq_some_iff.1 hx).1; omega⟩
  have HGW := Lib.hid hg
  have HLEN : Hid (∀ k, ((allF xs).take k).length ≤ 4000) := Lib.hid fun k => by
    rw [List.length_take]
    have := upto_len xs xs.length
    unfold allF
    omega
  clear S hI hJ hL hx hg
  refine (callsIn_wide (n := 5)).1 ?_
  refine callsIn_of_wp_marks Try.func19 rfl trivial ?_ rfl
  simp only [Try.ntmps19, List.size_toArray, List.length_cons, List.length_nil, Nat.reduceAdd, Nat.reduceSub, Array.replicate_succ, Array.replicate_zero, List.push_toArray, List.append_toArray, List.nil_append, List.cons_append]
  have H0 : Hid (ThAt w (w.heap.size + 2) (.func (.func F) fr cs) none 0 [] ((w.alloc (.cells #[.func (.func F) fr cs] 65)).alloc (.cells #[.slice none 0 0] 34))) := Lib.hid
    ⟨(Sits.new _ _ _).alloc _, Sits.made (by simp) _ _, nil_cut _ _ _ _, two_low _ _ _⟩
  gi_upto_region 2 with fail
  generalize (w.alloc (.cells #[.func (.func F) fr cs] 65)).alloc (.cells #[.slice none 0 0] 34) = w1 at H0 ⊢
  gi_wp2_with fail
  refine ⟨trivial, ?_⟩
  refine (callsIn_wide.2 (each_any _ _ _ _)).mono ?_
  rintro e w2 ⟨rfl, rfl⟩
  have HSB := Lib.hid (Sits.new w1 25 #[.slice p xs.length c])
  have H2 := Lib.hid (H0.out.grown (one_low w1 (.cells #[.slice p xs.length c] 25)))
  have HSZ : Hid (w.heap.size + 2 ≤ w1.heap.size) := Lib.hid (by have := H0.out.at5.lt; omega)
  have HSZ2 : Hid ((w1.alloc (.cells #[.slice p xs.length c] 25)).heap.size = w1.heap.size + 1) := Lib.hid (by simp)
  clear H0
  gi_wp2
  generalize w1.alloc (.cells #[.slice p xs.length c] 25) = W0 at HSB H2 HSZ2 ⊢
  generalize w1.heap.size = sb at HSB HSZ HSZ2 ⊢
  have HII : Hid (∀ n x, xs[n]? = some x → ∃ o, p = some ⟨g, o, none⟩ ∧ ItAt W0 g (o + n * 13) x) := Lib.hid fun n x hx => by
    obtain ⟨g', o', e', _, hc⟩ := (HI.out.below H2.out.low).there hx
    obtain ⟨o, e⟩ := HGW.out.2.2 n x hx
    rw [e] at e'
    injection e' with e'; injection e' with e1 e2; subst e1 e2; exact ⟨_, e, hc⟩
  have H3 : Hid (ThAt w W0.heap.size (.func (.func F) fr cs) none 0 [] W0) := Lib.hid ⟨H2.out.at3, H2.out.at5, nil_cut _ _ _ _, H2.out.low⟩
  clear H2
  refine wpIn_rangeFunc_ownH (α := Pl) rfl (by decide) (gf := 50) (lb := #[.pointer (some ⟨sb, 0, none⟩)]) rfl trivial each1_enters
    (encs := encP) (Kp := KeptP W0.heap.size (w.heap.size + 1)) (S := fun ys => ys.map Subtype.val = allF xs) (Sp := fun pre => ∃ k, pre.map Subtype.val = (allF xs).take k) (N := 4 * xs.length + 4) (w0 := W0)
    (fun l Jr Jx W hW hJ _ hY h0 => each1_pl l sb (w.heap.size + 1) W0.heap.size g c p xs HX.out (by have := HSZ2.out; omega) (by have := HSZ.out; omega) (by have := HGW.out.1; have := HSZ.out; have := HSZ2.out; omega) HGW.out.2.1 HL.out Jr Jx W hW.size hJ hY
          ((hW.cell (p := ⟨sb, 0, none⟩) HSB.out.lt).trans (HSB.out.cell 0)) (fun n x hx => by obtain ⟨o, e, h⟩ := HII.out n x hx; exact ⟨o, e, itAt_below h hW (by have := HGW.out.1; have := HSZ.out; have := HSZ2.out; omega)⟩) h0)
    (fun h h' => h.trans h') (fun W l o1 o' _ h2 h3 _ => KeptP.put _ _ W l o1 o' h2 h3) (Below.refl _ _) (fun _ => rfl)
    (fun pre W => ∃ r d, ThAt w W0.heap.size (.func (.func F) fr cs) r d ((pre.map Subtype.val).filter φ) W ∧ W0.heap.size ≤ W.heap.size)
    (fun q pre W => False)
    (fun s W W' row ⟨r, d, h1, h2⟩ hg hr => ⟨r, d, h1.walk hg (fun k e => ⟨by have := (hr k e).1; have := HSZ.out; have := HSZ2.out; omega, (hr k e).2⟩), Nat.le_trans h2 hg.size⟩)
    (fun q s W W' row h _ _ => h)
    ⟨none, 0, H3.out, Nat.le_refl _⟩
    (fun x a' W => FrD 18 [(3, .pointer (some ⟨w.heap.size, 0, none⟩)), (5, .pointer (some ⟨w.heap.size + 1, 0, none⟩)), (6, spanV x.1)] [] a')
    (fun x a' _ X Y row hs _ _ => hs)
    ?assign ?body ?done ?stop
  case assign =>
    rintro l pre x W K hI hK
    gi_wp2
    refine hK _ _ (KeepsFrom.refl _ _) (KeptP.refl _ _ _) hI ?_
    exact ⟨rfl, rfl, by simp only [List.mem_cons, List.not_mem_nil, or_false, forall_eq_or_imp, forall_eq]; exact ⟨rfl, rfl, rfl⟩⟩
  case body =>
    rintro l pre x ⟨T2, D2⟩ W hl ⟨lr, hlr⟩ ⟨r, d, hT, hsz⟩ hF hlt
    obtain ⟨hs2, hdf, hat⟩ := hF
    simp only [List.mem_cons, List.not_mem_nil, or_false, forall_eq_or_imp, forall_eq] at hs2 hdf hat
    obtain ⟨q0, q1, q2⟩ := hat
    subst hdf
    have hsp := spread T2 18 hs2
    simp only [List.range, List.range.loop, List.map_cons, List.map_nil, q0, q1, q2] at hsp
    rw [hsp]
    clear hsp hs2 q0 q1 q2
    have HT := Lib.hid hT
    have HSW := Lib.hid hsz
    have HN : Hid (((pre.map Subtype.val).filter φ).length ≤ 4004) := Lib.hid (by
      have := List.length_filter_le φ (pre.map Subtype.val)
      rw [List.length_map] at this
      have := HX.out
      omega)
    have HC := Lib.hid (HS.out.call x.1 W x.2 (HS.out.keep _ _ HJ.out HT.out.low))
    have HFS := Lib.hid (filt_snoc φ (pre.map Subtype.val) x.1)
    have HMP : Hid ((pre ++ [x]).map Subtype.val = pre.map Subtype.val ++ [x.1]) := Lib.hid (by rw [List.map_append]; rfl)
    have b3 : W.cell? ⟨w.heap.size, 0, none⟩ = some (.func (.func F) fr cs) := HT.out.at3.cell 0
    have l3 := HT.out.at3.lt
    clear hT hsz hl hlr hlt
    generalize x.1 = q at HC HFS HMP ⊢
    generalize (pre.map Subtype.val).filter φ = ls at HT HN HFS ⊢
    gi_wp2_with fail
    refine ⟨trivial, ?_⟩
    refine (CallsIn.inRound l (callsIn_wide.2 HC.out)).mono ?_
    rintro e W2 ⟨rfl, hb⟩
    have HT2 := Lib.hid (HT.out.grown hb)
    have HB2 := Lib.hid hb
    clear hb HC b3 l3
    cases hφ : φ q
    · have HR : Hid (((pre ++ [x]).map Subtype.val).filter φ = ls) := Lib.hid (by rw [HMP.out, HFS.out, hφ]; simp)
      gi_wp2_with fail
      exact ⟨keeps_below HB2.out, KeptP.below HB2.out, r, d, by rw [HR.out]; exact HT2.out, Nat.le_trans HSW.out HB2.out.size⟩
    · have HR : Hid (((pre ++ [x]).map Subtype.val).filter φ = ls ++ [q]) := Lib.hid (by rw [HMP.out, HFS.out, hφ]; simp)
      have b5 : W2.cell? ⟨w.heap.size + 1, 0, none⟩ = some (.slice r ls.length d) := HT2.out.at5.cell 0
      have l5 := HT2.out.at5.lt
      have HCu := Lib.hid (HT2.out.cut.below (one_low W2 (.cells #[spanV q] 47)))
      have HLQ : Hid (Lay (W2.alloc (.cells #[spanV q] 47)) (some ⟨W2.heap.size, 0, none⟩) (cellsOf spL [q])) := Lib.hid (lay_new (Sits.new W2 _ _) ⟨[], rfl⟩)
      have HSA : Hid (W0.heap.size ≤ (W2.alloc (.cells #[spanV q] 47)).heap.size) := Lib.hid (by have := HSW.out; have := HB2.out.size; simp; omega)
      clear hφ
      gi_wp2_with (refine wpListIn_append_cut2 rowSp rfl _ _ rfl (B := W0.heap.size) (r := r) (n := ls.length) (d := d) (xs := cellsOf spL ls) rfl HCu.out HSA.out (some ⟨W2.heap.size, 0, none⟩) 1 1 (cellsOf spL [q]) rfl rfl HLQ.out (sp_one [q]) (by unfold maxLen; have := HN.out; omega) (by have := HN.out; omega) ?_)
      intro r' d' w' hgr hfar hbl hc
      have HNN : Hid (w.heap.size + 2 ≤ W0.heap.size) := Lib.hid (by have := HSZ.out; have := HSZ2.out; omega)
      have HTa := Lib.hid (HT2.out.grown (one_low W2 (.cells #[spanV q] 47)))
      have H5 := Lib.hid (HTa.out.at5.below hbl (by have := HNN.out; omega))
      have HT3 := Lib.hid (HTa.out.put HNN.out hbl hc)
      have HKF : Hid (KeepsFrom W0.heap.size W (w'.setCell ⟨w.heap.size + 1, 0, none⟩ (.slice r' (ls.length + 1) d'))) := Lib.hid (((keeps_below HB2.out).trans (keeps_below (one_low _ _))).trans ((keeps_grown hgr (fun k e => by
        obtain ⟨cs, hcs⟩ := cut2_block HCu.out k e
        exact ⟨cs, _, _, hcs⟩)).trans ((KeepsOthers.setCell _ _ _).from _)))
      have HKP : Hid (KeptP W0.heap.size (w.heap.size + 1) W (w'.setCell ⟨w.heap.size + 1, 0, none⟩ (.slice r' (ls.length + 1) d'))) := Lib.hid (((KeptP.below HB2.out).trans (KeptP.below (one_low _ _))).trans ((kept_append HCu.out hgr hbl).trans (kept_cell (by have := HNN.out; omega) _ _)))
      have HSV : Hid (W0.heap.size ≤ (w'.setCell ⟨w.heap.size + 1, 0, none⟩ (.slice r' (ls.length + 1) d')).heap.size) := Lib.hid (by have := HSA.out; have := hbl.size; simp [World.setCell]; omega)
      clear hgr hfar hbl hc b5 l5
      have b5 : w'.cell? ⟨w.heap.size + 1, 0, none⟩ = some (.slice r ls.length d) := H5.out.cell 0
      have f5 := H5.out.free 0
      gi_wp2_with fail
      exact ⟨HKF.out, HKP.out, r', d', by rw [HR.out]; exact HT3.out, HSV.out⟩
  case done =>
    rintro D ys W hD hS ⟨r, d, hT, hsz⟩ hK
    rw [hS] at hT
    have HT := Lib.hid hT
    have HD := Lib.hid (show w.heap.size + 2 ≤ D by have := HSZ.out; have := HSZ2.out; omega)
    have HK := Lib.hid hK
    clear hT hS hsz hK hD
    obtain ⟨ls, hls⟩ : ∃ ls, (allF xs).filter φ = ls := ⟨_, rfl⟩
    have HLS := Lib.hid hls
    rw [hls] at HT
    clear hls
    have b5 : W.cell? ⟨w.heap.size + 1, 0, none⟩ = some (.slice r ls.length d) := HT.out.at5.cell 0
    have l5 := HT.out.at5.lt
    gi_wp2_with fail
    refine ⟨by simp, .inl ⟨_, _, rfl, run_takeDeferred HK.out, ?_⟩⟩
    refine ⟨.slice r ls.length d, by simp [results, Try.results19, go_sem], ?_⟩
    rw [HLS.out]
    have hw := HT.out.walk (row := some D) (grownBy_putObj' W D (.deferred none)) (fun k e => by cases e; exact ⟨by have := HD.out; omega, _, HK.out, rfl⟩)
    exact ⟨r, d, rfl, hw.cut.lay, hw.low⟩
  case stop =>
    rintro D q pre W hD _ h
    exact h.elim
/-! ### All, Behind -/
theorem yes_tells : TellsP 21 #[] #[] (fun _ => true) (fun _ => True) :=
  ⟨enters_of Try.func21 (by kernel_rfl) rfl, fun _ _ _ _ => trivial, fun r w _ _ => by
    show Calls _ _ #[spanV r] _ _
    go_enter Try.func21, Try.ntmps21
    go_wp2_with fail
    go_ret
    exact ⟨rfl, Below.refl _ _⟩⟩
set_option maxRecDepth 100000 in
theorem from_tells (g : Nat) (t : Int) : TellsP 26 #[] #[.pointer (some ⟨g, 0, none⟩)] (fun r => decide (r.1 = t)) (fun W => Sits W g 3 #[.int .i64 t]) :=
  ⟨enters_of Try.func26 (by kernel_rfl) rfl, fun _ _ h hb => h.below hb h.lt, fun r w hm hs => by
    show Calls _ _ #[spanV r, .pointer (some ⟨g, 0, none⟩)] _ _
    have HC := Lib.hid (fun W => Spn.from_any (Spn.sp_fl hm) W)
    have c0 : w.cell? ⟨g, 0, none⟩ = some (.int .i64 t) := hs.cell 0
    have lg := hs.lt
    have HD := Lib.hid (Bool.beq_eq_decide_eq r.1 t)
    clear hm hs
    go_enter Try.func26, Try.ntmps26
    go_wp2_with fail
    go_quiet (refine quiet_eq (HC.out _))
    go_wp2_with fail
    go_ret
    exact ⟨ret_bool (by rw [← HD.out]), drewN_below (Below.refl _ _) _⟩⟩
set_option maxRecDepth 100000 in
theorem to_tells (g : Nat) (t : Int) : TellsI 25 #[] #[.pointer (some ⟨g, 0, none⟩)] (fun x => decide (x.b = t)) (fun W => Sits W g 3 #[.int .i64 t]) MayX :=
  ⟨enters_of Try.func25 (by kernel_rfl) rfl, fun _ _ h hb => h.below hb h.lt, fun x w hm hs => by
    show Calls _ _ #[itV x, .pointer (some ⟨g, 0, none⟩)] _ _
    have HC := Lib.hid (fun W => Spn.to_any (sp_of hm) W)
    have c0 : w.cell? ⟨g, 0, none⟩ = some (.int .i64 t) := hs.cell 0
    have lg := hs.lt
    have HD := Lib.hid (Bool.beq_eq_decide_eq x.b t)
    clear hm hs
    go_enter Try.func25, Try.ntmps25
    go_wp2_with fail
    go_quiet (refine quiet_eq (HC.out _))
    go_wp2_with fail
    go_ret
    exact ⟨ret_bool (by rw [← HD.out]), drewN_below (one_low _ _) _⟩⟩
theorem listF_may {m : Mm} (h : OkM m) (loc : Int) : ∀ x ∈ listF m loc, MayX x := fun x hx => by
  unfold listF at hx
  split at hx
  · exact h.may _ x hx
  · simp at hx
theorem listF_few {m : Mm} (h : OkM m) (loc : Int) : (listF m loc).length ≤ 40 := by
  unfold listF
  split
  · exact h.few _
  · simp
set_option maxRecDepth 100000 in
theorem all_any (p : Nat → Option Addr) (c : Nat → Nat) (m : Mm) (hO : OkM m) (loc : Int) (w : World) (hH : Hold w p c m) :
    Calls Try.prog 7 #[memV p c m, .int .i64 loc] w (GivesS (allF (listF m loc)) w) := by
  have S0 := Lib.hid (Sits.new w 28 (memCells p c m))
  have HB0 := Lib.hid (one_low w (.cells (memCells p c m) 28))
  have HH := Lib.hid (hH.below (one_low w (.cells (memCells p c m) 28)))
  have HO := Lib.hid hO
  have HFT : Hid ((allF (listF m loc)).filter (fun _ => true) = allF (listF m loc)) := Lib.hid (List.filter_eq_self.2 fun _ _ => rfl)
  clear hO hH
  go_enter Try.func7, Try.ntmps7
  go_upto_region 1 with (fail)
  generalize w.alloc (.cells (memCells p c m) 28) = w0 at S0 HB0 HH ⊢
  have b0 : w0.cell? ⟨w.heap.size, 0, none⟩ = some (.slice (p 0) (m.row 0).length (c 0)) := S0.out.cell 0
  have b1 : w0.cell? ⟨w.heap.size, 1, none⟩ = some (.slice (p 1) (m.row 1).length (c 1)) := S0.out.cell 1
  have b2 : w0.cell? ⟨w.heap.size, 2, none⟩ = some (.slice (p 2) (m.row 2).length (c 2)) := S0.out.cell 2
  have b3 : w0.cell? ⟨w.heap.size, 3, none⟩ = some (.slice (p 3) (m.row 3).length (c 3)) := S0.out.cell 3
  have b4 : w0.cell? ⟨w.heap.size, 4, none⟩ = some (.int .i64 (m.n : Nat)) := S0.out.cell 4
  have lb := S0.out.lt
  go_wp2_with fail
  refine (list_any p c m HO.out loc w0 HH.out).mono ?_
  rintro e w1 ⟨r, d, rfl, hr, hb⟩
  have HT := Lib.hid (those_any yes_tells (listF m loc) r d w1 (by have := listF_few HO.out loc; omega) (listF_may HO.out loc) hr trivial)
  have HB1 := Lib.hid (HB0.out.trans (hb.mono HB0.out.size))
  rw [HFT.out] at HT
  clear hr hb b0 b1 b2 b3 b4 lb HB0 HH
  go_wp2_with fail
  refine HT.out.mono ?_
  rintro e w2 ⟨r2, d2, rfl, hr, hb⟩
  have HR := Lib.hid hr
  have HB2 := Lib.hid (HB1.out.trans (hb.mono HB1.out.size))
  clear hr hb
  go_wp2_with fail
  go_ret
  exact ⟨r2, d2, rfl, HR.out, HB2.out⟩
set_option maxRecDepth 100000 in
set_option maxHeartbeats 1000000 in
theorem behind_any (p : Nat → Option Addr) (c : Nat → Nat) (m : Mm) (hO : OkM m) (loc t : Int) (w : World) (hH : Hold w p c m) :
    Calls Try.prog 9 #[memV p c m, .int .i64 loc, .int .i64 t] w (GivesS (behF (listF m loc) t) w) := by
  have S0 : Hid (Sits ((w.alloc (.cells (memCells p c m) 28)).alloc (.cells #[.int .i64 t] 3)) w.heap.size 28 (memCells p c m)) := Lib.hid ((Sits.new w _ _).alloc _)
  have S5 : Hid (Sits ((w.alloc (.cells (memCells p c m) 28)).alloc (.cells #[.int .i64 t] 3)) (w.heap.size + 1) 3 #[.int .i64 t]) := Lib.hid (Sits.made (by simp) _ _)
  have HB0 := Lib.hid (two_low w (.cells (memCells p c m) 28) (.cells #[.int .i64 t] 3))
  have HH := Lib.hid (hH.below HB0.out)
  have HO := Lib.hid hO
  have HBF : Hid (behF (listF m loc) t = if (listF m loc).any (fun x => decide (x.b = t)) then (allF (listF m loc)).filter (fun r => decide (r.1 = t)) else []) := Lib.hid rfl
  generalize behF (listF m loc) t = out at HBF ⊢
  clear hO hH
  go_enter Try.func9, Try.ntmps9
  go_upto_region 1 with (fail)
  generalize (w.alloc (.cells (memCells p c m) 28)).alloc (.cells #[.int .i64 t] 3) = w0 at S0 S5 HB0 HH ⊢
  have b0 : w0.cell? ⟨w.heap.size, 0, none⟩ = some (.slice (p 0) (m.row 0).length (c 0)) := S0.out.cell 0
  have b1 : w0.cell? ⟨w.heap.size, 1, none⟩ = some (.slice (p 1) (m.row 1).length (c 1)) := S0.out.cell 1
  have b2 : w0.cell? ⟨w.heap.size, 2, none⟩ = some (.slice (p 2) (m.row 2).length (c 2)) := S0.out.cell 2
  have b3 : w0.cell? ⟨w.heap.size, 3, none⟩ = some (.slice (p 3) (m.row 3).length (c 3)) := S0.out.cell 3
  have b4 : w0.cell? ⟨w.heap.size, 4, none⟩ = some (.int .i64 (m.n : Nat)) := S0.out.cell 4
  have lb := S0.out.lt
  go_wp2_with fail
  refine (list_any p c m HO.out loc w0 HH.out).mono ?_
  rintro e w1 ⟨r, d, rfl, hr, hb⟩
  have HFW := Lib.hid (listF_few HO.out loc)
  have HMY := Lib.hid (listF_may HO.out loc)
  have HR := Lib.hid hr
  have S51 := Lib.hid (S5.out.below hb S5.out.lt)
  have HB1 := Lib.hid (HB0.out.trans (hb.mono HB0.out.size))
  clear hr hb b0 b1 b2 b3 b4 lb HB0 HH S0 S5
  generalize listF m loc = xs at HFW HMY HBF HR ⊢
  have HC := Lib.hid (contains_any (to_tells (w.heap.size + 1) t) xs r d w1 (by have := HFW.out; omega) HMY.out HR.out S51.out)
  go_wp2_with fail
  refine HC.out.mono ?_
  rintro e w2 ⟨rfl, hb⟩
  have HR2 := Lib.hid (HR.out.below hb)
  have S52 := Lib.hid (S51.out.below hb S51.out.lt)
  have HB2 := Lib.hid (HB1.out.trans (hb.mono HB1.out.size))
  clear hb HC S51 HR HB1
  generalize xs.any (fun x => decide (x.b = t)) = any at HBF ⊢
  cases any
  · have HOUT : Hid (out = []) := Lib.hid HBF.out
    go_wp2_with fail
    go_ret
    rw [HOUT.out]
    exact ⟨_, _, rfl, fun j u hu => by simp [cellsOf] at hu, HB2.out⟩
  · have HOUT : Hid (out = (allF xs).filter (fun r => decide (r.1 = t))) := Lib.hid HBF.out
    have HT := Lib.hid (those_any (from_tells (w.heap.size + 1) t) xs r d w2 (by have := HFW.out; omega) HMY.out HR2.out S52.out)
    rw [← HOUT.out] at HT
    go_wp2_with fail
    refine HT.out.mono ?_
    rintro e w3 ⟨r2, d2, rfl, hr, hb⟩
    have HR3 := Lib.hid hr
    have HB3 := Lib.hid (HB2.out.trans (hb.mono HB2.out.size))
    clear hr hb
    go_wp2_with fail
    go_ret
    exact ⟨r2, d2, rfl, HR3.out, HB3.out⟩
end Go.Proofs.Ytgkgpehjedmejaa.Plc
namespace Go.Proofs.Ytgkgpehjedmejaa.Plc
open Go.RowKit Go.Shelf Go.Proofs.Ytgkgpehjedmejaa.Mem Go.Proofs.Ytgkgpehjedmejaa.Flow Go.Proofs.Ytgkgpehjedmejaa.Mmr

theorem rowPr : RowT Try.prog 36 57 2 16 := rowT_of (z := .agg #[.int .i64 0, .int .i64 0]) Try.underlying36 (by kernel_rfl) rfl (by decide)
theorem pr_one (l : List (Int × Int)) : ∀ u ∈ cellsOf prL l, u.oneCell' = true := fun u hu => by
  unfold cellsOf at hu
  obtain ⟨x, _, hx⟩ := List.mem_flatMap.1 hu
  simp only [prL, List.mem_cons, List.not_mem_nil, or_false] at hx
  rcases hx with rfl | rfl <;> rfl
theorem lay_grown {W W' : World} {p : Option Addr} {xs : List Value} {row : Option Nat} (h : Lay W p xs) (hg : W.grownBy W' row) (hf : ∀ g o s, p = some ⟨g, o, s⟩ → row ≠ some g) : Lay W' p xs := fun j u hu => by
  obtain ⟨g, o, e, hlt, hc⟩ := h j u hu
  exact ⟨g, o, e, Nat.lt_of_lt_of_le hlt hg.size, (World.cell?_of_block (a := ⟨g, o + j, none⟩) (hg.block g hlt (fun e' => hf g o none e e'.symm))).trans hc⟩
theorem prs_len (l : List (Int × Int)) : (cellsOf prL l).length = l.length * 2 := cells_len prL_len l
/-- A row of pairs came back. -/
def GivesQ (l : List (Int × Int)) (w : World) (e : Ending) (w' : World) : Prop := ∃ r d, e = .returned (.slice r l.length d) ∧ Lay w' r (cellsOf prL l) ∧ Below w.heap.size w w'
/-- A row of one's own. -/
structure OneAt (B : Nat) (w1 : World) (r : Option Addr) (d : Nat) (l : List (Int × Int)) (W : World) : Prop where
  cut : Cut2 57 2 B W r l.length d (cellsOf prL l)
  low : Below B w1 W
theorem OneAt.grown {B : Nat} {w1 W W' : World} {r : Option Addr} {d : Nat} {l : List (Int × Int)} (h : OneAt B w1 r d l W) (hB : B ≤ W.heap.size) (hb : Below W.heap.size W W') : OneAt B w1 r d l W' := ⟨h.cut.below hb, h.low.trans (hb.mono hB)⟩
/-- .. and the parts of one item beside it. -/
structure TwoAt (B : Nat) (w1 : World) (r : Option Addr) (d : Nat) (l : List (Int × Int)) (r2 : Option Addr) (l2 : List (Int × Int)) (W : World) : Prop where
  one : OneAt B w1 r d l W
  more : Lay W r2 (cellsOf prL l2)
  far : Far r2 r
  old : ∀ g o s, r2 = some ⟨g, o, s⟩ → g < W.heap.size
  size : B ≤ W.heap.size
theorem TwoAt.grown {B : Nat} {w1 W W' : World} {r r2 : Option Addr} {d : Nat} {l l2 : List (Int × Int)} (h : TwoAt B w1 r d l r2 l2 W) (hb : Below W.heap.size W W') : TwoAt B w1 r d l r2 l2 W' :=
  ⟨h.one.grown h.size hb, h.more.below hb, h.far, fun g o s e => Nat.lt_of_lt_of_le (h.old g o s e) hb.size, Nat.le_trans h.size hb.size⟩
theorem TwoAt.put {B : Nat} {w1 W W' : World} {r r2 r' : Option Addr} {d d' : Nat} {l l2 : List (Int × Int)} {q : Int × Int} (h : TwoAt B w1 r d l r2 l2 W) (hg : W.grownBy W' (Value.slice r l.length d).ownBlock) (hf : ∀ g o s, r' = some ⟨g, o, s⟩ → (Value.slice r l.length d).ownBlock = some g ∨ W.heap.size ≤ g)
    (hb : Below B W W') (hc : Cut2 57 2 B W' r' (l.length + 1) d' (cellsOf prL l ++ cellsOf prL [q])) : TwoAt B w1 r' d' (l ++ [q]) r2 l2 W' :=
  ⟨⟨by rw [show (l ++ [q]).length = l.length + 1 by simp, cells_append]; exact hc, h.one.low.trans hb⟩, lay_grown h.more hg (h.far.own _ _), fun g o s g' o' s' e e' hgg => by
    subst hgg
    rcases hf g o' s' e' with h1 | h1
    · exact h.far.own _ _ g o s e h1
    · have := h.old g o s e; omega, fun g o s e => Nat.lt_of_lt_of_le (h.old g o s e) hg.size, Nat.le_trans h.size hg.size⟩
theorem two_of {B : Nat} {w1 W W' : World} {r r2 : Option Addr} {d d2 : Nat} {l l2 : List (Int × Int)} (h : OneAt B w1 r d l W) (hB : B ≤ W.heap.size) (h2 : OneAt W.heap.size W r2 d2 l2 W') : TwoAt B w1 r d l r2 l2 W' :=
  ⟨h.grown hB h2.low, h2.cut.lay, fun g o s g' o' s' e e' hgg => by
    subst hgg
    have a := (h2.cut.fresh g o s e).1
    have b := (h.cut.fresh g o' s' e').2
    omega, fun g o s e => (h2.cut.fresh g o s e).2, Nat.le_trans hB h2.low.size⟩
theorem own_new {B : Nat} {W : World} {cs : List Value} {n : Nat} (hB : B ≤ W.heap.size) (hn : cs.length = n * 2) (h0 : n ≤ 10) : Cut2 57 2 B (W.alloc (.cells cs.toArray 57)) (some ⟨W.heap.size, 0, none⟩) n n cs :=
  cut2_of ⟨hn, .inr ⟨W.heap.size, n, cs.toArray, rfl, hB, Sits.new W _ _, Nat.le_refl _, by unfold maxLen; omega, by simp [hn], by simp [← hn]⟩⟩
def rlF (l : List It) (k : Nat) : List (Int × Int) := ((partsD l k).take 0)
def preD (l : List It) (k j : Nat) : List (Int × Int) := uptoD l k ++ ((partsD l k).take j).filter mayP
theorem preD_zero (l : List It) (k : Nat) : preD l k 0 = uptoD l k := by unfold preD; simp
theorem preD_all (l : List It) (k : Nat) : preD l k (partsD l k).length = uptoD l (k + 1) := by unfold preD; rw [List.take_length]; rfl
theorem preD_yes {l : List It} {k j : Nat} {r : Int × Int} (h : (partsD l k)[j]? = some r) (hm : mayP r = true) : preD l k (j + 1) = preD l k j ++ [r] := by
  unfold preD
  rw [List.take_add_one, h, Option.toList_some, List.filter_append, List.filter_cons_of_pos hm, List.filter_nil, List.append_assoc]
theorem preD_no {l : List It} {k j : Nat} {r : Int × Int} (h : (partsD l k)[j]? = some r) (hm : mayP r = false) : preD l k (j + 1) = preD l k j := by
  unfold preD
  rw [List.take_add_one, h, Option.toList_some, List.filter_append, List.filter_cons_of_neg (by rw [hm]; decide), List.filter_nil, List.append_nil]
theorem preD_len (l : List It) (k j : Nat) : (preD l k j).length ≤ 4 * k + 4 := by
  unfold preD
  rw [List.length_append]
  have h1 := uptoD_len l k
  have h2 := List.length_filter_le mayP ((partsD l k).take j)
  have h3 := partsD_len l k
  rw [List.length_take] at h2
  omega
theorem partsD_some {l : List It} {k : Nat} {x y : It} (h0 : l[k]? = some x) (h1 : l[k + 1]? = some y) : partsD l k = betwD x.b y.a := by unfold partsD; rw [h0, h1]
theorem partsD_none {l : List It} {k : Nat} {x : It} (h0 : l[k]? = some x) (h1 : l[k + 1]? = none) : partsD l k = aft x.b := by unfold partsD; rw [h0, h1]
set_option maxRecDepth 100000 in
set_option maxHeartbeats 8000000 in
theorem dall_any (q : Option Addr) (c : Nat) (m : Dm) (hn : m.l.length ≤ 1000) (loc : Int) (hM : ∀ x ∈ dList m loc, MayX x) (hl : (dList m loc).length ≤ 40) (w : World) (hH : HoldD w q c m) :
    Calls Try.prog 8 #[dmV q c m, .int .i64 loc] w (GivesQ (allD m loc) w) := by
  have S0 := Lib.hid (Sits.new w 30 (dmCells q c m))
  have HB0 := Lib.hid (one_low w (.cells (dmCells q c m) 30))
  have HH := Lib.hid (hH.below (one_low w (.cells (dmCells q c m) 30)))
  have HN := Lib.hid hn
  have HA : Hid (allD m loc = uptoD (dList m loc) (dList m loc).length) := Lib.hid rfl
  generalize allD m loc = out at HA ⊢
  have HM := Lib.hid hM
  have HLL := Lib.hid hl
  clear hn hH hM hl
  go_enter Try.func8, Try.ntmps8
  go_upto_region 1 with (fail)
  generalize w.alloc (.cells (dmCells q c m) 30) = w0 at S0 HB0 HH ⊢
  have b0 : w0.cell? ⟨w.heap.size, 0, none⟩ = some (.int .i64 (m.n : Nat)) := S0.out.cell 0
  have b1 : w0.cell? ⟨w.heap.size, 1, none⟩ = some (.slice q m.l.length c) := S0.out.cell 1
  have lb := S0.out.lt
  go_wp2_with fail
  refine (dlist_any q c m HN.out loc w0 HH.out).mono ?_
  rintro e w1 ⟨rl, dl, rfl, hr, hb, _⟩
  have HR := Lib.hid hr
  have HB1 := Lib.hid (HB0.out.trans (hb.mono HB0.out.size))
  clear hr hb b0 b1 lb HB0 HH S0
  generalize dList m loc = l at HA HM HLL HR ⊢
  have H1 : Hid (OneAt w1.heap.size w1 none 0 [] w1) := Lib.hid ⟨nil_cut _ _ _ _, Below.refl _ _⟩
  have i40 : (l.length : Int) ≤ 40 := by have := HLL.out; omega
  go_wp2_with fail
  refine wp_loop_ghost_k (fun n A W => ∃ (k : Nat) (r : Option Addr) (d : Nat), k ≤ l.length ∧ n = l.length - k ∧ Fr 103 [(5, .slice r (uptoD l k).length d), (6, .slice rl l.length dl), (7, .int .i64 (k : Nat))] A ∧ OneAt w1.heap.size w1 r d (uptoD l k) W) l.length ?_ ?_
  · exact ⟨0, none, 0, by omega, by omega, ⟨rfl, rfl, by simp only [List.mem_cons, List.not_mem_nil, or_false, forall_eq_or_imp, forall_eq]; exact ⟨rfl, rfl, rfl⟩⟩, H1.out⟩
  · rintro n ⟨T, D⟩ wr ⟨k, r, d, hk, rfl, hF, hW⟩ J K hJ hK
    obtain ⟨hsz, hdf, hat⟩ := hF
    simp only [List.mem_cons, List.not_mem_nil, or_false, forall_eq_or_imp, forall_eq] at hsz hdf hat
    obtain ⟨q0, q1, q2⟩ := hat
    subst hdf
    have hsp := spread T 103 hsz
    simp only [List.range, List.range.loop, List.map_cons, List.map_nil, q0, q1, q2] at hsp
    rw [hsp]
    clear hsp hsz q0 q1 q2
    have HW := Lib.hid hW
    have HUL := Lib.hid (uptoD_len l k)
    clear hW H1
    by_cases hlt : k < l.length
    · have hx : l[k]? = some l[k] := List.getElem?_eq_getElem hlt
      have HX := Lib.hid hx
      have HMX := Lib.hid (may_le (HM.out _ (List.getElem_mem hlt)))
      obtain ⟨g, o, rfl, lg, hc⟩ := (HR.out.below HW.out.low).there hx
      generalize l[k] = x at hx hc HX HMX
      obtain ⟨c0, c1, c2, _⟩ := hc
      have j1 : (k : Int) < (l.length : Int) := by omega
      have j0 : (0 : Int) ≤ (k : Int) := by omega
      have HKL := Lib.hid hlt
      clear hx hlt hk
      go_upto_if 32 with (fail)
      refine wp_cut (fun A W => ∃ (r2 : Option Addr) (d2 : Nat), Fr 103 [(5, .slice r (uptoD l k).length d), (6, .slice (some ⟨g, o, none⟩) l.length dl), (7, .int .i64 (k : Nat)), (9, .slice r2 (partsD l k).length d2)] A ∧ TwoAt w1.heap.size w1 r d (uptoD l k) r2 (partsD l k) W) ?rest ?first
      case first =>
        intro J K hJ hK
        have hw1 := IntWalk.i64_in (x.b + 1) (by have := HMX.out; omega)
        have hw2 := IntWalk.i64_in (x.b + 2) (by have := HMX.out; omega)
        by_cases hl : k + 1 = l.length
        · have HPS := Lib.hid (partsD_none HX.out (List.getElem?_eq_none (by omega)))
          have k2 : (k : Int) + 1 = (l.length : Int) := by omega
          have k3 : ((k : Int) + 1 == (l.length : Int)) = true := by simpa using k2
          have HT : Hid (TwoAt w1.heap.size w1 r d (uptoD l k) (some ⟨wr.heap.size, 0, none⟩) (aft x.b) (wr.alloc (.cells #[.int .i64 x.b, .int .i64 (x.b + 1), .int .i64 (x.b + 1), .int .i64 (x.b + 2)] 57))) := Lib.hid (two_of HW.out HW.out.low.size ⟨own_new (n := 2) (Nat.le_refl _) rfl (by decide), one_low _ _⟩)
          clear hl k2
          go_wp2_with fail
          refine Met.intro ?_
          go_step
          exact ⟨some ⟨wr.heap.size, 0, none⟩, 2, ⟨rfl, rfl, by simp only [List.mem_cons, List.not_mem_nil, or_false, forall_eq_or_imp, forall_eq]; exact ⟨rfl, rfl, rfl, by rw [HPS.out]; rfl⟩⟩, by rw [HPS.out]; exact HT.out⟩
        · have hlt2 : k + 1 < l.length := by have := HKL.out; omega
          obtain ⟨y, hy⟩ : ∃ y, l[k + 1]? = some y := ⟨_, List.getElem?_eq_getElem hlt2⟩
          have HPS := Lib.hid (partsD_some HX.out hy)
          have HMY := Lib.hid (may_le (HM.out _ (List.mem_of_getElem? hy)))
          obtain ⟨g', o', e', _, hc⟩ := (HR.out.below HW.out.low).there hy
          injection e' with e'; injection e' with e1 e2; subst e1 e2
          obtain ⟨y0, y1, _⟩ := hc
          have k3 : ((k : Int) + 1 == (l.length : Int)) = false := by simp; omega
          have k4 : (k : Int) + 1 < (l.length : Int) := by omega
          have k5 : (0 : Int) ≤ (k : Int) + 1 := by omega
          have hw3 := IntWalk.i64_in (y.a - x.b) (by have := HMX.out; have := HMY.out; omega)
          have HBW : Hid (partsD l k = betwD x.b y.a) := HPS
          clear hy hl hlt2
          by_cases hgap : y.a - x.b ≤ 0
          · skip
            have z0 : ¬ (0 : Int) < y.a - x.b := by omega
            have z1 : ¬ (1 : Int) < y.a - x.b := by omega
            have z2 : ¬ (2 : Int) < y.a - x.b := by omega
            have HPS : Hid (partsD l k = []) := Lib.hid (by rw [HBW.out]; unfold betwD; rw [if_neg z0, if_neg z1, if_neg z2]; rfl)
            have hM0 : OneAt wr.heap.size wr none 0 [] wr := ⟨nil_cut _ _ _ _, Below.refl _ _⟩
            have HM0 := Lib.hid hM0
            clear hM0 hgap
            go_wp2_with fail
            refine Met.intro ?_
            go_step
            exact ⟨none, 0, ⟨rfl, rfl, by simp only [List.mem_cons, List.not_mem_nil, or_false, forall_eq_or_imp, forall_eq]; exact ⟨rfl, rfl, rfl, by rw [HPS.out]; rfl⟩⟩, by rw [HPS.out]; exact two_of HW.out HW.out.low.size HM0.out⟩
          by_cases hgap1 : y.a - x.b = 1
          · skip
            have z0 : (0 : Int) < y.a - x.b := by omega
            have z1 : ¬ (1 : Int) < y.a - x.b := by omega
            have z2 : ¬ (2 : Int) < y.a - x.b := by omega
            have HPS : Hid (partsD l k = [(x.b, y.a)]) := Lib.hid (by rw [HBW.out]; unfold betwD; rw [if_pos z0, if_neg z1, if_neg z2]; rfl)
            have hM0 : OneAt wr.heap.size wr none 0 [] wr := ⟨nil_cut _ _ _ _, Below.refl _ _⟩
            have HM0 := Lib.hid hM0
            clear hM0 hgap hgap1
            have HC0 := Lib.hid (HM0.out.grown (Nat.le_refl _) (one_low wr (.cells #[.int .i64 x.b, .int .i64 y.a] 57)))
            have HL0 : Hid (Lay (wr.alloc (.cells #[.int .i64 x.b, .int .i64 y.a] 57)) (some ⟨wr.heap.size, 0, none⟩) (cellsOf prL [(x.b, y.a)])) := Lib.hid (lay_new (Sits.new wr _ _) ⟨[], rfl⟩)
            have HS0 : Hid (wr.heap.size ≤ (wr.alloc (.cells #[.int .i64 x.b, .int .i64 y.a] 57)).heap.size) := Lib.hid HC0.out.low.size
            go_wp2_with (at_builtin; refine wpList_append_cut2 rowPr rfl _ _ rfl (B := wr.heap.size) (r := none) (n := 0) (d := 0) (xs := cellsOf prL []) rfl HC0.out.cut HS0.out (some ⟨wr.heap.size, 0, none⟩) 1 1 (cellsOf prL [(x.b, y.a)]) rfl rfl HL0.out (pr_one _) (by decide) (by decide) ?_)
            intro r0 dd0 W0 _ _ hb hc
            have HM1 : Hid (OneAt wr.heap.size wr r0 dd0 [(x.b, y.a)] W0) := Lib.hid ⟨hc, HC0.out.low.trans hb⟩
            clear c0 c1 c2 y0 y1 lg
            clear hb hc HL0 HS0 HC0
            go_wp2_with fail
            refine Met.intro ?_
            go_step
            exact ⟨r0, dd0, ⟨rfl, rfl, by simp only [List.mem_cons, List.not_mem_nil, or_false, forall_eq_or_imp, forall_eq]; exact ⟨rfl, rfl, rfl, by rw [HPS.out]; rfl⟩⟩, by rw [HPS.out]; exact two_of HW.out HW.out.low.size HM1.out⟩
          by_cases hgap2 : y.a - x.b = 2
          · skip
            have z0 : (0 : Int) < y.a - x.b := by omega
            have z1 : (1 : Int) < y.a - x.b := by omega
            have z2 : ¬ (2 : Int) < y.a - x.b := by omega
            have HPS : Hid (partsD l k = [(x.b, y.a), (x.b, x.b + 1), (x.b + 1, y.a)]) := Lib.hid (by rw [HBW.out]; unfold betwD; rw [if_pos z0, if_pos z1, if_neg z2]; rfl)
            have hM0 : OneAt wr.heap.size wr none 0 [] wr := ⟨nil_cut _ _ _ _, Below.refl _ _⟩
            have HM0 := Lib.hid hM0
            clear hM0 hgap hgap1 hgap2
            have HC0 := Lib.hid (HM0.out.grown (Nat.le_refl _) (one_low wr (.cells #[.int .i64 x.b, .int .i64 y.a] 57)))
            have HL0 : Hid (Lay (wr.alloc (.cells #[.int .i64 x.b, .int .i64 y.a] 57)) (some ⟨wr.heap.size, 0, none⟩) (cellsOf prL [(x.b, y.a)])) := Lib.hid (lay_new (Sits.new wr _ _) ⟨[], rfl⟩)
            have HS0 : Hid (wr.heap.size ≤ (wr.alloc (.cells #[.int .i64 x.b, .int .i64 y.a] 57)).heap.size) := Lib.hid HC0.out.low.size
            go_wp2_with (at_builtin; refine wpList_append_cut2 rowPr rfl _ _ rfl (B := wr.heap.size) (r := none) (n := 0) (d := 0) (xs := cellsOf prL []) rfl HC0.out.cut HS0.out (some ⟨wr.heap.size, 0, none⟩) 1 1 (cellsOf prL [(x.b, y.a)]) rfl rfl HL0.out (pr_one _) (by decide) (by decide) ?_)
            intro r0 dd0 W0 _ _ hb hc
            have HM1 : Hid (OneAt wr.heap.size wr r0 dd0 [(x.b, y.a)] W0) := Lib.hid ⟨hc, HC0.out.low.trans hb⟩
            clear c0 c1 c2 y0 y1 lg
            clear hb hc HL0 HS0 HC0
            have HC1 := Lib.hid (HM1.out.grown HM1.out.low.size (one_low W0 (.cells #[.int .i64 x.b, .int .i64 (x.b + 1), .int .i64 (x.b + 1), .int .i64 y.a] 57)))
            have HL1 : Hid (Lay (W0.alloc (.cells #[.int .i64 x.b, .int .i64 (x.b + 1), .int .i64 (x.b + 1), .int .i64 y.a] 57)) (some ⟨W0.heap.size, 0, none⟩) (cellsOf prL [(x.b, x.b + 1), (x.b + 1, y.a)])) := Lib.hid (lay_new (Sits.new W0 _ _) ⟨[], rfl⟩)
            have HS1 : Hid (wr.heap.size ≤ (W0.alloc (.cells #[.int .i64 x.b, .int .i64 (x.b + 1), .int .i64 (x.b + 1), .int .i64 y.a] 57)).heap.size) := Lib.hid HC1.out.low.size
            go_wp2_with (at_builtin; refine wpList_append_cut2 rowPr rfl _ _ rfl (B := wr.heap.size) (r := r0) (n := 1) (d := dd0) (xs := cellsOf prL [(x.b, y.a)]) rfl HC1.out.cut HS1.out (some ⟨W0.heap.size, 0, none⟩) 2 2 (cellsOf prL [(x.b, x.b + 1), (x.b + 1, y.a)]) rfl rfl HL1.out (pr_one _) (by decide) (by decide) ?_)
            intro r1 dd1 W1 _ _ hb hc
            have HM2 : Hid (OneAt wr.heap.size wr r1 dd1 [(x.b, y.a), (x.b, x.b + 1), (x.b + 1, y.a)] W1) := Lib.hid ⟨hc, HC1.out.low.trans hb⟩
            clear hb hc HL1 HS1 HC1
            go_wp2_with fail
            refine Met.intro ?_
            go_step
            exact ⟨r1, dd1, ⟨rfl, rfl, by simp only [List.mem_cons, List.not_mem_nil, or_false, forall_eq_or_imp, forall_eq]; exact ⟨rfl, rfl, rfl, by rw [HPS.out]; rfl⟩⟩, by rw [HPS.out]; exact two_of HW.out HW.out.low.size HM2.out⟩
          have z0 : (0 : Int) < y.a - x.b := by omega
          have z1 : (1 : Int) < y.a - x.b := by omega
          have z2 : (2 : Int) < y.a - x.b := by omega
          have HPS : Hid (partsD l k = [(x.b, y.a), (x.b, x.b + 1), (x.b + 1, y.a), (x.b + 1, x.b + 2)]) := Lib.hid (by rw [HBW.out]; unfold betwD; rw [if_pos z0, if_pos z1, if_pos z2]; rfl)
          have hM0 : OneAt wr.heap.size wr none 0 [] wr := ⟨nil_cut _ _ _ _, Below.refl _ _⟩
          have HM0 := Lib.hid hM0
          clear hM0 hgap hgap1 hgap2
          have HC0 := Lib.hid (HM0.out.grown (Nat.le_refl _) (one_low wr (.cells #[.int .i64 x.b, .int .i64 y.a] 57)))
          have HL0 : Hid (Lay (wr.alloc (.cells #[.int .i64 x.b, .int .i64 y.a] 57)) (some ⟨wr.heap.size, 0, none⟩) (cellsOf prL [(x.b, y.a)])) := Lib.hid (lay_new (Sits.new wr _ _) ⟨[], rfl⟩)
          have HS0 : Hid (wr.heap.size ≤ (wr.alloc (.cells #[.int .i64 x.b, .int .i64 y.a] 57)).heap.size) := Lib.hid HC0.out.low.size
          go_wp2_with (at_builtin; refine wpList_append_cut2 rowPr rfl _ _ rfl (B := wr.heap.size) (r := none) (n := 0) (d := 0) (xs := cellsOf prL []) rfl HC0.out.cut HS0.out (some ⟨wr.heap.size, 0, none⟩) 1 1 (cellsOf prL [(x.b, y.a)]) rfl rfl HL0.out (pr_one _) (by decide) (by decide) ?_)
          intro r0 dd0 W0 _ _ hb hc
          have HM1 : Hid (OneAt wr.heap.size wr r0 dd0 [(x.b, y.a)] W0) := Lib.hid ⟨hc, HC0.out.low.trans hb⟩
          clear c0 c1 c2 y0 y1 lg
          clear hb hc HL0 HS0 HC0
          have HC1 := Lib.hid (HM1.out.grown HM1.out.low.size (one_low W0 (.cells #[.int .i64 x.b, .int .i64 (x.b + 1), .int .i64 (x.b + 1), .int .i64 y.a] 57)))
          have HL1 : Hid (Lay (W0.alloc (.cells #[.int .i64 x.b, .int .i64 (x.b + 1), .int .i64 (x.b + 1), .int .i64 y.a] 57)) (some ⟨W0.heap.size, 0, none⟩) (cellsOf prL [(x.b, x.b + 1), (x.b + 1, y.a)])) := Lib.hid (lay_new (Sits.new W0 _ _) ⟨[], rfl⟩)
          have HS1 : Hid (wr.heap.size ≤ (W0.alloc (.cells #[.int .i64 x.b, .int .i64 (x.b + 1), .int .i64 (x.b + 1), .int .i64 y.a] 57)).heap.size) := Lib.hid HC1.out.low.size
          go_wp2_with (at_builtin; refine wpList_append_cut2 rowPr rfl _ _ rfl (B := wr.heap.size) (r := r0) (n := 1) (d := dd0) (xs := cellsOf prL [(x.b, y.a)]) rfl HC1.out.cut HS1.out (some ⟨W0.heap.size, 0, none⟩) 2 2 (cellsOf prL [(x.b, x.b + 1), (x.b + 1, y.a)]) rfl rfl HL1.out (pr_one _) (by decide) (by decide) ?_)
          intro r1 dd1 W1 _ _ hb hc
          have HM2 : Hid (OneAt wr.heap.size wr r1 dd1 [(x.b, y.a), (x.b, x.b + 1), (x.b + 1, y.a)] W1) := Lib.hid ⟨hc, HC1.out.low.trans hb⟩
          clear hb hc HL1 HS1 HC1
          have HC2 := Lib.hid (HM2.out.grown HM2.out.low.size (one_low W1 (.cells #[.int .i64 (x.b + 1), .int .i64 (x.b + 2)] 57)))
          have HL2 : Hid (Lay (W1.alloc (.cells #[.int .i64 (x.b + 1), .int .i64 (x.b + 2)] 57)) (some ⟨W1.heap.size, 0, none⟩) (cellsOf prL [(x.b + 1, x.b + 2)])) := Lib.hid (lay_new (Sits.new W1 _ _) ⟨[], rfl⟩)
          have HS2 : Hid (wr.heap.size ≤ (W1.alloc (.cells #[.int .i64 (x.b + 1), .int .i64 (x.b + 2)] 57)).heap.size) := Lib.hid HC2.out.low.size
          go_wp2_with (at_builtin; refine wpList_append_cut2 rowPr rfl _ _ rfl (B := wr.heap.size) (r := r1) (n := 3) (d := dd1) (xs := cellsOf prL [(x.b, y.a), (x.b, x.b + 1), (x.b + 1, y.a)]) rfl HC2.out.cut HS2.out (some ⟨W1.heap.size, 0, none⟩) 1 1 (cellsOf prL [(x.b + 1, x.b + 2)]) rfl rfl HL2.out (pr_one _) (by decide) (by decide) ?_)
          intro r2 dd2 W2 _ _ hb hc
          have HM3 : Hid (OneAt wr.heap.size wr r2 dd2 [(x.b, y.a), (x.b, x.b + 1), (x.b + 1, y.a), (x.b + 1, x.b + 2)] W2) := Lib.hid ⟨hc, HC2.out.low.trans hb⟩
          clear hb hc HL2 HS2 HC2
          go_wp2_with fail
          refine Met.intro ?_
          go_step
          exact ⟨r2, dd2, ⟨rfl, rfl, by simp only [List.mem_cons, List.not_mem_nil, or_false, forall_eq_or_imp, forall_eq]; exact ⟨rfl, rfl, rfl, by rw [HPS.out]; rfl⟩⟩, by rw [HPS.out]; exact two_of HW.out HW.out.low.size HM3.out⟩
      case rest =>
        rintro ⟨T, D⟩ W2 ⟨r2, d2, hF, hT⟩
        obtain ⟨hsz, hdf, hat⟩ := hF
        simp only [List.mem_cons, List.not_mem_nil, or_false, forall_eq_or_imp, forall_eq] at hsz hdf hat
        obtain ⟨q0, q1, q2, q3⟩ := hat
        subst hdf
        have hsp := spread T 103 hsz
        simp only [List.range, List.range.loop, List.map_cons, List.map_nil, q0, q1, q2, q3] at hsp
        rw [hsp]
        clear hsp hsz q0 q1 q2 q3
        rw [← preD_zero] at hT
        have HT := Lib.hid hT
        have HPL := Lib.hid (partsD_len l k)
        have HE0 : Hid ((uptoD l k).length = (preD l k 0).length) := Lib.hid (by rw [preD_zero])
        have i4 : ((partsD l k).length : Int) ≤ 4 := by have := HPL.out; omega
        rw [HE0.out]
        clear hT HW c0 c1 c2 lg
        go_wp2_with fail
        refine wp_loop_ghost_k (fun n A W => ∃ (j : Nat) (r : Option Addr) (d : Nat), j ≤ (partsD l k).length ∧ n = (partsD l k).length - j ∧ Fr 103 [(5, .slice r (preD l k j).length d), (6, .slice (some ⟨g, o, none⟩) l.length dl), (7, .int .i64 (k : Nat)), (9, .slice r2 (partsD l k).length d2), (12, .int .i64 (j : Nat))] A ∧ TwoAt w1.heap.size w1 r d (preD l k j) r2 (partsD l k) W) (partsD l k).length ?_ ?_
        · exact ⟨0, r, d, by omega, by omega, ⟨rfl, rfl, by simp only [List.mem_cons, List.not_mem_nil, or_false, forall_eq_or_imp, forall_eq]; exact ⟨rfl, rfl, rfl, rfl, rfl⟩⟩, HT.out⟩
        · rintro n ⟨T, D⟩ W3 ⟨j, r, d, hj, rfl, hF, hT⟩ J2 K2 hJ2 hK2
          obtain ⟨hsz, hdf, hat⟩ := hF
          simp only [List.mem_cons, List.not_mem_nil, or_false, forall_eq_or_imp, forall_eq] at hsz hdf hat
          obtain ⟨q0, q1, q2, q3, q4⟩ := hat
          subst hdf
          have hsp := spread T 103 hsz
          simp only [List.range, List.range.loop, List.map_cons, List.map_nil, q0, q1, q2, q3, q4] at hsp
          rw [hsp]
          clear hsp hsz q0 q1 q2 q3 q4
          have HTJ := Lib.hid hT
          clear hT HT HE0
          have HPN := Lib.hid (preD_len l k j)
          by_cases hjl : j < (partsD l k).length
          · have hpt : (partsD l k)[j]? = some (partsD l k)[j] := List.getElem?_eq_getElem hjl
            have HPT := Lib.hid hpt
            obtain ⟨g2, o2, hr2, lg2, e0, e1⟩ := pr_at HTJ.out.more hpt
            generalize (partsD l k)[j] = z at HPT e0 e1
            obtain ⟨za, zb⟩ := z
            dsimp only at e0 e1
            have j1 : (j : Int) < ((partsD l k).length : Int) := by omega
            have j0 : (0 : Int) ≤ (j : Int) := by omega
            have HJL := Lib.hid hjl
            have HLAY := HTJ.out.more
            clear hpt hjl hj HLAY
            subst hr2
            have HMY := Lib.hid (Spn.rmay_any za zb W3)
            go_wp2_with fail
            refine HMY.out.mono ?_
            rintro e W4 ⟨rfl, hb⟩
            have HT4 := Lib.hid (HTJ.out.grown hb)
            clear hb HMY HTJ e0 e1 lg2
            cases hm : Spn.mayF za zb
            · have HPX := Lib.hid (preD_no HPT.out hm)
              clear hm
              go_wp2_with fail
              refine Handed.intro ((partsD l k).length - (j + 1)) (by have := HJL.out; omega) ?_
              refine hJ2 _ _ _ ?_
              exact ⟨j + 1, r, d, HJL.out, rfl, ⟨rfl, rfl, by simp only [List.mem_cons, List.not_mem_nil, or_false, forall_eq_or_imp, forall_eq]; exact ⟨by rw [HPX.out]; rfl, rfl, rfl, rfl, rfl⟩⟩, by rw [HPX.out]; exact HT4.out⟩
            · have HPX := Lib.hid (preD_yes HPT.out hm)
              obtain ⟨g3, o3, e3, lg3, e0, e1⟩ := pr_at HT4.out.more HPT.out
              injection e3 with e3; injection e3 with e3 e4; subst e3 e4
              dsimp only at e0 e1
              have HC := Lib.hid (HT4.out.grown (one_low W4 (.cells #[.int .i64 za, .int .i64 zb] 57)))
              have HL : Hid (Lay (W4.alloc (.cells #[.int .i64 za, .int .i64 zb] 57)) (some ⟨W4.heap.size, 0, none⟩) (cellsOf prL [(za, zb)])) := Lib.hid (lay_new (Sits.new W4 _ _) ⟨[], rfl⟩)
              have HSZ := Lib.hid HC.out.size
              clear hm
              generalize preD l k j = pre at HPX HPN HT4 HC ⊢
              go_wp2_with (at_builtin; refine wpList_append_cut2 rowPr rfl _ _ rfl (B := w1.heap.size) (r := r) (n := pre.length) (d := d) (xs := cellsOf prL pre) rfl HC.out.one.cut HSZ.out (some ⟨W4.heap.size, 0, none⟩) 1 1 (cellsOf prL [(za, zb)]) rfl rfl HL.out (pr_one _) (by unfold maxLen; have := HPN.out; have := HKL.out; have := HLL.out; omega) (by have := HPN.out; have := HKL.out; have := HLL.out; omega) ?_)
              intro r5 d5 W5 hg hf hb hc
              have HT5 := Lib.hid (HC.out.put hg (fun g o s e => by rw [World.size_alloc]; exact hf g o s e) hb hc)
              have HLN : Hid ((pre ++ [(za, zb)]).length = pre.length + 1) := Lib.hid (by simp)
              clear hg hf hb hc HC HL e0 e1 lg3
              go_wp2_with fail
              refine Handed.intro ((partsD l k).length - (j + 1)) (by have := HJL.out; omega) ?_
              refine hJ2 _ _ _ ?_
              exact ⟨j + 1, r5, d5, HJL.out, rfl, ⟨rfl, rfl, by simp only [List.mem_cons, List.not_mem_nil, or_false, forall_eq_or_imp, forall_eq]; exact ⟨by rw [HPX.out, HLN.out]; rfl, rfl, rfl, rfl, rfl⟩⟩, by rw [HPX.out]; exact HT5.out⟩
          · obtain rfl : j = (partsD l k).length := by omega
            have k4 : ¬ (((partsD l k).length : Int) < ((partsD l k).length : Int)) := by omega
            have HU : Hid (uptoD l (k + 1) = preD l k (partsD l k).length) := Lib.hid (preD_all l k).symm
            clear hjl hj
            go_wp2_with fail
            refine Handed.intro (l.length - (k + 1)) (by have := HKL.out; omega) ?_
            refine hJ _ _ _ ?_
            exact ⟨k + 1, r, d, HKL.out, rfl, ⟨rfl, rfl, by simp only [List.mem_cons, List.not_mem_nil, or_false, forall_eq_or_imp, forall_eq]; exact ⟨by rw [HU.out]; rfl, rfl, rfl⟩⟩, by rw [HU.out]; exact HTJ.out.one⟩
    · obtain rfl : k = l.length := by omega
      have k1 : ¬ ((l.length : Int) < (l.length : Int)) := by omega
      have HRES : Hid (GivesQ out w (.returned (.slice r (uptoD l l.length).length d)) wr) := Lib.hid ⟨r, d, by rw [HA.out], by rw [HA.out]; exact HW.out.cut.lay, HB1.out.trans (HW.out.low.mono HB1.out.size)⟩
      clear hlt hk
      go_wp2_with fail
      go_ret
      exact HRES.out
/-! ### Behind -/
def oneF (loc t : Int) (x : It) : Bool := decide (x.loc = loc) && decide (x.b = t)
theorem ends_next {l : List It} {k : Nat} {x : It} (h : l[k]? = some x) (loc t : Int) : (l.take (k + 1)).any (oneF loc t) = ((l.take k).any (oneF loc t) || oneF loc t x) := by
  rw [List.take_add_one, h, List.any_append]; simp
theorem rows_next {l : List (Int × Int)} {k : Nat} {r : Int × Int} (h : l[k]? = some r) (t : Int) : (l.take (k + 1)).filter (fun r => decide (r.1 = t)) = (l.take k).filter (fun r => decide (r.1 = t)) ++ if r.1 = t then [r] else [] := by
  rw [List.take_add_one, h, List.filter_append]
  congr 1
  by_cases e : r.1 = t
  · rw [if_pos e]; exact List.filter_cons_of_pos (by simpa using e)
  · rw [if_neg e]; exact List.filter_cons_of_neg (by simpa using e)
theorem allD_len {m : Dm} {loc : Int} (hl : (dList m loc).length ≤ 40) : (allD m loc).length ≤ 160 := by
  have := uptoD_len (dList m loc) (dList m loc).length
  unfold allD; omega
structure DbAt (w : World) (q : Option Addr) (c : Nat) (m : Dm) (W : World) : Prop where
  at3 : Sits W w.heap.size 30 (dmCells q c m)
  hold : HoldD W q c m
  low : Below w.heap.size w W
theorem DbAt.grown {w W W' : World} {q : Option Addr} {c : Nat} {m : Dm} (h : DbAt w q c m W) (hb : Below W.heap.size W W') : DbAt w q c m W' :=
  ⟨h.at3.below hb h.at3.lt, h.hold.below hb, h.low.trans (hb.mono h.low.size)⟩
set_option maxRecDepth 100000 in
set_option maxHeartbeats 8000000 in
theorem dbehind_any (q : Option Addr) (c : Nat) (m : Dm) (hn : m.l.length ≤ 1000) (loc t : Int) (hM : ∀ x ∈ dList m loc, MayX x) (hl : (dList m loc).length ≤ 40) (w : World) (hH : HoldD w q c m) :
    Calls Try.prog 10 #[dmV q c m, .int .i64 loc, .int .i64 t] w (GivesQ (behD m loc t) w) := by
  have H0 : Hid (DbAt w q c m (w.alloc (.cells (dmCells q c m) 30))) := Lib.hid ⟨Sits.new _ _ _, hH.below (one_low _ _), one_low _ _⟩
  have HN := Lib.hid hn
  have HC := Lib.hid (fun W h => dall_any q c m hn loc hM hl W h)
  have HAL := Lib.hid (allD_len hl)
  have HBD : Hid (behD m loc t = if m.l.any (oneF loc t) then (allD m loc).filter (fun r => decide (r.1 = t)) else []) := Lib.hid rfl
  have HTK : Hid (m.l.take m.l.length = m.l) := Lib.hid (List.take_length ..)
  generalize behD m loc t = out at HBD ⊢
  have i1 : (m.l.length : Int) ≤ 1000 := by omega
  clear hn hH hM hl
  go_enter Try.func10, Try.ntmps10
  go_upto_region 1 with (fail)
  generalize w.alloc (.cells (dmCells q c m) 30) = w0 at H0 ⊢
  go_wp2_with fail
  refine wp_loop_ghost_k (fun n A W => ∃ (k : Nat), k ≤ m.l.length ∧ n = m.l.length - k ∧ Fr 68 [(1, .int .i64 loc), (2, .int .i64 t), (3, .pointer (some ⟨w.heap.size, 0, none⟩)), (7, .slice none 0 0), (8, .bool ((m.l.take k).any (oneF loc t))), (9, .int .i64 (k : Nat))] A ∧ DbAt w q c m W) m.l.length ?_ ?_
  · exact ⟨0, by omega, by omega, ⟨rfl, rfl, by simp only [List.mem_cons, List.not_mem_nil, or_false, forall_eq_or_imp, forall_eq]; exact ⟨rfl, rfl, rfl, rfl, rfl, rfl⟩⟩, H0.out⟩
  · rintro n ⟨T, D⟩ wr ⟨k, hk, rfl, hF, hW⟩ J K hJ hK
    obtain ⟨hsz, hdf, hat⟩ := hF
    simp only [List.mem_cons, List.not_mem_nil, or_false, forall_eq_or_imp, forall_eq] at hsz hdf hat
    obtain ⟨q0, q1, q2, q3, q4, q5⟩ := hat
    subst hdf
    have hsp := spread T 68 hsz
    simp only [List.range, List.range.loop, List.map_cons, List.map_nil, q0, q1, q2, q3, q4, q5] at hsp
    rw [hsp]
    clear hsp hsz q0 q1 q2 q3 q4 q5
    have HW := Lib.hid hW
    clear hW H0
    have b0 : wr.cell? ⟨w.heap.size, 0, none⟩ = some (.int .i64 (m.n : Nat)) := HW.out.at3.cell 0
    have b1 : wr.cell? ⟨w.heap.size, 1, none⟩ = some (.slice q m.l.length c) := HW.out.at3.cell 1
    have lb := HW.out.at3.lt
    by_cases hlt : k < m.l.length
    · have hx : m.l[k]? = some m.l[k] := List.getElem?_eq_getElem hlt
      have HX := Lib.hid hx
      have HEN := Lib.hid (ends_next hx loc t)
      obtain ⟨g, o, rfl, lg, hc⟩ := HW.out.hold.row.there hx
      generalize m.l[k] = x at hx hc HX HEN
      obtain ⟨c0, c1, c2, _⟩ := hc
      have j1 : (k : Int) < (m.l.length : Int) := by omega
      have j0 : (0 : Int) ≤ (k : Int) := by omega
      have HKL := Lib.hid hlt
      clear hx hlt hk
      generalize (m.l.take k).any (oneF loc t) = sofar at HEN ⊢
      have HO0 : Hid ((x.loc == loc) = false → oneF loc t x = false) := Lib.hid fun e => by unfold oneF; rw [← Bool.beq_eq_decide_eq, e]; rfl
      have HO1 : Hid ((x.loc == loc) = true → oneF loc t x = (x.b == t)) := Lib.hid fun e => by unfold oneF; rw [← Bool.beq_eq_decide_eq, e, Bool.beq_eq_decide_eq]; rfl
      cases sofar
      · cases hl : (x.loc == loc)
        · have HEV : Hid ((m.l.take (k + 1)).any (oneF loc t) = false) := Lib.hid (by rw [HEN.out, HO0.out hl]; rfl)
          clear HO0 HO1 HEN
          go_wp2_with fail
          refine Handed.intro (m.l.length - (k + 1)) (by have := HKL.out; omega) ?_
          refine hJ _ _ _ ?_
          exact ⟨k + 1, HKL.out, rfl, ⟨rfl, rfl, by simp only [List.mem_cons, List.not_mem_nil, or_false, forall_eq_or_imp, forall_eq]; exact ⟨rfl, rfl, rfl, rfl, by rw [HEV.out]; rfl, rfl⟩⟩, HW.out⟩
        · cases hb : (x.b == t)
          · have HEV : Hid ((m.l.take (k + 1)).any (oneF loc t) = false) := Lib.hid (by rw [HEN.out, HO1.out hl, hb]; rfl)
            clear HO0 HO1 HEN
            go_wp2_with fail
            refine Handed.intro (m.l.length - (k + 1)) (by have := HKL.out; omega) ?_
            refine hJ _ _ _ ?_
            exact ⟨k + 1, HKL.out, rfl, ⟨rfl, rfl, by simp only [List.mem_cons, List.not_mem_nil, or_false, forall_eq_or_imp, forall_eq]; exact ⟨rfl, rfl, rfl, rfl, by rw [HEV.out]; rfl, rfl⟩⟩, HW.out⟩
          · have HEV : Hid ((m.l.take (k + 1)).any (oneF loc t) = true) := Lib.hid (by rw [HEN.out, HO1.out hl, hb]; rfl)
            clear HO0 HO1 HEN
            go_wp2_with fail
            refine Handed.intro (m.l.length - (k + 1)) (by have := HKL.out; omega) ?_
            refine hJ _ _ _ ?_
            exact ⟨k + 1, HKL.out, rfl, ⟨rfl, rfl, by simp only [List.mem_cons, List.not_mem_nil, or_false, forall_eq_or_imp, forall_eq]; exact ⟨rfl, rfl, rfl, rfl, by rw [HEV.out]; rfl, rfl⟩⟩, HW.out⟩
      · have HEV : Hid ((m.l.take (k + 1)).any (oneF loc t) = true) := Lib.hid (by rw [HEN.out]; rfl)
        clear HO0 HO1 HEN
        go_wp2_with fail
        refine Handed.intro (m.l.length - (k + 1)) (by have := HKL.out; omega) ?_
        refine hJ _ _ _ ?_
        exact ⟨k + 1, HKL.out, rfl, ⟨rfl, rfl, by simp only [List.mem_cons, List.not_mem_nil, or_false, forall_eq_or_imp, forall_eq]; exact ⟨rfl, rfl, rfl, rfl, by rw [HEV.out]; rfl, rfl⟩⟩, HW.out⟩
    · obtain rfl : k = m.l.length := by omega
      have k1 : ¬ ((m.l.length : Int) < (m.l.length : Int)) := by omega
      rw [HTK.out]
      generalize m.l.any (oneF loc t) = fin at HBD ⊢
      generalize allD m loc = all at HBD HC HAL
      clear hlt hk
      go_wp2_with fail
      refine (HC.out wr HW.out.hold).mono ?_
      rintro e w1 ⟨ra, da, rfl, hra, hb⟩
      have HRA := Lib.hid hra
      have HB1 := Lib.hid (HW.out.low.trans (hb.mono HW.out.low.size))
      have H1 : Hid (OneAt w1.heap.size w1 none 0 [] w1) := Lib.hid ⟨nil_cut _ _ _ _, Below.refl _ _⟩
      have HTA : Hid (all.take all.length = all) := Lib.hid (List.take_length ..)
      have i2 : (all.length : Int) ≤ 160 := by have := HAL.out; omega
      clear hra hb b0 b1 lb HW HC
      go_wp2_with fail
      refine wp_loop_ghost_k (fun n A W => ∃ (k : Nat) (r : Option Addr) (d : Nat), k ≤ all.length ∧ n = all.length - k ∧ (fin = false → k = 0) ∧ Fr 68 [(2, .int .i64 t), (7, .slice r ((all.take k).filter (fun r => decide (r.1 = t))).length d), (8, .bool fin), (10, .slice ra all.length da), (11, .int .i64 (k : Nat))] A ∧ OneAt w1.heap.size w1 r d ((all.take k).filter (fun r => decide (r.1 = t))) W) all.length ?_ ?_
      · exact ⟨0, none, 0, by omega, by omega, fun _ => rfl, ⟨rfl, rfl, by simp only [List.mem_cons, List.not_mem_nil, or_false, forall_eq_or_imp, forall_eq]; exact ⟨rfl, rfl, rfl, rfl, rfl⟩⟩, H1.out⟩
      · rintro n ⟨T, D⟩ wr ⟨k, r, d, hk, rfl, hfin, hF, hW⟩ J K hJ hK
        obtain ⟨hsz, hdf, hat⟩ := hF
        simp only [List.mem_cons, List.not_mem_nil, or_false, forall_eq_or_imp, forall_eq] at hsz hdf hat
        obtain ⟨q0, q1, q2, q3, q4⟩ := hat
        subst hdf
        have hsp := spread T 68 hsz
        simp only [List.range, List.range.loop, List.map_cons, List.map_nil, q0, q1, q2, q3, q4] at hsp
        rw [hsp]
        clear hsp hsz q0 q1 q2 q3 q4
        have HW := Lib.hid hW
        have HFIN := Lib.hid hfin
        have HFL : Hid (((all.take k).filter (fun r => decide (r.1 = t))).length ≤ 160) := Lib.hid (by
          have h1 := List.length_filter_le (fun r : Int × Int => decide (r.1 = t)) (all.take k)
          rw [List.length_take] at h1
          have := HAL.out; omega)
        clear hW hfin H1
        have HDONE : Hid (k = all.length ∨ fin = false → GivesQ out w (.returned (.slice r ((all.take k).filter (fun r => decide (r.1 = t))).length d)) wr) := Lib.hid fun h => by
          have e : out = (all.take k).filter (fun r => decide (r.1 = t)) := by
            rw [HBD.out]
            cases hf : fin
            · rw [HFIN.out hf]; rfl
            · rcases h with rfl | h
              · rw [List.take_length]; rfl
              · rw [hf] at h; cases h
          exact ⟨r, d, by rw [e], by rw [e]; exact HW.out.cut.lay, HB1.out.trans (HW.out.low.mono HB1.out.size)⟩
        by_cases hlt : k < all.length
        · cases fin
          · have HRES := Lib.hid (HDONE.out (.inr rfl))
            have j1 : (k : Int) < (all.length : Int) := by omega
            clear hlt hk HDONE
            go_wp2_with fail
            go_ret
            exact HRES.out
          · have hpt : all[k]? = some all[k] := List.getElem?_eq_getElem hlt
            have HPT := Lib.hid hpt
            have HRN := Lib.hid (rows_next hpt t)
            obtain ⟨g2, o2, hr2, lg2, e0, e1⟩ := pr_at (HRA.out.below HW.out.low) hpt
            generalize all[k] = z at HPT HRN e0 e1
            obtain ⟨za, zb⟩ := z
            dsimp only at e0 e1
            have j1 : (k : Int) < (all.length : Int) := by omega
            have j0 : (0 : Int) ≤ (k : Int) := by omega
            have HKL := Lib.hid hlt
            clear hpt hlt hk HDONE
            subst hr2
            cases hz : (za == t)
            · have HRN2 : Hid ((all.take (k + 1)).filter (fun r => decide (r.1 = t)) = (all.take k).filter (fun r => decide (r.1 = t))) := Lib.hid (by rw [HRN.out, if_neg (by simpa using hz), List.append_nil])
              go_wp2_with fail
              refine Handed.intro (all.length - (k + 1)) (by have := HKL.out; omega) ?_
              refine hJ _ _ _ ?_
              exact ⟨k + 1, r, d, HKL.out, rfl, fun h => (by cases h), ⟨rfl, rfl, by simp only [List.mem_cons, List.not_mem_nil, or_false, forall_eq_or_imp, forall_eq]; exact ⟨rfl, by rw [HRN2.out]; rfl, rfl, rfl, rfl⟩⟩, by rw [HRN2.out]; exact HW.out⟩
            · have HRN2 : Hid ((all.take (k + 1)).filter (fun r => decide (r.1 = t)) = (all.take k).filter (fun r => decide (r.1 = t)) ++ [(za, zb)]) := Lib.hid (by rw [HRN.out, if_pos (by simpa using hz)])
              have HC := Lib.hid (HW.out.grown HW.out.low.size (one_low wr (.cells #[.int .i64 za, .int .i64 zb] 57)))
              have HL : Hid (Lay (wr.alloc (.cells #[.int .i64 za, .int .i64 zb] 57)) (some ⟨wr.heap.size, 0, none⟩) (cellsOf prL [(za, zb)])) := Lib.hid (lay_new (Sits.new wr _ _) ⟨[], rfl⟩)
              have HSZ := Lib.hid HC.out.low.size
              generalize (all.take k).filter (fun r => decide (r.1 = t)) = pre at HFL HRN2 HW HC ⊢
              go_wp2_with (at_builtin; refine wpList_append_cut2 rowPr rfl _ _ rfl (B := w1.heap.size) (r := r) (n := pre.length) (d := d) (xs := cellsOf prL pre) rfl HC.out.cut HSZ.out (some ⟨wr.heap.size, 0, none⟩) 1 1 (cellsOf prL [(za, zb)]) rfl rfl HL.out (pr_one _) (by unfold maxLen; have := HFL.out; omega) (by have := HFL.out; omega) ?_)
              intro r5 d5 W5 hg hf hb hc
              have HO5 : Hid (OneAt w1.heap.size w1 r5 d5 (pre ++ [(za, zb)]) W5) := Lib.hid ⟨by rw [show (pre ++ [(za, zb)]).length = pre.length + 1 by simp, cells_append]; exact hc, HC.out.low.trans hb⟩
              have HLN : Hid ((pre ++ [(za, zb)]).length = pre.length + 1) := Lib.hid (by simp)
              clear hg hf hb hc HC HL e0 e1 lg2
              go_wp2_with fail
              refine Handed.intro (all.length - (k + 1)) (by have := HKL.out; omega) ?_
              refine hJ _ _ _ ?_
              exact ⟨k + 1, r5, d5, HKL.out, rfl, fun h => (by cases h), ⟨rfl, rfl, by simp only [List.mem_cons, List.not_mem_nil, or_false, forall_eq_or_imp, forall_eq]; exact ⟨rfl, by rw [HRN2.out, HLN.out]; rfl, rfl, rfl, rfl⟩⟩, by rw [HRN2.out]; exact HO5.out⟩
        · obtain rfl : k = all.length := by omega
          have k1 : ¬ ((all.length : Int) < (all.length : Int)) := by omega
          have HRES := Lib.hid (HDONE.out (.inl rfl))
          rw [HTA.out] at HRES
          clear hlt hk HDONE
          go_wp2_with fail
          go_ret
          exact HRES.out
end Go.Proofs.Ytgkgpehjedmejaa.Plc
namespace Go.Proofs.Ytgkgpehjedmejaa.Plc
open Go.RowKit Go.Shelf Go.Proofs.Ytgkgpehjedmejaa.Mem Go.Proofs.Ytgkgpehjedmejaa.Flow Go.Proofs.Ytgkgpehjedmejaa.Mmr Go.Proofs.Ytgkgpehjedmejaa.Cap

set_option maxRecDepth 100000 in
set_option maxHeartbeats 4000000 in
theorem same15_any (l : List (Int × Int)) (hl : l.length ≤ 4000) (hm : ∀ r ∈ l, mayP r = true) (p q : Option Addr) (c d : Nat) (w : World) (hp : Lay w p (cellsOf spL l)) (hq : Lay w q (cellsOf prL l)) :
    Calls Try.prog 6 #[.slice p l.length c, .slice q l.length d] w (Made (.returned (.bool true)) w) := by
  have HP := Lib.hid hp
  have HQ := Lib.hid hq
  have HM := Lib.hid hm
  have i1 : (l.length : Int) ≤ 4000 := by omega
  have i2 : ((l.length : Int) != (l.length : Int)) = false := by simp
  clear hp hq hm hl
  go_enter Try.func6, Try.ntmps6
  go_wp2_with fail
  go_loopg [5] l.length (fun gg v5 wx => ∃ k, k ≤ l.length ∧ gg = l.length - k ∧ v5 = .int .i64 (k : Nat) ∧ Hid (Below w.heap.size w wx))
  case atStart => exact ⟨0, by omega, by omega, rfl, Lib.hid (Below.refl _ _)⟩
  case round =>
    obtain ⟨k, hk, rfl, rfl, HB⟩ := hrel
    by_cases hlt : k < l.length
    · have hx : l[k]? = some l[k] := List.getElem?_eq_getElem hlt
      have HSP := Lib.hid (Spn.sp_fl (HM.out _ (List.getElem_mem hlt)))
      obtain ⟨g, o, hpe, lg, c0⟩ := sp_at (HP.out.below HB.out) hx
      obtain ⟨g', o', hqe, lg', d0, d1⟩ := pr_at (HQ.out.below HB.out) hx
      generalize l[k] = z at HSP c0 d0 d1
      obtain ⟨za, zb⟩ := z
      dsimp only at HSP c0 d0 d1
      subst hpe hqe
      have j1 : (k : Int) < (l.length : Int) := by omega
      have j0 : (0 : Int) ≤ (k : Int) := by omega
      have z1 : (za != za) = false := by simp
      have z2 : (zb != zb) = false := by simp
      have HF := Lib.hid (Spn.from_any HSP.out)
      have HT := Lib.hid (Spn.to_any HSP.out)
      have HY := Lib.hid (Spn.may_any HSP.out.wre HSP.out.wim)
      have HMM := Lib.hid HSP.out.may
      rw [HMM.out] at HY
      have HKL := Lib.hid hlt
      clear hx hlt hk
      go_wp2_with fail
      go_quiet (first | refine quiet_eq (HF.out _) | refine quiet_eq (HT.out _) | refine quiet_eq (HY.out _))
      go_wp2_with fail
      go_roundg (l.length - (k + 1))
      case measure => have := HKL.out; omega
      case rel => exact ⟨k + 1, by have := HKL.out; omega, rfl, by go_num, Lib.hid (drewN_below HB.out _)⟩
    · obtain rfl : k = l.length := by omega
      go_wp2_with fail
      go_ret
      exact ⟨rfl, HB.out⟩
def x5 : It := ⟨0, 3, 6, 5, Vew.zeroF, false, -1⟩
theorem fw_1 : fw 1 = 4607182418800017408 := by decide
theorem fw_6 : fw 6 = 4618441417868443648 := by decide
theorem fw_7 : fw 7 = 4619567317775286272 := by decide
theorem fw_8 : fw 8 = 4620693217682128896 := by decide
abbrev cells5 : Array Value := #[.int .i64 0, .complex .f64 4613937818241073152 4618441417868443648, .int .u64 5, .int .i64 0, .int .i64 0, .int .i64 0, .int .i64 0, .int .i64 0, .int .i64 0, .int .i64 0, .int .i64 0, .bool false, .int .i64 (-1)]
theorem cells5_eq : itCells x5 = cells5 := by simp only [itCells, x5, fw_3, fw_6]; rfl
structure Wk15 (m0 m1 : Mm) : Prop where
  e0 : beginE [7] = (m0, 0)
  e1 : addF m0 x5 = (m1, 0)
  e2 : allF (listF m1 0) = [(0, 3), (0, 1), (1, 3), (1, 2), (6, 7), (7, 8)]
  e3 : behF (listF m1 0) 6 = [(6, 7)]
  o0 : OkM m0
  o1 : OkM m1
theorem wk15_there : ∃ m0 m1, Wk15 m0 m1 := by
  have o0 : OkM (beginL [7]) := ok_begin (by decide) (by decide)
  have o1 := ok_add o0 x5
  refine ⟨beginL [7], (addF (beginL [7]) x5).1, rfl, pair_of ?_, ?_, ?_, o0, o1⟩
  · rfl
  · rfl
  · rfl
theorem eq_lit {x y : Nat} {a : Int} (hx : Spn.Is x a) (hy : Spn.Is y a) : (FloatKind.f64.format.order x y == some .eq) = true := by rw [Spn.order_same hx hy]; simp
set_option maxRecDepth 100000 in
set_option maxHeartbeats 4000000 in
theorem wakes15_any (w : World) : Calls Try.prog 4 #[] w (Made (.returned (.bool true)) w) := by
  obtain ⟨m0, m1, hk⟩ := wk15_there
  have HK := Lib.hid hk
  clear hk
  have HB0 := Lib.hid (one_low w (.cells #[.int .u64 7] 44))
  have HN : Hid (Nums (w.alloc (.cells #[.int .u64 7] 44)) (some ⟨w.heap.size, 0, none⟩) [7]) := Lib.hid fun k x hx => by
    match k, hx with
    | 0, hx => injection hx with hx; subst hx; exact ⟨_, _, rfl, by simp, (cell_of_row _ _ 0 _ _ _ (Sits.new w 44 #[.int .u64 7])).trans rfl⟩
  go_enter Try.func4, Try.ntmps4
  go_wp2_with fail
  generalize w.alloc (.cells #[.int .u64 7] 44) = w0 at HB0 HN ⊢
  have HC := Lib.hid (begin_any (some ⟨w.heap.size, 0, none⟩) 1 [7] (by simp) w0 HN.out)
  rw [HK.out.e0] at HC
  refine HC.out.mono ?_
  rintro e w1 ⟨p0, c0, rfl, hh, hb⟩
  dsimp only at hh ⊢
  have S1 := Lib.hid (Sits.new w1 28 (memCells p0 c0 m0))
  have HH := Lib.hid (hh.below (one_low w1 (.cells (memCells p0 c0 m0) 28)))
  have HB1 : Hid (Below w.heap.size w (w1.alloc (.cells (memCells p0 c0 m0) 28))) := Lib.hid (HB0.out.trans ((hb.trans ((one_low w1 (.cells (memCells p0 c0 m0) 28)).mono hb.size)).mono HB0.out.size))
  have G1 : Hid (w.heap.size ≤ w1.heap.size) := Lib.hid (Nat.le_trans HB0.out.size hb.size)
  clear hb hh HC
  go_upto_region 2 with (fail)
  generalize w1.alloc (.cells (memCells p0 c0 m0) 28) = w2 at S1 HH HB1 ⊢
  generalize w1.heap.size = g1 at S1 G1 ⊢
  have HCA : Hid (Calls Try.prog 12 #[memV p0 c0 m0, .agg cells5] w2 (GivesE (m1, 0) w2)) := Lib.hid (by
    have h := add_any p0 c0 m0 HK.out.o0 x5 (fit_may (by decide)) w2 HH.out
    rw [HK.out.e1, show itV x5 = .agg cells5 from congrArg Value.agg cells5_eq] at h; exact h)
  have b0 : w2.cell? ⟨g1, 0, none⟩ = some (.slice (p0 0) (m0.row 0).length (c0 0)) := S1.out.cell 0
  have b1 : w2.cell? ⟨g1, 1, none⟩ = some (.slice (p0 1) (m0.row 1).length (c0 1)) := S1.out.cell 1
  have b2 : w2.cell? ⟨g1, 2, none⟩ = some (.slice (p0 2) (m0.row 2).length (c0 2)) := S1.out.cell 2
  have b3 : w2.cell? ⟨g1, 3, none⟩ = some (.slice (p0 3) (m0.row 3).length (c0 3)) := S1.out.cell 3
  have b4 : w2.cell? ⟨g1, 4, none⟩ = some (.int .i64 (m0.n : Nat)) := S1.out.cell 4
  have lb := S1.out.lt
  go_wp2_with fail
  refine HCA.out.mono ?_
  rintro e w3 ⟨p1, c1, rfl, hh, hb⟩
  dsimp only at hh ⊢
  have S1b := Lib.hid (S1.out.below hb S1.out.lt)
  have HH1 := Lib.hid hh
  have HB3 := Lib.hid (HB1.out.trans (hb.mono HB1.out.size))
  clear hb hh HCA b0 b1 b2 b3 b4 lb HH
  go_upto_region 3 with (refine wpList_store_row rfl 28 _ _ rfl g1 (memCells p1 c1 m1) rfl rfl 28 _ S1b.out memSize rfl (mem_one _ _ _) ?_)
  have S1c : Hid (Sits (w3.setRow g1 (memCells p1 c1 m1)) g1 28 (memCells p1 c1 m1)) := Lib.hid (setRow_heap w3 _ _ _ _ _ S1b.out)
  have HH2 := Lib.hid (hold_over HH1.out S1b.out (mem_plain _ _ _) (memCells p1 c1 m1))
  have HB4 := Lib.hid (row_low HB3.out G1.out (memCells p1 c1 m1))
  clear S1b HH1 HB3
  generalize w3.setRow g1 (memCells p1 c1 m1) = w4 at S1c HH2 HB4 ⊢
  have b0 : w4.cell? ⟨g1, 0, none⟩ = some (.slice (p1 0) (m1.row 0).length (c1 0)) := S1c.out.cell 0
  have b1 : w4.cell? ⟨g1, 1, none⟩ = some (.slice (p1 1) (m1.row 1).length (c1 1)) := S1c.out.cell 1
  have b2 : w4.cell? ⟨g1, 2, none⟩ = some (.slice (p1 2) (m1.row 2).length (c1 2)) := S1c.out.cell 2
  have b3 : w4.cell? ⟨g1, 3, none⟩ = some (.slice (p1 3) (m1.row 3).length (c1 3)) := S1c.out.cell 3
  have b4 : w4.cell? ⟨g1, 4, none⟩ = some (.int .i64 (m1.n : Nat)) := S1c.out.cell 4
  have lb := S1c.out.lt
  have HCC := Lib.hid (all_any p1 c1 m1 HK.out.o1 0 w4 HH2.out)
  rw [HK.out.e2] at HCC
  go_wp2_with fail
  refine HCC.out.mono ?_
  rintro e w5 ⟨r4, d4, rfl, hr, hb⟩
  have HR4 := Lib.hid hr
  have S1d := Lib.hid (S1c.out.below hb S1c.out.lt)
  have HB5 := Lib.hid (HB4.out.trans (hb.mono HB4.out.size))
  have HCB := Lib.hid (behind_any p1 c1 m1 HK.out.o1 0 6 w5 (HH2.out.below hb))
  rw [HK.out.e3] at HCB
  clear hb hr HCC b0 b1 b2 b3 b4 lb S1c HH2 HB4
  have b0 : w5.cell? ⟨g1, 0, none⟩ = some (.slice (p1 0) (m1.row 0).length (c1 0)) := S1d.out.cell 0
  have b1 : w5.cell? ⟨g1, 1, none⟩ = some (.slice (p1 1) (m1.row 1).length (c1 1)) := S1d.out.cell 1
  have b2 : w5.cell? ⟨g1, 2, none⟩ = some (.slice (p1 2) (m1.row 2).length (c1 2)) := S1d.out.cell 2
  have b3 : w5.cell? ⟨g1, 3, none⟩ = some (.slice (p1 3) (m1.row 3).length (c1 3)) := S1d.out.cell 3
  have b4 : w5.cell? ⟨g1, 4, none⟩ = some (.int .i64 (m1.n : Nat)) := S1d.out.cell 4
  have lb := S1d.out.lt
  go_upto_region 4 with (fail)
  go_wp2_with fail
  refine HCB.out.mono ?_
  rintro e w6 ⟨r5, d5, rfl, hr, hb⟩
  have HB6 := Lib.hid (HB5.out.trans (hb.mono HB5.out.size))
  obtain ⟨g5, o5, hp5, l5, e0⟩ := sp_at hr (k := 0) (r := (6, 7)) rfl
  have hr4 := HR4.out.below hb
  obtain ⟨g4, o4, hp4, l4, f0⟩ := sp_at hr4 (k := 0) (r := (0, 3)) rfl
  obtain ⟨g4', o4', hp4', _, f2⟩ := sp_at hr4 (k := 2) (r := (1, 3)) rfl
  obtain ⟨g4'', o4'', hp4'', _, f5⟩ := sp_at hr4 (k := 5) (r := (7, 8)) rfl
  subst hp5 hp4
  injection hp4' with hp4'; injection hp4' with hA hB; subst hA hB
  injection hp4'' with hp4''; injection hp4'' with hA hB; subst hA hB
  simp only [fw_0, fw_1, fw_3, fw_6, fw_7, fw_8, Nat.add_zero] at e0 f0 f2 f5
  clear hr hb hr4 HCB b0 b1 b2 b3 b4 lb S1d HB5 HR4
  have q0 := eq_lit Spn.is_0 Spn.is_0
  have q1 : (FloatKind.f64.format.order 4607182418800017408 4607182418800017408 == some .eq) = true := by rw [← fw_1]; exact eq_lit (fw_is (a := 1) (by decide)) (fw_is (by decide))
  have q3 : (FloatKind.f64.format.order 4613937818241073152 4613937818241073152 == some .eq) = true := by rw [← fw_3]; exact eq_lit (fw_is (a := 3) (by decide)) (fw_is (by decide))
  have q6 : (FloatKind.f64.format.order 4618441417868443648 4618441417868443648 == some .eq) = true := by rw [← fw_6]; exact eq_lit (fw_is (a := 6) (by decide)) (fw_is (by decide))
  have q7 : (FloatKind.f64.format.order 4619567317775286272 4619567317775286272 == some .eq) = true := by rw [← fw_7]; exact eq_lit (fw_is (a := 7) (by decide)) (fw_is (by decide))
  have q8 : (FloatKind.f64.format.order 4620693217682128896 4620693217682128896 == some .eq) = true := by rw [← fw_8]; exact eq_lit (fw_is (a := 8) (by decide)) (fw_is (by decide))
  go_wp2_with fail
  go_ret
  exact ⟨rfl, HB6.out⟩
end Go.Proofs.Ytgkgpehjedmejaa.Plc
namespace Go.Proofs.Ytgkgpehjedmejaa.Plc
open Go.RowKit Go.Shelf Go.Proofs.Ytgkgpehjedmejaa.Mem Go.Proofs.Ytgkgpehjedmejaa.Flow Go.Proofs.Ytgkgpehjedmejaa.Mmr Go.Proofs.Ytgkgpehjedmejaa.Cap

def spsW (l : List (Int × Int)) : Value → World → Prop := fun u W => ∃ r d, Lay W r (cellsOf spL l) ∧ u = .slice r l.length d
theorem spsW_mono (l : List (Int × Int)) : Mono (spsW l) := fun _ _ _ ⟨p, c, h, e⟩ hb => ⟨p, c, h.below hb, e⟩
def prsW (l : List (Int × Int)) : Value → World → Prop := fun u W => ∃ r d, Lay W r (cellsOf prL l) ∧ u = .slice r l.length d
theorem prsW_mono (l : List (Int × Int)) : Mono (prsW l) := fun _ _ _ ⟨p, c, h, e⟩ hb => ⟨p, c, h.below hb, e⟩
structure PtAt (w : World) (gm gd : Nat) (p : Nat → Option Addr) (c : Nat → Nat) (m : Mm) (q : Option Addr) (d : Nat) (dm : Dm) (W : World) : Prop where
  at9 : Sits W gm 28 (memCells p c m)
  at10 : Sits W gd 30 (dmCells q d dm)
  hold : Hold W p c m
  holdD : HoldD W q d dm
  low : Below w.heap.size w W
theorem PtAt.grown {w W W' : World} {gm gd : Nat} {p : Nat → Option Addr} {c : Nat → Nat} {m : Mm} {q : Option Addr} {d : Nat} {dm : Dm} (h : PtAt w gm gd p c m q d dm W) (hb : Below W.heap.size W W') : PtAt w gm gd p c m q d dm W' :=
  ⟨h.at9.below hb h.at9.lt, h.at10.below hb h.at10.lt, h.hold.below hb, h.holdD.below hb, h.low.trans (hb.mono h.low.size)⟩
theorem all_may (l : List It) : ∀ r ∈ allF l, mayP r = true := upto_may l _
theorem beh_may (l : List It) (t : Int) : ∀ r ∈ behF l t, mayP r = true := fun r h => by
  unfold behF at h
  split at h
  · exact all_may l r (List.mem_filter.1 h).1
  · simp at h
theorem all_few {m : Mm} (hO : OkM m) (loc : Int) : (allF (listF m loc)).length ≤ 4000 := by
  have := upto_len (listF m loc) (listF m loc).length
  have := listF_few hO loc
  unfold allF; omega
theorem beh_few {m : Mm} (hO : OkM m) (loc t : Int) : (behF (listF m loc) t).length ≤ 4000 := by
  unfold behF
  split
  · exact Nat.le_trans (List.length_filter_le _ _) (all_few hO loc)
  · simp
set_option maxRecDepth 100000 in
set_option maxHeartbeats 8000000 in
theorem places_law (start : List Int) (l : List It) (loc t : Int) (ps pl : Option Addr) (cs cl : Nat) (w : World) (hN : Nums w ps start) (hL : Rts w pl l) (hsl : start.length ≤ 9223372036854775807) (hll : l.length ≤ 9223372036854775807) :
    Calls Try.prog 3 #[.slice ps start.length cs, .slice pl l.length cl, .int .i64 loc, .int .i64 t] w (Made (.returned (.bool true)) w) := by
  have i1 : (start.length : Int) ≤ 9223372036854775807 := by omega
  have i2 : (l.length : Int) ≤ 9223372036854775807 := by omega
  by_cases h1 : 150 < l.length
  · have k0 : (150 : Int) < (l.length : Int) := by omega
    clear hsl hll h1 hN hL
    go_enter Try.func3, Try.ntmps3
    go_wp2_with fail
    refine (wakes15_any _).mono ?_
    rintro e w1 ⟨rfl, hb⟩
    have HB := Lib.hid hb
    clear hb
    go_wp2_with fail
    go_ret
    exact ⟨rfl, HB.out⟩
  by_cases h2 : start.length < 1
  · have k0 : ¬ (150 : Int) < (l.length : Int) := by omega
    have k1 : (start.length : Int) < 1 := by omega
    clear hsl hll h1 h2 hN hL
    go_enter Try.func3, Try.ntmps3
    go_wp2_with fail
    refine (wakes15_any _).mono ?_
    rintro e w1 ⟨rfl, hb⟩
    have HB := Lib.hid hb
    clear hb
    go_wp2_with fail
    go_ret
    exact ⟨rfl, HB.out⟩
  by_cases h3 : 4 < start.length
  · have k0 : ¬ (150 : Int) < (l.length : Int) := by omega
    have k1 : ¬ (start.length : Int) < 1 := by omega
    have k2 : (4 : Int) < (start.length : Int) := by omega
    clear hsl hll h1 h2 h3 hN hL
    go_enter Try.func3, Try.ntmps3
    go_wp2_with fail
    refine (wakes15_any _).mono ?_
    rintro e w1 ⟨rfl, hb⟩
    have HB := Lib.hid hb
    clear hb
    go_wp2_with fail
    go_ret
    exact ⟨rfl, HB.out⟩
  have k0 : ¬ (150 : Int) < (l.length : Int) := by omega
  have k1 : ¬ (start.length : Int) < 1 := by omega
  have k2 : ¬ (4 : Int) < (start.length : Int) := by omega
  have HC := Lib.hid (made_any start l ps pl cs cl w hN hL (by omega) (by omega) (by omega))
  clear hsl hll h1 h2 h3 hN hL
  go_enter Try.func3, Try.ntmps3
  go_wp2_with fail
  refine HC.out.mono ?_
  rintro e w1 ⟨p, c, m, q, d, dm, rfl, hh, hd, hR, hmn, hb⟩
  clear hmn
  have HO := Lib.hid hR.ok
  have HT : Hid (PtAt w w1.heap.size (w1.heap.size + 1) p c m q d dm ((w1.alloc (.cells (memCells p c m) 28)).alloc (.cells (dmCells q d dm) 30))) := Lib.hid
    ⟨(Sits.new _ _ _).alloc _, Sits.made (by simp) _ _, hh.below (two_low _ _ _), hd.below (two_low _ _ _), hb.trans ((two_low _ _ _).mono hb.size)⟩
  have HCA : Hid (∀ W, HoldD W q d dm → Calls Try.prog 8 #[dmV q d dm, .int .i64 loc] W (GivesQ (allF (listF m loc)) W)) := Lib.hid fun W h => by
    rw [all_same hR]
    exact dall_any q d dm (by have := rep_len hR; omega) loc (by rw [rep_list hR]; exact listF_may hR.ok loc) (by rw [rep_list hR]; exact listF_few hR.ok loc) W h
  have HCB : Hid (∀ W, HoldD W q d dm → Calls Try.prog 10 #[dmV q d dm, .int .i64 loc, .int .i64 t] W (GivesQ (behF (listF m loc) t) W)) := Lib.hid fun W h => by
    rw [beh_same hR]
    exact dbehind_any q d dm (by have := rep_len hR; omega) loc t (by rw [rep_list hR]; exact listF_may hR.ok loc) (by rw [rep_list hR]; exact listF_few hR.ok loc) W h
  have HAL := Lib.hid (all_few hR.ok loc)
  have HAM := Lib.hid (all_may (listF m loc))
  have HBL := Lib.hid (beh_few hR.ok loc t)
  have HBM := Lib.hid (beh_may (listF m loc) t)
  clear hh hd hR hb HC
  go_upto_region 4 with (fail)
  generalize (w1.alloc (.cells (memCells p c m) 28)).alloc (.cells (dmCells q d dm) 30) = w2 at HT ⊢
  generalize w1.heap.size + 1 = gd at HT ⊢
  generalize w1.heap.size = gm at HT ⊢
  go_upto_region 6 with (fail)
  refine wp_flowG [35, 36, 37, 38, 39, 40, 41, 42, 43, 44, 45, 46, 47, 48, 49, 50, 51, 52, 53, 54, 55] [eqV (.agg #[.slice (p 0) (m.row 0).length (c 0), .slice (p 1) (m.row 1).length (c 1), .slice (p 2) (m.row 2).length (c 2), .slice (p 3) (m.row 3).length (c 3), .int .i64 (m.n : Nat)]), eqV (.int .i64 loc), spsW (allF (listF m loc)), eqV (.agg #[.int .i64 (dm.n : Nat), .slice q dm.l.length d]), eqV (.int .i64 loc), prsW (allF (listF m loc)), eqV (.bool true), eqV (.bool true), eqV (.agg #[.slice (p 0) (m.row 0).length (c 0), .slice (p 1) (m.row 1).length (c 1), .slice (p 2) (m.row 2).length (c 2), .slice (p 3) (m.row 3).length (c 3), .int .i64 (m.n : Nat)]), eqV (.int .i64 loc), eqV (.int .i64 t), spsW (behF (listF m loc) t), eqV (.agg #[.int .i64 (dm.n : Nat), .slice q dm.l.length d]), eqV (.int .i64 loc), eqV (.int .i64 t), prsW (behF (listF m loc) t), eqV (.bool true), eqV (.bool true), eqV (.bool true), eqV (.bool true), eqV (.bool true)] (by kernel_rfl) (by kernel_rfl) (by kernel_rfl) (by kernel_rfl) (by rfl)
    (by simp only [List.mem_cons, List.not_mem_nil, or_false, forall_eq_or_imp, forall_eq]; refine ⟨?_, ?_, ?_, ?_, ?_, ?_, ?_, ?_, ?_, ?_, ?_, ?_, ?_, ?_, ?_, ?_, ?_, ?_, ?_, ?_, ?_⟩ <;> (first | exact eqV_mono _ | exact spsW_mono _ | exact prsW_mono _)) ?_ ?_
  · intro i o hi ho A W hW hk he
    simp only [List.length_cons, List.length_nil, Nat.zero_add, Nat.reduceAdd] at hi
    obtain rfl | rfl | rfl | rfl | rfl | rfl | rfl | rfl | rfl | rfl | rfl | rfl | rfl | rfl | rfl | rfl | rfl | rfl | rfl | rfl | rfl : i = 0 ∨ i = 1 ∨ i = 2 ∨ i = 3 ∨ i = 4 ∨ i = 5 ∨ i = 6 ∨ i = 7 ∨ i = 8 ∨ i = 9 ∨ i = 10 ∨ i = 11 ∨ i = 12 ∨ i = 13 ∨ i = 14 ∨ i = 15 ∨ i = 16 ∨ i = 17 ∨ i = 18 ∨ i = 19 ∨ i = 20 := by omega
    · injection ho with ho; subst ho
      refine .inl ⟨wanted_free rfl, ?_⟩
      have h9 : A.tmps[9]?.getD undef = .pointer (some ⟨gm, 0, none⟩) := hk 9 (by rfl)
      have c0 := ((HT.out.grown hW).at9).cell 0
      have c1 := ((HT.out.grown hW).at9).cell 1
      have c2 := ((HT.out.grown hW).at9).cell 2
      have c3 := ((HT.out.grown hW).at9).cell 3
      have c4 := ((HT.out.grown hW).at9).cell 4
      go_simp
      exact ⟨rfl, Below.refl _ _⟩
    · injection ho with ho; subst ho
      refine .inl ⟨wanted_free rfl, ?_⟩
      have h2 : A.tmps[2]?.getD undef = .int .i64 loc := hk 2 (by rfl)
      go_simp
      exact ⟨rfl, Below.refl _ _⟩
    · injection ho with ho; subst ho
      refine .inl ⟨wanted_free rfl, ?_⟩
      have h35 : A.tmps[35]?.getD undef = .agg #[.slice (p 0) (m.row 0).length (c 0), .slice (p 1) (m.row 1).length (c 1), .slice (p 2) (m.row 2).length (c 2), .slice (p 3) (m.row 3).length (c 3), .int .i64 (m.n : Nat)] := he 0 (by kernel_rfl)
      have h36 : A.tmps[36]?.getD undef = .int .i64 loc := he 1 (by kernel_rfl)
      go_simp
      refine Calls.mono (all_any p c m HO.out loc W (HT.out.grown hW).hold) ?_
      rintro e' w' ⟨r2, d2, rfl, hh, hb⟩
      exact ⟨_, rfl, ⟨r2, d2, hh, rfl⟩, hb⟩
    · injection ho with ho; subst ho
      refine .inl ⟨wanted_free rfl, ?_⟩
      have h10 : A.tmps[10]?.getD undef = .pointer (some ⟨gd, 0, none⟩) := hk 10 (by rfl)
      have c0 := ((HT.out.grown hW).at10).cell 0
      have c1 := ((HT.out.grown hW).at10).cell 1
      go_simp
      exact ⟨rfl, Below.refl _ _⟩
    · injection ho with ho; subst ho
      refine .inl ⟨wanted_free rfl, ?_⟩
      have h2 : A.tmps[2]?.getD undef = .int .i64 loc := hk 2 (by rfl)
      go_simp
      exact ⟨rfl, Below.refl _ _⟩
    · injection ho with ho; subst ho
      refine .inl ⟨wanted_free rfl, ?_⟩
      have h38 : A.tmps[38]?.getD undef = .agg #[.int .i64 (dm.n : Nat), .slice q dm.l.length d] := he 3 (by kernel_rfl)
      have h39 : A.tmps[39]?.getD undef = .int .i64 loc := he 4 (by kernel_rfl)
      go_simp
      refine Calls.mono (HCA.out W (HT.out.grown hW).holdD) ?_
      rintro e' w' ⟨r2, d2, rfl, hh, hb⟩
      exact ⟨_, rfl, ⟨r2, d2, hh, rfl⟩, hb⟩
    · injection ho with ho; subst ho
      refine .inl ⟨wanted_free rfl, ?_⟩
      obtain ⟨r37, d37, H37, h37⟩ : spsW (allF (listF m loc)) (A.tmps[37]?.getD undef) W := he 2 (by kernel_rfl)
      obtain ⟨r40, d40, H40, h40⟩ : prsW (allF (listF m loc)) (A.tmps[40]?.getD undef) W := he 5 (by kernel_rfl)
      go_simp
      refine Calls.mono (same15_any (allF (listF m loc)) HAL.out HAM.out r37 r40 d37 d40 W H37 H40) ?_
      rintro e' w' ⟨rfl, hb⟩
      exact ⟨_, rfl, rfl, hb⟩
    · injection ho with ho; subst ho
      refine .inl ⟨wanted_free rfl, ?_⟩
      have h41 : A.tmps[41]?.getD undef = .bool true := he 6 (by kernel_rfl)
      go_simp
      exact ⟨rfl, Below.refl _ _⟩
    · injection ho with ho; subst ho
      have hg : A.tmps[42]?.getD undef = .bool true := he 7 (by kernel_rfl)
      refine .inl ⟨wanted_yes (d := 42) rfl (by kernel_rfl) hg, ?_⟩
      have h9 : A.tmps[9]?.getD undef = .pointer (some ⟨gm, 0, none⟩) := hk 9 (by rfl)
      have c0 := ((HT.out.grown hW).at9).cell 0
      have c1 := ((HT.out.grown hW).at9).cell 1
      have c2 := ((HT.out.grown hW).at9).cell 2
      have c3 := ((HT.out.grown hW).at9).cell 3
      have c4 := ((HT.out.grown hW).at9).cell 4
      go_simp
      exact ⟨rfl, Below.refl _ _⟩
    · injection ho with ho; subst ho
      have hg : A.tmps[42]?.getD undef = .bool true := he 7 (by kernel_rfl)
      refine .inl ⟨wanted_yes (d := 42) rfl (by kernel_rfl) hg, ?_⟩
      have h2 : A.tmps[2]?.getD undef = .int .i64 loc := hk 2 (by rfl)
      go_simp
      exact ⟨rfl, Below.refl _ _⟩
    · injection ho with ho; subst ho
      have hg : A.tmps[42]?.getD undef = .bool true := he 7 (by kernel_rfl)
      refine .inl ⟨wanted_yes (d := 42) rfl (by kernel_rfl) hg, ?_⟩
      have h3 : A.tmps[3]?.getD undef = .int .i64 t := hk 3 (by rfl)
      go_simp
      exact ⟨rfl, Below.refl _ _⟩
    · injection ho with ho; subst ho
      have hg : A.tmps[42]?.getD undef = .bool true := he 7 (by kernel_rfl)
      refine .inl ⟨wanted_yes (d := 42) rfl (by kernel_rfl) hg, ?_⟩
      have h43 : A.tmps[43]?.getD undef = .agg #[.slice (p 0) (m.row 0).length (c 0), .slice (p 1) (m.row 1).length (c 1), .slice (p 2) (m.row 2).length (c 2), .slice (p 3) (m.row 3).length (c 3), .int .i64 (m.n : Nat)] := he 8 (by kernel_rfl)
      have h44 : A.tmps[44]?.getD undef = .int .i64 loc := he 9 (by kernel_rfl)
      have h45 : A.tmps[45]?.getD undef = .int .i64 t := he 10 (by kernel_rfl)
      go_simp
      refine Calls.mono (behind_any p c m HO.out loc t W (HT.out.grown hW).hold) ?_
      rintro e' w' ⟨r2, d2, rfl, hh, hb⟩
      exact ⟨_, rfl, ⟨r2, d2, hh, rfl⟩, hb⟩
    · injection ho with ho; subst ho
      have hg : A.tmps[42]?.getD undef = .bool true := he 7 (by kernel_rfl)
      refine .inl ⟨wanted_yes (d := 42) rfl (by kernel_rfl) hg, ?_⟩
      have h10 : A.tmps[10]?.getD undef = .pointer (some ⟨gd, 0, none⟩) := hk 10 (by rfl)
      have c0 := ((HT.out.grown hW).at10).cell 0
      have c1 := ((HT.out.grown hW).at10).cell 1
      go_simp
      exact ⟨rfl, Below.refl _ _⟩
    · injection ho with ho; subst ho
      have hg : A.tmps[42]?.getD undef = .bool true := he 7 (by kernel_rfl)
      refine .inl ⟨wanted_yes (d := 42) rfl (by kernel_rfl) hg, ?_⟩
      have h2 : A.tmps[2]?.getD undef = .int .i64 loc := hk 2 (by rfl)
      go_simp
      exact ⟨rfl, Below.refl _ _⟩
    · injection ho with ho; subst ho
      have hg : A.tmps[42]?.getD undef = .bool true := he 7 (by kernel_rfl)
      refine .inl ⟨wanted_yes (d := 42) rfl (by kernel_rfl) hg, ?_⟩
      have h3 : A.tmps[3]?.getD undef = .int .i64 t := hk 3 (by rfl)
      go_simp
      exact ⟨rfl, Below.refl _ _⟩
    · injection ho with ho; subst ho
      have hg : A.tmps[42]?.getD undef = .bool true := he 7 (by kernel_rfl)
      refine .inl ⟨wanted_yes (d := 42) rfl (by kernel_rfl) hg, ?_⟩
      have h47 : A.tmps[47]?.getD undef = .agg #[.int .i64 (dm.n : Nat), .slice q dm.l.length d] := he 12 (by kernel_rfl)
      have h48 : A.tmps[48]?.getD undef = .int .i64 loc := he 13 (by kernel_rfl)
      have h49 : A.tmps[49]?.getD undef = .int .i64 t := he 14 (by kernel_rfl)
      go_simp
      refine Calls.mono (HCB.out W (HT.out.grown hW).holdD) ?_
      rintro e' w' ⟨r2, d2, rfl, hh, hb⟩
      exact ⟨_, rfl, ⟨r2, d2, hh, rfl⟩, hb⟩
    · injection ho with ho; subst ho
      have hg : A.tmps[42]?.getD undef = .bool true := he 7 (by kernel_rfl)
      refine .inl ⟨wanted_yes (d := 42) rfl (by kernel_rfl) hg, ?_⟩
      obtain ⟨r46, d46, H46, h46⟩ : spsW (behF (listF m loc) t) (A.tmps[46]?.getD undef) W := he 11 (by kernel_rfl)
      obtain ⟨r50, d50, H50, h50⟩ : prsW (behF (listF m loc) t) (A.tmps[50]?.getD undef) W := he 15 (by kernel_rfl)
      go_simp
      refine Calls.mono (same15_any (behF (listF m loc) t) HBL.out HBM.out r46 r50 d46 d50 W H46 H50) ?_
      rintro e' w' ⟨rfl, hb⟩
      exact ⟨_, rfl, rfl, hb⟩
    · injection ho with ho; subst ho
      refine .inl ⟨wanted_free rfl, ?_⟩
      have h42 : A.tmps[42]?.getD undef = .bool true := he 7 (by kernel_rfl)
      have h51 : A.tmps[51]?.getD undef = .bool true := he 16 (by kernel_rfl)
      go_simp
      exact ⟨rfl, Below.refl _ _⟩
    · injection ho with ho; subst ho
      refine .inl ⟨wanted_free rfl, ?_⟩
      have h52 : A.tmps[52]?.getD undef = .bool true := he 17 (by kernel_rfl)
      go_simp
      exact ⟨rfl, Below.refl _ _⟩
    · injection ho with ho; subst ho
      have hg : A.tmps[53]?.getD undef = .bool true := he 18 (by kernel_rfl)
      refine .inl ⟨wanted_yes (d := 53) rfl (by kernel_rfl) hg, ?_⟩
      go_simp
      refine Calls.mono (wakes15_any W) ?_
      rintro e' w' ⟨rfl, hb⟩
      exact ⟨_, rfl, rfl, hb⟩
    · injection ho with ho; subst ho
      refine .inl ⟨wanted_free rfl, ?_⟩
      have h53 : A.tmps[53]?.getD undef = .bool true := he 18 (by kernel_rfl)
      have h54 : A.tmps[54]?.getD undef = .bool true := he 19 (by kernel_rfl)
      go_simp
      exact ⟨rfl, Below.refl _ _⟩
  · intro xs W hW hV
    have e55 : xs 20 = .bool true := hV 20 (by simp)
    simp only [List.length_cons, List.length_nil, Nat.zero_add, Nat.reduceAdd, List.drop_succ_cons, List.drop_zero, putL, Act.put, List.setIfInBounds_toArray, List.set_cons_zero, List.set_cons_succ, e55]
    clear hV e55
    have HB := Lib.hid (HT.out.grown hW).low
    go_wp2_with fail
    go_ret
    exact ⟨rfl, HB.out⟩
end Go.Proofs.Ytgkgpehjedmejaa.Plc
namespace Go.Proofs.Ytgkgpehjedmejaa.Plc
open Go.RowKit Go.ChangeShapes Go.WideShapes Go.ChangeAt Go.Joins Go.Proofs.Ytgkgpehjedmejaa.Mem Go.Deep Go.Proofs.Ytgkgpehjedmejaa.Mmr Go.Proofs.Ytgkgpehjedmejaa.Cap
theorem own_places : ownKnob Try.prog.godebug = none := by kernel_rfl
theorem laidOut_places : laidOutB Try.prog = true := by kernel_rfl
theorem readable_places : ∀ t ∈ #[22, 23, 3, 3].toList, Try.prog.readableRec t = true ∧ t < Try.prog.types.size := by
  intro t ht
  obtain rfl | rfl | rfl : t = 22 ∨ t = 23 ∨ t = 3 := by simpa using ht
  all_goals exact ⟨by kernel_rfl, of_decide_eq_true (by kernel_rfl)⟩
set_option maxRecDepth 100000 in
theorem places_contract (H : Type) (enc : TypeId × Value → H) (W : World) (base : Nat) (args : Array Value) (ds gs : List (DataW H)) (before : List MemPlace)
    (hval : ∀ (j : Nat) t v, Try.f3.params[j]? = some t → args[j]? = some v → Value.okWide Try.prog W .any base t v)
    (hW : DataW.Whole enc Try.prog Try.f3.params.toList Rows.placesTellSpec.vars false W args.toList ds gs before) :
    Calls Try.prog 3 args W fun e W' => ∃ v, e = .returned v ∧ Rows.placesTellSpec.post enc Try.prog Try.f3 false true false false W args v W' := by
  have hW' := hW
  obtain ⟨p, q, hA0, hV, rfl, hfz, hnd⟩ := hW
  have hA : DataW.TrodAll enc Try.prog W 0 (fun _ => true) true Try.f3.params.toList args.toList ds p := hA0
  rw [Try.params3] at hA hval
  have hAk := hA
  obtain ⟨v0, vs0, d0, ds0, p0, q0, hargs, rfl, rfl, h0, r0⟩ := trodAll_cons hA
  obtain ⟨v1, vs1, d1, ds1, p1, q1, rfl, rfl, rfl, h1, r1⟩ := trodAll_cons r0
  obtain ⟨v2, vs2, d2, ds2, p2, q2, rfl, rfl, rfl, h2, r2⟩ := trodAll_cons r1
  obtain ⟨v3, vs3, d3, ds3, p3, q3, rfl, rfl, rfl, h3, r3⟩ := trodAll_cons r2
  obtain ⟨rfl, rfl, rfl⟩ := trodAll_nil r3
  obtain rfl : args = #[v0, v1, v2, v3] := by cases args; simp_all
  obtain ⟨rfl, rfl⟩ := trodVars_none hV
  obtain ⟨ps, start, cs, rfl, ls, hN⟩ := nums_open (hval 0 22 v0 rfl rfl) h0
  obtain ⟨pl, l, cl, rfl, ll, hL, _⟩ := ritems_open (hval 1 23 v1 rfl rfl) h1
  obtain ⟨loc, rfl⟩ := okWide_int Try.underlying3 (hval 2 3 v2 rfl rfl)
  obtain ⟨t, rfl⟩ := okWide_int Try.underlying3 (hval 3 3 v3 rfl rfl)
  clear hA0
  simp only [List.append_nil] at hW' hAk
  refine (places_law start l loc t ps pl cs cl W hN hL ls ll).mono fun e W' ⟨he, hg⟩ => ?_
  subst he
  exact ⟨_, rfl, post_below (pv := []) hW' (fun _ _ _ => trodAll_cons_mk (shut_bool Try.underlying4 _) trodAll_mk0)
    (fun sp hsp => trodAll_below laidOut_places hg (by rw [Try.params3]; exact readable_places) hAk (fun x hx => hW'.lt x hx) hsp)
    (fun _ _ => rfl) (by simp) hg (ok_one (by kernel_rfl) rfl (okWide_bool_mk Try.underlying4 _))⟩
set_option maxRecDepth 100000 in
theorem places_lifted (os : Os) (started : os.Started) (H : Type) (enc : TypeId × Value → H) :
    ReturnsInHanded {} Try.checked os 3 .any (Rows.placesTellSpec.pre6 enc Try.prog Try.f3 Rows.placesTellRow.domain false) (Rows.placesTellSpec.post enc Try.prog Try.f3 false true false false) := by
  refine returnsInHanded_of_change (C := Try.checked) own_places started (by kernel_rfl) Try.func3
    (ChangeSpec.witness6 (enc := enc) (C := Try.checked) false ⟨#[], #[.slice none 0 0, .slice none 0 0, .int .i64 0, .int .i64 0], []⟩ 8 (by kernel_rfl) (by kernel_rfl) (by kernel_rfl) (by kernel_rfl)) ?_
  intro W base args ds gs before hval hW _ _
  exact places_contract H enc W base args ds gs before hval hW
theorem places_holds : Rows.PlacesTellSaid :=
  OpenClaim.holds_of_wide 3 Try.f3 rfl rfl rfl rfl rfl rfl rfl ⟨rfl, rfl, rfl, rfl, rfl⟩ rfl rfl rfl rfl rfl (by kernel_rfl) Try.func3 (by kernel_rfl)
    (of_decide_eq_true (by kernel_rfl)) (by unfold Func.isWrapper; first | (rw [if_pos (by decide +kernel)]; kernel_rfl) | (rw [if_neg (by decide +kernel)]; exact ⟨rfl, rfl⟩))
    (fun os started H enc _ => places_lifted os started H enc)
end Go.Proofs.Ytgkgpehjedmejaa.Plc
