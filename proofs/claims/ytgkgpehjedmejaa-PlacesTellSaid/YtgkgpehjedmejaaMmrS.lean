/- Layer 11 (memory): memories as plain rows of items: what each function answers. -/
import Derived.Test.YtgkgpehjedmejaaVewS
import Derived.Test.YtgkgpehjedmejaaSpnA
namespace Go.Proofs.Ytgkgpehjedmejaa.Mmr

/-- An item: its location, its span's times, its number, its view, whether it is a reservation, its owner. -/
structure It where
  loc : Int
  a : Int
  b : Int
  n : Int
  v : Nat → Int
  res : Bool
  owner : Int
/-- A memory: how many locations, and what is at each. -/
structure Mm where
  n : Nat
  row : Nat → List It
def lessI (x y : It) : Bool := decide (x.b < y.b ∨ (x.b = y.b ∧ x.a < y.a))
def apartI (x y : It) : Bool := decide (min x.b y.b ≤ max x.a y.a)
def hasF (m : Mm) (loc : Int) : Bool := decide (0 ≤ loc ∧ loc < (m.n : Nat))
def bareI (x : It) : Bool := !x.res || (decide (x.n = 0) && Vew.sameF 8 x.v Vew.zeroF)
/-- It may come to be there. -/
def mayI (m : Mm) (x : It) : Bool := hasF m x.loc && decide (-1 ≤ x.owner) && decide (x.owner < 4) && Spn.mayF x.a x.b && !decide (x.a = 0 ∧ x.b = 0) && Vew.mayF x.v && bareI x
def put (m : Mm) (k : Nat) (l : List It) : Mm := ⟨m.n, fun i => if i = k then l else m.row i⟩
def posI (l : List It) (x : It) : Nat := (l.takeWhile fun y => lessI y x).length
def withF (m : Mm) (k i j : Nat) (xs : List It) : Mm := put m k ((m.row k).take i ++ xs ++ (m.row k).drop j)
def addF (m : Mm) (x : It) : Mm × Int :=
  if mayI m x = false then (m, 1) else
  if ((m.row x.loc.toNat).any fun y => !apartI y x) = true then (m, 5) else
  if 40 ≤ (m.row x.loc.toNat).length then (m, 4) else
  (withF m x.loc.toNat (posI (m.row x.loc.toNat) x) (posI (m.row x.loc.toNat) x) [x], 0)
def endI (to owner : Int) (res : Bool) (y : It) : Bool := decide (y.b = to) && (y.res == res) && decide (y.owner = owner)
/-- The place of the first, or -1. -/
def idxF (φ : It → Bool) (l : List It) : Int := match l.findIdx? φ with
  | some i => (i : Nat)
  | none => -1
def findF (m : Mm) (loc to owner : Int) (res : Bool) : Int × Int :=
  if hasF m loc = false then (0, 1) else
  if idxF (endI to owner res) (m.row loc.toNat) < 0 ∨ owner = -1 then (0, 6) else (idxF (endI to owner res) (m.row loc.toNat), 0)
def freeI (x : It) : It := { x with owner := -1 }
def fulfilF (m : Mm) (loc to owner : Int) : Mm × Int :=
  if (findF m loc to owner false).2 ≠ 0 then (m, (findF m loc to owner false).2) else
  (withF m loc.toNat (findF m loc to owner false).1.toNat ((findF m loc to owner false).1.toNat + 1) (((m.row loc.toNat)[(findF m loc to owner false).1.toNat]?).toList.map freeI), 0)
def cancelF (m : Mm) (loc to owner : Int) : Mm × Int :=
  if (findF m loc to owner true).2 ≠ 0 then (m, (findF m loc to owner true).2) else
  (withF m loc.toNat (findF m loc to owner true).1.toNat ((findF m loc to owner true).1.toNat + 1) [], 0)
def listF (m : Mm) (loc : Int) : List It := if hasF m loc then m.row loc.toNat else []
def ownedF (m : Mm) (owner : Int) : List It := ((List.range 4).flatMap m.row).filter fun x => decide (x.owner = owner)
/-- The last message of a location of which it is so. -/
def lastF (m : Mm) (loc : Int) (φ : It → Bool) : Option It := if hasF m loc then (m.row loc.toNat).reverse.find? fun x => !x.res && φ x else none
def atF (m : Mm) (loc to : Int) : Option It := lastF m loc fun x => decide (x.b = to)
def closeF (m : Mm) (loc t : Int) : Int := if (atF m loc t).isSome then t else 0
def closedF (m : Mm) (v : Nat → Int) : Bool := Vew.sameF 8 v fun i => closeF m ((i % 4 : Nat) : Int) (v i)
def beginL (l : List Int) : Mm := ⟨l.length, fun i => match l[i]? with
  | some n => [⟨(i : Nat), 0, 0, n, Vew.zeroF, false, -1⟩]
  | none => []⟩

/-- What is at a location, whatever is done. -/
structure OkL (i : Nat) (l : List It) : Prop where
  few : l.length ≤ 40
  one : 1 ≤ l.length
  may : ∀ y ∈ l, Spn.mayF y.a y.b = true
  loc : ∀ y ∈ l, y.loc = (i : Nat)
  low : ∀ y ∈ l, -1 ≤ y.owner ∧ y.owner < 4
  rise : l.Pairwise fun x y => x.b ≤ y.a ∧ x.b < y.b
  head : ∀ y, l.head? = some y → y.a = 0 ∧ y.b = 0 ∧ y.owner = -1 ∧ y.res = false
structure OkM (m : Mm) : Prop where
  pos : 1 ≤ m.n
  most : m.n ≤ 4
  none : ∀ i, m.n ≤ i → m.row i = []
  each : ∀ i, i < m.n → OkL i (m.row i)
theorem has_iff {m : Mm} {loc : Int} : hasF m loc = true ↔ 0 ≤ loc ∧ loc < (m.n : Nat) := by simp [hasF]
theorem OkM.few {m : Mm} (h : OkM m) (i : Nat) : (m.row i).length ≤ 40 := by
  by_cases hi : i < m.n
  · exact (h.each i hi).few
  · rw [h.none i (by omega)]; simp
theorem OkM.may {m : Mm} (h : OkM m) (i : Nat) (y : It) (hy : y ∈ m.row i) : Spn.mayF y.a y.b = true := by
  by_cases hi : i < m.n
  · exact (h.each i hi).may y hy
  · rw [h.none i (by omega)] at hy; simp at hy
theorem put_row (m : Mm) (k : Nat) (l : List It) (i : Nat) : (put m k l).row i = if i = k then l else m.row i := rfl
theorem may_le {a b : Int} (h : Spn.mayF a b = true) : 0 ≤ a ∧ a ≤ b ∧ b ≤ 1048576 ∧ (a < b ∨ (a = 0 ∧ b = 0)) := by
  have := of_decide_eq_true h; omega

/-! ### What keeps a location as it must be -/
theorem pairwise_mid {α : Type} {R : α → α → Prop} {p q : List α} {x : α} : (p ++ x :: q).Pairwise R ↔ (p ++ q).Pairwise R ∧ (∀ y ∈ p, R y x) ∧ ∀ y ∈ q, R x y := by
  simp only [List.pairwise_append, List.pairwise_cons, List.mem_cons]
  constructor
  · rintro ⟨h1, ⟨h2, h3⟩, h4⟩
    exact ⟨⟨h1, h3, fun a ha b hb => h4 a ha b (.inr hb)⟩, fun y hy => h4 y hy x (.inl rfl), h2⟩
  · rintro ⟨⟨h1, h3, h4⟩, h5, h6⟩
    exact ⟨h1, ⟨h6, h3⟩, fun a ha b hb => by
      rcases hb with rfl | hb
      · exact h5 a ha
      · exact h4 a ha b hb⟩
/-- In a row that rises, what is less stands ahead. -/
theorem less_mono {l : List It} (h : l.Pairwise fun x y => x.b ≤ y.a ∧ x.b < y.b) (x : It) {i j : Nat} {y z : It} (hij : i ≤ j) (hy : l[i]? = some y) (hz : l[j]? = some z) (hl : lessI z x = true) : lessI y x = true := by
  by_cases e : i = j
  · subst e; rw [hy] at hz; injection hz with hz; rw [hz]; exact hl
  · have hi := (List.getElem?_eq_some_iff.1 hy)
    have hj := (List.getElem?_eq_some_iff.1 hz)
    obtain ⟨hi, rfl⟩ := hi
    obtain ⟨hj, rfl⟩ := hj
    have := List.pairwise_iff_getElem.1 h i j hi hj (by omega)
    simp only [lessI, decide_eq_true_eq] at hl ⊢
    omega
theorem pos_at {l : List It} (h : l.Pairwise fun x y => x.b ≤ y.a ∧ x.b < y.b) (x : It) : ∀ (i : Nat) (y : It), l[i]? = some y → (lessI y x = true ↔ i < posI l x) := by
  intro i y hy
  unfold posI
  induction l generalizing i with
  | nil => simp at hy
  | cons z l ih =>
    simp only [List.takeWhile_cons]
    cases hz : lessI z x
    · simp only [Bool.false_eq_true, if_false, List.length_nil, Nat.not_lt_zero, iff_false]
      intro hl
      have := less_mono h x (Nat.zero_le i) (by rfl) hy hl
      rw [hz] at this; cases this
    · simp only [if_true, List.length_cons]
      cases i with
      | zero => simp at hy; subst hy; simp [hz]
      | succ i =>
        rw [List.getElem?_cons_succ] at hy
        rw [ih (List.pairwise_cons.1 h).2 i hy]
        omega
theorem pos_le (l : List It) (x : It) : posI l x ≤ l.length := by
  unfold posI; exact (List.takeWhile_sublist _).length_le
/-- Where an item that is apart from all is put, the row rises still. -/
theorem okL_add {i : Nat} {l : List It} (h : OkL i l) {x : It} (hl : l.length < 40) (hm : Spn.mayF x.a x.b = true) (h0 : ¬ (x.a = 0 ∧ x.b = 0)) (hx : x.loc = (i : Nat)) (ho : -1 ≤ x.owner ∧ x.owner < 4)
    (ha : ∀ y ∈ l, apartI y x = true) : OkL i (l.take (posI l x) ++ [x] ++ l.drop (posI l x)) := by
  have hp := pos_at h.rise x
  have hple := pos_le l x
  have hx' := may_le hm
  have before : ∀ y ∈ l.take (posI l x), y.b ≤ x.a ∧ y.b < x.b := fun y hy => by
    obtain ⟨k, hk, hk'⟩ := List.mem_iff_getElem?.1 hy |> fun ⟨k, hk⟩ => (⟨k, (by
      have := (List.getElem?_eq_some_iff.1 hk).1; rw [List.length_take] at this; omega : k < posI l x), by rwa [List.getElem?_take_of_lt (by have := (List.getElem?_eq_some_iff.1 hk).1; rw [List.length_take] at this; omega)] at hk⟩ : ∃ k, k < posI l x ∧ l[k]? = some y)
    have hy' := List.mem_of_getElem? hk'
    have h1 := (hp k y hk').2 hk
    have h2 := ha y hy'
    have h3 := may_le (h.may y hy')
    simp only [lessI, apartI, decide_eq_true_eq] at h1 h2
    omega
  have after : ∀ y ∈ l.drop (posI l x), x.b ≤ y.a ∧ x.b < y.b := fun y hy => by
    obtain ⟨k, hk⟩ := List.mem_iff_getElem?.1 hy
    rw [List.getElem?_drop] at hk
    have hy' := List.mem_of_getElem? hk
    have h1 := mt (hp _ y hk).1 (by omega)
    have h2 := ha y hy'
    have h3 := may_le (h.may y hy')
    simp only [lessI, apartI, decide_eq_true_eq] at h1 h2
    omega
  have mem : ∀ y ∈ l.take (posI l x) ++ [x] ++ l.drop (posI l x), y = x ∨ y ∈ l := fun y hy => by
    simp only [List.mem_append, List.mem_singleton] at hy
    rcases hy with (hy | hy) | hy
    · exact .inr (List.mem_of_mem_take hy)
    · exact .inl hy
    · exact .inr (List.mem_of_mem_drop hy)
  have hlen : (l.take (posI l x) ++ [x] ++ l.drop (posI l x)).length = l.length + 1 := by simp; omega
  refine ⟨by omega, by omega, fun y hy => ?_, fun y hy => ?_, fun y hy => ?_, ?_, fun y hy => ?_⟩
  · rcases mem y hy with rfl | hy
    · exact hm
    · exact h.may y hy
  · rcases mem y hy with rfl | hy
    · exact hx
    · exact h.loc y hy
  · rcases mem y hy with rfl | hy
    · exact ho
    · exact h.low y hy
  · rw [List.append_assoc, List.singleton_append, pairwise_mid, List.take_append_drop]
    exact ⟨h.rise, before, after⟩
  · have hne : 1 ≤ l.length := h.one
    obtain ⟨z, hz⟩ : ∃ z, l[0]? = some z := ⟨_, List.getElem?_eq_getElem (by omega)⟩
    have hzh : l.head? = some z := by rw [List.head?_eq_getElem?]; exact hz
    have hz0 := h.head z hzh
    have hpos : 0 < posI l x := (hp 0 z hz).1 (by simp only [lessI, decide_eq_true_eq]; omega)
    have : (l.take (posI l x) ++ [x] ++ l.drop (posI l x)).head? = some z := by
      rw [List.append_assoc, List.head?_append, List.head?_eq_getElem?, List.getElem?_take_of_lt hpos, hz]; rfl
    rw [this] at hy; injection hy with hy; subst hy; exact hz0
theorem ok_put {m : Mm} (h : OkM m) {k : Nat} (hk : k < m.n) {l : List It} (hl : OkL k l) : OkM (put m k l) := by
  refine ⟨h.pos, h.most, fun i hi => ?_, fun i hi => ?_⟩
  · rw [put_row, if_neg (by have : m.n ≤ i := hi; omega)]; exact h.none i hi
  · rw [put_row]
    by_cases e : i = k
    · rw [if_pos e, e]; exact hl
    · rw [if_neg e]; exact h.each i hi
theorem ok_add {m : Mm} (h : OkM m) (x : It) : OkM (addF m x).1 := by
  unfold addF
  by_cases h1 : mayI m x = false
  · rw [if_pos h1]; exact h
  rw [if_neg h1]
  by_cases h2 : ((m.row x.loc.toNat).any fun y => !apartI y x) = true
  · rw [if_pos h2]; exact h
  rw [if_neg h2]
  by_cases h3 : 40 ≤ (m.row x.loc.toNat).length
  · rw [if_pos h3]; exact h
  rw [if_neg h3]
  simp only [Bool.not_eq_false, mayI, Bool.and_eq_true, has_iff, decide_eq_true_eq, Bool.not_eq_true', decide_eq_false_iff_not] at h1
  obtain ⟨⟨⟨⟨⟨⟨h11, h12⟩, h13⟩, h14⟩, h15⟩, h16⟩, h17⟩ := h1
  have hk : x.loc.toNat < m.n := by omega
  refine ok_put h hk (okL_add (h.each _ hk) (by omega) h14 h15 (by omega) ⟨h12, h13⟩ fun y hy => ?_)
  have h2' : ∀ y ∈ m.row x.loc.toNat, apartI y x = true := by simpa using h2
  exact h2' y hy
end Go.Proofs.Ytgkgpehjedmejaa.Mmr
