/- Layer 11 (memory), plain: the document's memory (one row of items, in no order), and how the program's rows stand for it. -/
import Derived.Test.YtgkgpehjedmejaaMmrP
namespace Go.Proofs.Ytgkgpehjedmejaa.Mmr

/-- The document's memory: how many locations, and its items. -/
structure Dm where
  n : Nat
  l : List It
def atL (l : List It) (loc : Int) : List It := l.filter fun y => decide (y.loc = loc)
def dHas (w : Dm) (loc : Int) : Bool := decide (0 ≤ loc ∧ loc < (w.n : Nat))
def rightF (v : Nat → Int) : Bool := (List.range 4).all fun i => decide (0 ≤ v i) && decide (v i ≤ v (4 + i))
def dMay (w : Dm) (x : It) : Bool := dHas w x.loc && decide (-1 ≤ x.owner) && decide (x.owner ≤ 3) && Spn.mayF x.a x.b && !decide (x.b = 0) && rightF x.v && bareI x
def dAdd (w : Dm) (x : It) : Dm × Int :=
  if dMay w x = false then (w, 1) else
  if ((atL w.l x.loc).any fun y => !apartI y x) = true then (w, 5) else
  if 40 ≤ (atL w.l x.loc).length then (w, 4) else (⟨w.n, w.l ++ [x]⟩, 0)
def ownD (loc to owner : Int) (res : Bool) (y : It) : Bool := decide (0 ≤ owner) && decide (y.loc = loc) && endI to owner res y
def dFulfil (w : Dm) (loc to owner : Int) : Dm × Int :=
  if dHas w loc = false then (w, 1) else
  match w.l.findIdx? (ownD loc to owner false) with
  | none => (w, 6)
  | some i => (⟨w.n, w.l.take i ++ ((w.l[i]?).toList.map freeI) ++ w.l.drop (i + 1)⟩, 0)
def dCancel (w : Dm) (loc to owner : Int) : Dm × Int :=
  if dHas w loc = false then (w, 1) else
  match w.l.findIdx? (ownD loc to owner true) with
  | none => (w, 6)
  | some i => (⟨w.n, w.l.take i ++ w.l.drop (i + 1)⟩, 0)
def insI (out : List It) (x : It) : List It := out.takeWhile (fun y => lessI y x) ++ [x] ++ out.dropWhile fun y => lessI y x
def dList (w : Dm) (loc : Int) : List It := (atL w.l loc).foldl insI []
def dAt (w : Dm) (loc to : Int) : Option It := w.l.find? fun y => decide (y.loc = loc) && decide (y.b = to) && !y.res
def dLast (w : Dm) (loc : Int) : Option It := (dList w loc).reverse.find? fun y => !y.res
def dOwned (w : Dm) (owner : Int) : List It := ((List.range w.n).flatMap fun (i : Nat) => dList w (i : Int)).filter fun y => decide (y.owner = owner)
def dClosed (w : Dm) (v : Nat → Int) : Bool := (List.range 4).all fun i =>
  if w.n ≤ i then decide (v i = 0) && decide (v (4 + i) = 0) else (dAt w (i : Int) (v i)).isSome && (dAt w (i : Int) (v (4 + i))).isSome
def dBegin (l : List Int) : Dm := ⟨l.length, (List.range l.length).map fun i => ⟨(i : Nat), 0, 0, l.getD i 0, Vew.zeroF, false, -1⟩⟩

/-- The program's rows stand for the document's. -/
structure Rep (m : Mm) (w : Dm) : Prop where
  ok : OkM m
  n : w.n = m.n
  loc : ∀ y ∈ w.l, 0 ≤ y.loc ∧ y.loc < (m.n : Nat)
  same : ∀ i, i < m.n → List.Perm (m.row i) (atL w.l (i : Nat))

theorem right_may (v : Nat → Int) : Vew.mayF v = rightF v := by
  rw [Bool.eq_iff_iff, Vew.may_iff]
  unfold rightF
  rw [List.all_eq_true]
  constructor
  · rintro ⟨h1, h2⟩ i hi
    have hi := List.mem_range.1 hi
    have a := h1 i (by omega)
    have b := h2 i hi
    rw [Nat.add_comm] at b
    rw [Bool.and_eq_true, decide_eq_true_eq, decide_eq_true_eq]
    exact ⟨a, b⟩
  · intro h
    have h' : ∀ i, i < 4 → 0 ≤ v i ∧ v i ≤ v (4 + i) := fun i hi => by
      have := h i (List.mem_range.2 hi)
      rw [Bool.and_eq_true, decide_eq_true_eq, decide_eq_true_eq] at this
      exact this
    refine ⟨fun i hi => ?_, fun i hi => by rw [Nat.add_comm i 4]; exact (h' i hi).2⟩
    by_cases h4 : i < 4
    · exact (h' i h4).1
    · have := h' (i - 4) (by omega)
      rw [show 4 + (i - 4) = i by omega] at this
      omega
theorem Rep.has {m : Mm} {w : Dm} (h : Rep m w) (loc : Int) : dHas w loc = hasF m loc := by unfold dHas hasF; rw [h.n]
theorem Rep.out {m : Mm} {w : Dm} (h : Rep m w) {loc : Int} (hl : hasF m loc = false) : atL w.l loc = [] := by
  refine List.filter_eq_nil_iff.2 fun y hy hc => ?_
  have := h.loc y hy
  have hc := of_decide_eq_true hc
  rw [hc] at this
  rw [← Bool.not_eq_true, has_iff] at hl
  exact hl this
theorem Rep.at_ {m : Mm} {w : Dm} (h : Rep m w) {loc : Int} (hl : hasF m loc = true) : List.Perm (m.row loc.toNat) (atL w.l loc) := by
  obtain ⟨h0, h1⟩ := has_iff.1 hl
  have := h.same loc.toNat (by omega)
  rwa [show ((loc.toNat : Nat) : Int) = loc by omega] at this
theorem may_same {m : Mm} {w : Dm} (h : Rep m w) (x : It) : mayI m x = dMay w x := by
  unfold mayI dMay
  rw [h.has, right_may]
  by_cases hm : Spn.mayF x.a x.b = true
  · have := may_le hm
    have e1 : decide (x.a = 0 ∧ x.b = 0) = decide (x.b = 0) := decide_eq_decide.2 (by omega)
    have e2 : decide (x.owner < 4) = decide (x.owner ≤ 3) := decide_eq_decide.2 (by omega)
    rw [e1, e2]
  · rw [Bool.not_eq_true] at hm
    simp [hm]
theorem may_law {m : Mm} {w : Dm} (x y : It) (hm : Spn.mayF x.a x.b = false) (hy : Spn.mayF y.a y.b = false) : addF m y = (m, 1) ∧ dAdd w x = (w, 1) := by
  constructor
  · unfold addF; rw [if_pos (by unfold mayI; simp [hy])]
  · unfold dAdd; rw [if_pos (by unfold dMay; simp [hm])]
theorem any_perm {α : Type} {p : α → Bool} {l l' : List α} (h : List.Perm l l') : l.any p = l'.any p := by
  rw [Bool.eq_iff_iff, List.any_eq_true, List.any_eq_true]
  exact ⟨fun ⟨x, hx, hp⟩ => ⟨x, h.mem_iff.1 hx, hp⟩, fun ⟨x, hx, hp⟩ => ⟨x, h.mem_iff.2 hx, hp⟩⟩
theorem rep_put {m : Mm} {w : Dm} (h : Rep m w) {k : Nat} {l L : List It} (hok : OkM (put m k l)) (hL : ∀ y ∈ L, y ∈ w.l ∨ y.loc = (k : Nat)) (hk : k < m.n)
    (hs : List.Perm l (atL L (k : Nat))) (ho : ∀ i : Nat, i ≠ k → atL L (i : Nat) = atL w.l (i : Nat)) : Rep (put m k l) ⟨w.n, L⟩ := by
  refine ⟨hok, h.n, fun y hy => ?_, fun i hi => ?_⟩
  · rcases hL y hy with hy | hy
    · exact h.loc y hy
    · rw [hy]; exact ⟨by omega, by show (k : Int) < (m.n : Nat); omega⟩
  · rw [put_row]
    by_cases e : i = k
    · rw [if_pos e, e]; exact hs
    · rw [if_neg e, show atL (⟨w.n, L⟩ : Dm).l (i : Nat) = atL w.l (i : Nat) from ho i e]; exact h.same i hi
theorem rep_add {m : Mm} {w : Dm} (h : Rep m w) (x : It) : (addF m x).2 = (dAdd w x).2 ∧ Rep (addF m x).1 (dAdd w x).1 := by
  have hok := ok_add h.ok x
  unfold addF at hok ⊢
  unfold dAdd
  rw [← may_same h]
  by_cases h1 : mayI m x = false
  · rw [if_pos h1, if_pos h1]; exact ⟨rfl, h⟩
  have h1' := h1
  rw [if_neg h1] at hok
  simp only [Bool.not_eq_false, mayI, Bool.and_eq_true] at h1'
  have hl : hasF m x.loc = true := h1'.1.1.1.1.1.1
  have hp := h.at_ hl
  rw [if_neg h1, if_neg h1, ← any_perm hp, ← hp.length_eq]
  by_cases h2 : ((m.row x.loc.toNat).any fun y => !apartI y x) = true
  · rw [if_pos h2, if_pos h2]; exact ⟨rfl, h⟩
  rw [if_neg h2] at hok
  rw [if_neg h2, if_neg h2]
  by_cases h3 : 40 ≤ (m.row x.loc.toNat).length
  · rw [if_pos h3, if_pos h3]; exact ⟨rfl, h⟩
  rw [if_neg h3] at hok
  rw [if_neg h3, if_neg h3]
  obtain ⟨l0, l1⟩ := has_iff.1 hl
  have hx : x.loc = ((x.loc.toNat : Nat) : Int) := by omega
  refine ⟨rfl, rep_put h hok (fun y hy => ?_) (by omega) ?_ fun i hi => ?_⟩
  · rcases List.mem_append.1 hy with hy | hy
    · exact .inl hy
    · right; rw [List.mem_singleton.1 hy]; exact hx
  · rw [← hx]
    unfold atL at hp ⊢
    rw [List.filter_append, List.filter_cons_of_pos (by simp), List.filter_nil]
    refine List.Perm.trans ?_ (hp.append_right [x])
    refine List.Perm.trans ?_ (List.perm_append_comm (l₁ := [x]))
    rw [List.append_assoc, List.singleton_append, List.singleton_append]
    refine List.Perm.trans List.perm_middle ?_
    rw [List.take_append_drop]
  · unfold atL
    rw [List.filter_append, List.filter_cons_of_neg (by simp; omega), List.filter_nil, List.append_nil]

/-! ### What is at a location, told in order -/
theorem row_less {i : Nat} {l : List It} (h : OkL i l) : l.Pairwise fun x y => lessI x y = true := h.rise.imp fun {x y} hxy => by
  simp only [lessI, decide_eq_true_eq]; omega
theorem less_asym {x y : It} (h : lessI x y = true) (h' : lessI y x = true) : False := by
  simp only [lessI, decide_eq_true_eq] at h h'; omega
theorem sort_one : ∀ {l l' : List It}, (l.Pairwise fun x y => lessI x y = true) → (l'.Pairwise fun x y => lessI x y = true) → List.Perm l l' → l = l'
  | [], l', _, _, h => by rw [h.symm.eq_nil]
  | x :: l, [], _, _, h => by cases h.eq_nil
  | x :: l, y :: l', h1, h2, h => by
    have hx := List.pairwise_cons.1 h1
    have hy := List.pairwise_cons.1 h2
    have e : x = y := by
      rcases List.mem_cons.1 (h.mem_iff.1 (List.mem_cons_self (a := x))) with e | hxm
      · exact e
      · rcases List.mem_cons.1 (h.mem_iff.2 (List.mem_cons_self (a := y))) with e | hym
        · exact e.symm
        · exact (less_asym (hx.1 y hym) (hy.1 x hxm)).elim
    subst e
    rw [sort_one hx.2 hy.2 h.cons_inv]
theorem ins_perm (out : List It) (x : It) : List.Perm (insI out x) (x :: out) := by
  unfold insI
  rw [List.append_assoc, List.singleton_append]
  refine List.Perm.trans List.perm_middle ?_
  rw [List.takeWhile_append_dropWhile]
theorem less_trans {x y z : It} (h : lessI x y = true) (h' : lessI y z = true) : lessI x z = true := by
  simp only [lessI, decide_eq_true_eq] at h h' ⊢; omega
theorem ins_sorted {out : List It} {x : It} (h : out.Pairwise fun x y => lessI x y = true) (hx : ∀ y ∈ out, lessI y x = true ∨ lessI x y = true) : (insI out x).Pairwise fun x y => lessI x y = true := by
  unfold insI
  rw [List.append_assoc, List.singleton_append, pairwise_mid, List.takeWhile_append_dropWhile]
  refine ⟨h, fun y hy => ?_, fun y hy => ?_⟩
  · induction out with
    | nil => simp at hy
    | cons z out ih =>
      rw [List.takeWhile_cons] at hy
      split at hy
      · next hz =>
        rcases List.mem_cons.1 hy with rfl | hy
        · exact hz
        · exact ih (List.pairwise_cons.1 h).2 (fun y hy => hx y (List.mem_cons_of_mem _ hy)) hy
      · simp at hy
  · induction out with
    | nil => simp at hy
    | cons z out ih =>
      rw [List.dropWhile_cons] at hy
      split at hy
      · exact ih (List.pairwise_cons.1 h).2 (fun y hy => hx y (List.mem_cons_of_mem _ hy)) hy
      · next hz =>
        have hz' : lessI x z = true := (hx z List.mem_cons_self).resolve_left hz
        rcases List.mem_cons.1 hy with rfl | hy
        · exact hz'
        · exact less_trans hz' ((List.pairwise_cons.1 h).1 y hy)
theorem fold_ins : ∀ (l out : List It), (out.Pairwise fun x y => lessI x y = true) → ((out ++ l).Pairwise fun x y => lessI x y = true ∨ lessI y x = true) →
    List.Perm (l.foldl insI out) (out ++ l) ∧ (l.foldl insI out).Pairwise fun x y => lessI x y = true
  | [], out, h, _ => ⟨by simp, h⟩
  | x :: l, out, h, hx => by
    have hx' := pairwise_mid.1 hx
    have hp := ins_perm out x
    have hpp : List.Perm (insI out x ++ l) (out ++ x :: l) := (hp.append_right l).trans (by rw [List.cons_append]; exact List.perm_middle.symm)
    have hs := ins_sorted h hx'.2.1
    have hn : (insI out x ++ l).Pairwise fun x y => lessI x y = true ∨ lessI y x = true := (hpp.pairwise_iff (fun h => h.symm)).2 hx
    obtain ⟨h1, h2⟩ := fold_ins l (insI out x) hs hn
    exact ⟨h1.trans hpp, h2⟩
theorem rep_list {m : Mm} {w : Dm} (h : Rep m w) (loc : Int) : dList w loc = listF m loc := by
  unfold dList listF
  by_cases hl : hasF m loc = true
  · rw [if_pos hl]
    have hp := h.at_ hl
    obtain ⟨l0, l1⟩ := has_iff.1 hl
    have hr := row_less (h.ok.each loc.toNat (by omega))
    have hn : (atL w.l loc).Pairwise fun x y => lessI x y = true ∨ lessI y x = true := (hp.pairwise_iff (fun h => h.symm)).1 (hr.imp fun h => .inl h)
    obtain ⟨h1, h2⟩ := fold_ins (atL w.l loc) [] List.Pairwise.nil (by simpa using hn)
    refine sort_one h2 hr ?_
    rw [List.nil_append] at h1
    exact h1.trans hp.symm
  · rw [Bool.not_eq_true] at hl
    rw [h.out hl, hl]; rfl
theorem rep_last {m : Mm} {w : Dm} (h : Rep m w) (loc : Int) : dLast w loc = lastF m loc fun _ => true := by
  unfold dLast lastF
  rw [rep_list h]
  unfold listF
  by_cases hl : hasF m loc = true
  · rw [if_pos hl, if_pos hl]; simp
  · rw [if_neg hl, if_neg hl]; rfl
theorem rep_owned {m : Mm} {w : Dm} (h : Rep m w) (owner : Int) : dOwned w owner = ownedF m owner := by
  unfold dOwned ownedF
  congr 1
  have e1 : (List.range w.n).flatMap (fun (i : Nat) => dList w (i : Int)) = (List.range w.n).flatMap m.row := by
    rw [List.flatMap_def, List.flatMap_def]
    refine congrArg List.flatten (List.map_congr_left fun i hi => ?_)
    have hi := List.mem_range.1 hi
    rw [h.n] at hi
    rw [rep_list h]
    unfold listF
    rw [if_pos (has_iff.2 ⟨by omega, by omega⟩)]; simp
  have hz : ∀ i, m.n ≤ i → m.row i = [] := h.ok.none
  have h4 := h.ok.most
  rw [e1, h.n]
  obtain e | e | e | e | e : m.n = 0 ∨ m.n = 1 ∨ m.n = 2 ∨ m.n = 3 ∨ m.n = 4 := by omega
  all_goals rw [e] at hz ⊢
  · exact absurd h.ok.pos (by omega)
  · simp [List.range_succ, hz 1 (by omega), hz 2 (by omega), hz 3 (by omega)]
  · simp [List.range_succ, hz 2 (by omega), hz 3 (by omega)]
  · simp [List.range_succ, hz 3 (by omega)]

/-! ### One item, found on both sides -/
theorem one_end {l : List It} (h : l.Pairwise fun x y => x.b ≤ y.a ∧ x.b < y.b) {x y : It} (hx : x ∈ l) (hy : y ∈ l) (e : x.b = y.b) : x = y := by
  obtain ⟨i, hi, rfl⟩ := List.mem_iff_getElem.1 hx
  obtain ⟨j, hj, rfl⟩ := List.mem_iff_getElem.1 hy
  have hp := List.pairwise_iff_getElem.1 h
  rcases Nat.lt_trichotomy i j with hij | rfl | hij
  · have := (hp i j hi hj hij).2; omega
  · rfl
  · have := (hp j i hj hi hij).2; omega
theorem mem_atL {l : List It} {loc : Int} {y : It} : y ∈ atL l loc ↔ y ∈ l ∧ y.loc = loc := by simp [atL]
theorem Rep.mem {m : Mm} {w : Dm} (h : Rep m w) {loc : Int} {y : It} (hl : hasF m loc = true) : y ∈ m.row loc.toNat ↔ y ∈ w.l ∧ y.loc = loc := by
  rw [(h.at_ hl).mem_iff, mem_atL]
theorem Rep.okL {m : Mm} {w : Dm} (h : Rep m w) {loc : Int} (hl : hasF m loc = true) : OkL loc.toNat (m.row loc.toNat) := by
  obtain ⟨l0, l1⟩ := has_iff.1 hl
  exact h.ok.each loc.toNat (by omega)
theorem find_eq {m : Mm} {w : Dm} (h : Rep m w) {loc : Int} (hl : hasF m loc = true) {φ : It → Bool} {to : Int} (hφ : ∀ y, φ y = true → y.b = to) {x : It} :
    (m.row loc.toNat).reverse.find? φ = some x ↔ w.l.find? (fun y => decide (y.loc = loc) && φ y) = some x := by
  have hr := (h.okL hl).rise
  constructor
  · intro hf
    have hx := List.mem_of_find?_eq_some hf
    have hp := List.find?_some hf
    rw [List.mem_reverse] at hx
    have hx' := (h.mem hl).1 hx
    cases hd : w.l.find? (fun y => decide (y.loc = loc) && φ y) with
    | none => exact absurd (List.find?_eq_none.1 hd x hx'.1) (by simp [hx'.2, hp])
    | some y =>
      have hy := List.mem_of_find?_eq_some hd
      have hq := List.find?_some hd
      rw [Bool.and_eq_true, decide_eq_true_eq] at hq
      rw [one_end hr ((h.mem hl).2 ⟨hy, hq.1⟩) hx ((hφ y hq.2).trans (hφ x hp).symm)]
  · intro hf
    have hx := List.mem_of_find?_eq_some hf
    have hp := List.find?_some hf
    rw [Bool.and_eq_true, decide_eq_true_eq] at hp
    have hx' := (h.mem hl).2 ⟨hx, hp.1⟩
    cases hd : (m.row loc.toNat).reverse.find? φ with
    | none => exact absurd (List.find?_eq_none.1 hd x (List.mem_reverse.2 hx')) (by simp [hp.2])
    | some y =>
      have hy := List.mem_of_find?_eq_some hd
      have hq := List.find?_some hd
      rw [List.mem_reverse] at hy
      rw [one_end hr hy hx' ((hφ y hq).trans (hφ x hp.2).symm)]
theorem rep_at {m : Mm} {w : Dm} (h : Rep m w) (loc to : Int) : dAt w loc to = atF m loc to := by
  unfold dAt atF lastF
  by_cases hl : hasF m loc = true
  · rw [if_pos hl]
    have e : (fun y : It => decide (y.loc = loc) && decide (y.b = to) && !y.res) = fun y => decide (y.loc = loc) && (!y.res && decide (y.b = to)) := by
      funext y; cases decide (y.loc = loc) <;> cases decide (y.b = to) <;> cases y.res <;> rfl
    rw [e]
    exact Option.ext fun x => (find_eq h hl (to := to) fun y hy => by simp at hy; exact hy.2).symm
  · rw [if_neg hl]
    rw [Bool.not_eq_true] at hl
    have := h.out hl
    refine List.find?_eq_none.2 fun y hy hc => ?_
    rw [Bool.and_eq_true, Bool.and_eq_true, decide_eq_true_eq] at hc
    have hm := mem_atL.2 ⟨hy, hc.1.1⟩
    rw [this] at hm
    cases hm
theorem rep_closed {m : Mm} {w : Dm} (h : Rep m w) (v : Nat → Int) : dClosed w v = closedF m v := by
  have at0 : ∀ i : Nat, i < m.n → (atF m (i : Nat) 0).isSome = true := fun i hi => by
    unfold atF lastF
    rw [if_pos (has_iff.2 ⟨by omega, by omega⟩), List.find?_isSome]
    have hO := h.ok.each i hi
    obtain ⟨z, hz⟩ : ∃ z, (m.row i)[0]? = some z := ⟨_, List.getElem?_eq_getElem (by have := hO.one; omega)⟩
    have hz0 := hO.head z (by rw [List.head?_eq_getElem?]; exact hz)
    exact ⟨z, List.mem_reverse.2 (List.mem_of_getElem? hz), by simp [hz0]⟩
  have none : ∀ (i : Nat) (t : Int), m.n ≤ i → (atF m (i : Nat) t).isSome = false := fun i t hi => by
    unfold atF lastF
    rw [if_neg (by rw [has_iff]; omega)]; rfl
  have one : ∀ (i : Nat) (t : Int), i < m.n → ((atF m (i : Nat) t).isSome = true ↔ t = closeF m (i : Nat) t) := fun i t hi => by
    unfold closeF
    by_cases ht : (atF m (i : Nat) t).isSome = true
    · rw [if_pos ht]; simp [ht]
    · rw [if_neg ht]
      refine ⟨fun hc => absurd hc ht, fun hc => ?_⟩
      rw [hc]; exact at0 i hi
  unfold dClosed closedF
  rw [Bool.eq_iff_iff, Vew.same_iff, List.all_eq_true]
  have step : ∀ i, i < 4 → ((if w.n ≤ i then decide (v i = 0) && decide (v (4 + i) = 0) else (dAt w (i : Int) (v i)).isSome && (dAt w (i : Int) (v (4 + i))).isSome) = true ↔
      v i = closeF m (i : Nat) (v i) ∧ v (4 + i) = closeF m (i : Nat) (v (4 + i))) := fun i hi => by
    rw [h.n, rep_at h, rep_at h]
    by_cases hn : m.n ≤ i
    · rw [if_pos hn, Bool.and_eq_true, decide_eq_true_eq, decide_eq_true_eq]
      unfold closeF
      rw [none i _ hn, none i _ hn]
      simp
    · rw [if_neg hn, Bool.and_eq_true, one i _ (by omega), one i _ (by omega)]
  constructor
  · intro hh i hi
    by_cases h4 : i < 4
    · have := ((step i h4).1 (hh i (List.mem_range.2 h4))).1
      rwa [Nat.mod_eq_of_lt h4]
    · have := ((step (i - 4) (by omega)).1 (hh (i - 4) (List.mem_range.2 (by omega)))).2
      rw [show 4 + (i - 4) = i by omega] at this
      rwa [show i % 4 = i - 4 by omega]
  · intro hh i hi
    have hi := List.mem_range.1 hi
    refine (step i hi).2 ⟨?_, ?_⟩
    · have := hh i (by omega)
      rwa [Nat.mod_eq_of_lt hi] at this
    · have := hh (4 + i) (by omega)
      rwa [show (4 + i) % 4 = i by omega] at this

/-! ### Fulfil, Cancel, Begin -/
theorem idx_split {φ : It → Bool} {l : List It} {i : Nat} (h : l.findIdx? φ = some i) : ∃ y, l[i]? = some y ∧ φ y = true ∧ l = l.take i ++ y :: l.drop (i + 1) := by
  obtain ⟨hi, hy, _⟩ := List.findIdx?_eq_some_iff_getElem.1 h
  have hs : l[i]? = some l[i] := List.getElem?_eq_getElem hi
  exact ⟨_, hs, hy, split_at hs⟩
theorem atL_append (l l' : List It) (loc : Int) : atL (l ++ l') loc = atL l loc ++ atL l' loc := List.filter_append ..
theorem atL_yes {y : It} {l : List It} {loc : Int} (h : y.loc = loc) : atL (y :: l) loc = y :: atL l loc := List.filter_cons_of_pos (by simp [h])
theorem atL_no {y : It} {l : List It} {loc : Int} (h : y.loc ≠ loc) : atL (y :: l) loc = atL l loc := List.filter_cons_of_neg (by simp [h])
/-- Both find: the program in its row, the document in its list; or none does. -/
theorem rep_find {m : Mm} {w : Dm} (h : Rep m w) {loc to owner : Int} {res : Bool} (hl : hasF m loc = true) :
    ((findF m loc to owner res).2 = 6 ∧ w.l.findIdx? (ownD loc to owner res) = none) ∨
    ((findF m loc to owner res).2 = 0 ∧ ∃ k t y i, Hit m loc to owner res k t y ∧ w.l.findIdx? (ownD loc to owner res) = some i ∧ w.l[i]? = some y ∧ w.l = w.l.take i ++ y :: w.l.drop (i + 1)) := by
  by_cases he : (findF m loc to owner res).2 = 0
  · right
    refine ⟨he, ?_⟩
    obtain ⟨k, t, y, hh⟩ := find_hit he
    have hlk := hh.lt
    have hk : loc.toNat = k := by have := hh.locK; omega
    have hy : y ∈ m.row loc.toNat := by rw [hk]; exact List.mem_of_getElem? hh.at_
    have hy' := (h.mem hl).1 hy
    have hi := hh.is
    have hO := h.okL hl
    have how : 0 ≤ owner := by
      have h1 := (hO.low y hy).1
      have h2 := hh.own
      have h3 := hi
      simp only [endI, Bool.and_eq_true, decide_eq_true_eq] at h3
      have := h3.2
      omega
    cases hd : w.l.findIdx? (ownD loc to owner res) with
    | none =>
      have := List.findIdx?_eq_none_iff.1 hd y hy'.1
      exfalso
      rw [← Bool.not_eq_true] at this
      exact this (by unfold ownD; simp [how, hy'.2, hi])
    | some i =>
      obtain ⟨z, hz, hq, hs⟩ := idx_split hd
      have hzm := List.mem_of_getElem? hz
      simp only [ownD, Bool.and_eq_true, decide_eq_true_eq] at hq
      have e : z = y := one_end hO.rise ((h.mem hl).2 ⟨hzm, hq.1.2⟩) hy (by
        have a := hq.2; have b := hi
        simp only [endI, Bool.and_eq_true, decide_eq_true_eq] at a b
        rw [a.1.1, b.1.1])
      subst e
      exact ⟨k, t, z, i, hh, rfl, hz, hs⟩
  · left
    have hf : (findF m loc to owner res).2 = 6 ∧ (idxF (endI to owner res) (m.row loc.toNat) < 0 ∨ owner = -1) := by
      unfold findF at he ⊢
      rw [if_neg (by rw [hl]; simp)] at he ⊢
      by_cases h2 : idxF (endI to owner res) (m.row loc.toNat) < 0 ∨ owner = -1
      · rw [if_pos h2]; exact ⟨rfl, h2⟩
      · rw [if_neg h2] at he; exact absurd rfl he
    refine ⟨hf.1, ?_⟩
    cases hd : w.l.findIdx? (ownD loc to owner res) with
    | none => rfl
    | some i =>
      exfalso
      obtain ⟨z, hz, hq, _⟩ := idx_split hd
      have hzm := List.mem_of_getElem? hz
      simp only [ownD, Bool.and_eq_true, decide_eq_true_eq] at hq
      have hzr := (h.mem hl).2 ⟨hzm, hq.1.2⟩
      rcases hf.2 with h2 | h2
      · have := any_idx (endI to owner res) (m.row loc.toNat)
        rw [decide_eq_false (by omega)] at this
        have := List.any_eq_false.1 this.symm z hzr
        exact this hq.2
      · have := hq.1.1; omega
theorem hit_row {m : Mm} {w : Dm} (h : Rep m w) {loc to owner : Int} {res : Bool} {k t i : Nat} {y : It} (hh : Hit m loc to owner res k t y) (hs : w.l = w.l.take i ++ y :: w.l.drop (i + 1)) :
    List.Perm ((m.row k).take t ++ (m.row k).drop (t + 1)) (atL (w.l.take i) (k : Nat) ++ atL (w.l.drop (i + 1)) (k : Nat)) ∧ y.loc = (k : Nat) := by
  have hy : y.loc = (k : Nat) := (h.ok.each k hh.lt).loc y (List.mem_of_getElem? hh.at_)
  refine ⟨?_, hy⟩
  have hp := h.same k hh.lt
  have e : atL w.l (k : Nat) = atL (w.l.take i) (k : Nat) ++ y :: atL (w.l.drop (i + 1)) (k : Nat) := by
    conv => lhs; rw [hs]
    rw [atL_append, atL_yes hy]
  rw [e, split_at hh.at_] at hp
  have h1 := (List.perm_middle.symm.trans hp).trans List.perm_middle
  have h2 := h1.cons_inv
  exact h2
theorem rep_fulfil {m : Mm} {w : Dm} (h : Rep m w) (loc to owner : Int) : (fulfilF m loc to owner).2 = (dFulfil w loc to owner).2 ∧ Rep (fulfilF m loc to owner).1 (dFulfil w loc to owner).1 := by
  have hok := ok_fulfil h.ok loc to owner
  unfold dFulfil
  rw [h.has]
  by_cases hl : hasF m loc = true
  · rw [if_neg (by rw [hl]; simp)]
    rcases rep_find h (to := to) (owner := owner) (res := false) hl with ⟨h1, h2⟩ | ⟨h0, k, t, y, i, hh, hd, hz, hs⟩
    · rw [h2]
      unfold fulfilF
      rw [if_pos (by omega), h1]
      exact ⟨rfl, h⟩
    · rw [fulfil_hit hh h0] at hok ⊢
      rw [hd]
      simp only [hz, Option.toList_some, List.map_cons, List.map_nil]
      obtain ⟨hp, hy⟩ := hit_row h hh hs
      refine ⟨trivial, rep_put h hok (fun x hx => ?_) hh.lt ?_ fun j hj => ?_⟩
      · simp only [List.mem_append, List.mem_singleton] at hx
        rcases hx with (hx | hx) | hx
        · exact .inl (List.mem_of_mem_take hx)
        · right; rw [hx]; exact hy
        · exact .inl (List.mem_of_mem_drop hx)
      · rw [List.append_assoc, List.append_assoc, List.singleton_append, List.singleton_append, atL_append, atL_yes (show (freeI y).loc = (k : Nat) from hy)]
        exact (List.perm_middle.trans (hp.cons _)).trans List.perm_middle.symm
      · have hjk : (k : Int) ≠ (j : Int) := by omega
        conv => rhs; rw [hs]
        rw [List.append_assoc, List.singleton_append, atL_append, atL_append, atL_no (show (freeI y).loc ≠ (j : Nat) by show y.loc ≠ _; rw [hy]; exact hjk), atL_no (by rw [hy]; exact hjk)]
  · rw [Bool.not_eq_true] at hl
    rw [if_pos hl]
    have e : fulfilF m loc to owner = (m, 1) := by unfold fulfilF findF; rw [if_pos hl]; rfl
    rw [e]; exact ⟨rfl, h⟩
theorem rep_cancel {m : Mm} {w : Dm} (h : Rep m w) (loc to owner : Int) : (cancelF m loc to owner).2 = (dCancel w loc to owner).2 ∧ Rep (cancelF m loc to owner).1 (dCancel w loc to owner).1 := by
  have hok := ok_cancel h.ok loc to owner
  unfold dCancel
  rw [h.has]
  by_cases hl : hasF m loc = true
  · rw [if_neg (by rw [hl]; simp)]
    rcases rep_find h (to := to) (owner := owner) (res := true) hl with ⟨h1, h2⟩ | ⟨h0, k, t, y, i, hh, hd, hz, hs⟩
    · rw [h2]
      unfold cancelF
      rw [if_pos (by omega), h1]
      exact ⟨rfl, h⟩
    · rw [cancel_hit hh h0] at hok ⊢
      rw [hd]
      obtain ⟨hp, hy⟩ := hit_row h hh hs
      refine ⟨rfl, rep_put h hok (fun x hx => ?_) hh.lt ?_ fun j hj => ?_⟩
      · simp only [List.mem_append] at hx
        rcases hx with hx | hx
        · exact .inl (List.mem_of_mem_take hx)
        · exact .inl (List.mem_of_mem_drop hx)
      · rw [List.append_nil, atL_append]; exact hp
      · have hjk : (k : Int) ≠ (j : Int) := by omega
        conv => rhs; rw [hs]
        rw [atL_append, atL_append, atL_no (by rw [hy]; exact hjk)]
  · rw [Bool.not_eq_true] at hl
    rw [if_pos hl]
    have e : cancelF m loc to owner = (m, 1) := by unfold cancelF findF; rw [if_pos hl]; rfl
    rw [e]; exact ⟨rfl, h⟩
theorem rep_begin {l : List Int} (h1 : 1 ≤ l.length) (h4 : l.length ≤ 4) : Rep (beginL l) (dBegin l) := by
  have hx : ∀ i, i < l.length → l[i]? = some (l.getD i 0) := fun i hi => by rw [List.getElem?_eq_getElem hi, List.getD_eq_getElem?_getD, List.getElem?_eq_getElem hi]; rfl
  refine ⟨ok_begin h1 h4, rfl, fun y hy => ?_, fun i hi => ?_⟩
  · obtain ⟨i, hi, rfl⟩ := List.mem_map.1 hy
    have hi := List.mem_range.1 hi
    exact ⟨by show (0 : Int) ≤ (i : Nat); omega, by show ((i : Nat) : Int) < (l.length : Nat); omega⟩
  · have hi : i < l.length := hi
    have e : (beginL l).row i = [⟨(i : Nat), 0, 0, l.getD i 0, Vew.zeroF, false, -1⟩] := by unfold beginL; simp only [hx i hi]
    rw [e]
    refine List.Perm.of_eq ?_
    unfold atL dBegin
    simp only
    have ef : ((fun y : It => decide (y.loc = (i : Int))) ∘ fun j : Nat => (⟨(j : Nat), 0, 0, l.getD j 0, Vew.zeroF, false, -1⟩ : It)) = fun j : Nat => decide (j = i) := by
      funext j; simp only [Function.comp]; exact decide_eq_decide.2 (by omega)
    rw [List.filter_map, ef]
    obtain e | e | e | e : l.length = 1 ∨ l.length = 2 ∨ l.length = 3 ∨ l.length = 4 := by omega
    all_goals
      rw [e] at hi ⊢
      obtain rfl | rfl | rfl | rfl : i = 0 ∨ i = 1 ∨ i = 2 ∨ i = 3 := by omega
      all_goals first | (exfalso; omega; done) | rfl
end Go.Proofs.Ytgkgpehjedmejaa.Mmr
