/- Layer 12 (cap): the rooms of a location, an iterator; the contract of Of. -/
import Derived.Test.YtgkgpehjedmejaaMmrX
import Derived.Test.YtgkgpehjedmejaaMmrYB
import Derived.Test.YtgkgpehjedmejaaMmrN
namespace Go.Proofs.Ytgkgpehjedmejaa.Cap
open Go.Proofs.Ytgkgpehjedmejaa.Mmr

def resI (loc a b : Int) : It := ⟨loc, a, b, 0, Vew.zeroF, true, -1⟩
/-- The rooms of a location from a time on: the gaps, then one time behind its last item. -/
def rooms (e : Int) : List It → List (Int × Int)
  | [] => [(e, e + 1)]
  | x :: l => (if e < x.a then [(e, x.a)] else []) ++ rooms x.b l
/-- The reservation for a room, as the program makes it: of times that may not be a span, one of none. -/
def roomI (loc : Int) (r : Int × Int) : It := if Spn.mayF r.1 r.2 = true then resI loc r.1 r.2 else resI loc 0 0
def fillP (m : Mm) (loc : Int) : List (Int × Int) → Option Mm
  | [] => some m
  | r :: l => if (addF m (roomI loc r)).2 = 0 then fillP (addF m (roomI loc r)).1 loc l else none
/-- The memory whose first k locations have no room. -/
def upP (m : Mm) : Nat → Option Mm
  | 0 => some m
  | k + 1 => (upP m k).bind fun f => fillP f (k : Nat) (rooms 0 (listF m (k : Nat)))
def capP (m : Mm) : Mm × Int := match upP m m.n with
  | some f => (f, 0)
  | none => (m, 4)

/-! ### The document's -/
def roomsD : List It → List (Int × Int)
  | [] => []
  | [x] => [(x.b, x.b + 1)]
  | x :: y :: l => (if y.a = x.b then [] else [(x.b, y.a)]) ++ roomsD (y :: l)
def fillD (w : Dm) (loc : Int) : List (Int × Int) → Option Dm
  | [] => some w
  | r :: l => if (dAdd w (resI loc r.1 r.2)).2 = 0 then fillD (dAdd w (resI loc r.1 r.2)).1 loc l else none
def upD (w : Dm) : Nat → Option Dm
  | 0 => some w
  | k + 1 => (upD w k).bind fun f => fillD f (k : Nat) (roomsD (dList w (k : Nat)))
def capD (w : Dm) : Dm × Int := match upD w w.n with
  | some f => (f, 0)
  | none => (w, 4)
def topStep (loc : Nat) (t : Int) (x : It) : Int := if x.res = false ∧ x.loc = ((loc : Nat) : Int) ∧ t < x.b then x.b else t
def topD (w : Dm) (loc : Nat) : Int := w.l.foldl (topStep loc) 0
def topP (m : Mm) (loc : Nat) : Int := match lastF m (loc : Nat) fun _ => true with
  | some x => x.b
  | none => 0

theorem rooms_same : ∀ (l : List It) (x : It), (x :: l).Pairwise (fun x y => x.b ≤ y.a ∧ x.b < y.b) → rooms x.b l = roomsD (x :: l)
  | [], x, _ => rfl
  | y :: l, x, h => by
    have h1 := (List.pairwise_cons.1 h).1 y List.mem_cons_self
    show (if x.b < y.a then [(x.b, y.a)] else []) ++ rooms y.b l = (if y.a = x.b then [] else [(x.b, y.a)]) ++ roomsD (y :: l)
    rw [rooms_same l y (List.pairwise_cons.1 h).2]
    congr 1
    by_cases e : y.a = x.b
    · rw [if_pos e, if_neg (by omega)]
    · rw [if_neg e, if_pos (by omega)]
theorem rooms_row {i : Nat} {l : List It} (h : OkL i l) : rooms 0 l = roomsD l := by
  cases l with
  | nil => have := h.one; simp at this
  | cons x l =>
    have h0 := h.head x rfl
    show (if (0 : Int) < x.a then [((0 : Int), x.a)] else []) ++ rooms x.b l = _
    rw [if_neg (by omega), List.nil_append]
    exact rooms_same l x h.rise
theorem fill_rep : ∀ (rs : List (Int × Int)) {m : Mm} {w : Dm} (loc : Int), Rep m w → (∃ m' w', fillP m loc rs = some m' ∧ fillD w loc rs = some w' ∧ Rep m' w') ∨ (fillP m loc rs = none ∧ fillD w loc rs = none)
  | [], m, w, loc, h => .inl ⟨m, w, rfl, rfl, h⟩
  | r :: rs, m, w, loc, h => by
    by_cases hm : Spn.mayF r.1 r.2 = true
    · have e : roomI loc r = resI loc r.1 r.2 := by unfold roomI; rw [if_pos hm]
      obtain ⟨h1, h2⟩ := rep_add h (resI loc r.1 r.2)
      unfold fillP fillD
      rw [e, ← h1]
      by_cases h0 : (addF m (resI loc r.1 r.2)).2 = 0
      · rw [if_pos h0, if_pos h0]; exact fill_rep rs loc h2
      · rw [if_neg h0, if_neg h0]; exact .inr ⟨rfl, rfl⟩
    · right
      have e : roomI loc r = resI loc 0 0 := by unfold roomI; rw [if_neg hm]
      have h1 : (addF m (resI loc 0 0)).2 = 1 := by unfold addF; rw [if_pos (by unfold mayI resI; simp)]
      have h2 : (dAdd w (resI loc r.1 r.2)).2 = 1 := by
        unfold dAdd
        rw [if_pos (by unfold dMay resI; rw [Bool.not_eq_true] at hm; simp [hm])]
      unfold fillP fillD
      rw [e, h1, h2]
      exact ⟨rfl, rfl⟩
theorem up_rep {m : Mm} {w : Dm} (h : Rep m w) : ∀ k, k ≤ m.n → (∃ f d, upP m k = some f ∧ upD w k = some d ∧ Rep f d) ∨ (upP m k = none ∧ upD w k = none)
  | 0, _ => .inl ⟨m, w, rfl, rfl, h⟩
  | k + 1, hk => by
    have e : rooms 0 (listF m (k : Nat)) = roomsD (dList w (k : Nat)) := by
      rw [rep_list h]
      unfold listF
      rw [if_pos (has_iff.2 ⟨by omega, by omega⟩)]
      exact rooms_row (h.ok.each _ (by omega))
    rcases up_rep h k (by omega) with ⟨f, d, h1, h2, h3⟩ | ⟨h1, h2⟩
    · unfold upP upD
      rw [h1, h2, e]
      exact fill_rep _ (k : Nat) h3
    · right
      unfold upP upD
      rw [h1, h2]; exact ⟨rfl, rfl⟩
theorem cap_rep {m : Mm} {w : Dm} (h : Rep m w) : (capP m).2 = (capD w).2 ∧ Rep (capP m).1 (capD w).1 := by
  unfold capP capD
  rw [h.n]
  rcases up_rep h m.n (Nat.le_refl _) with ⟨f, d, h1, h2, h3⟩ | ⟨h1, h2⟩
  · rw [h1, h2]; exact ⟨rfl, h3⟩
  · rw [h1, h2]; exact ⟨rfl, h⟩
end Go.Proofs.Ytgkgpehjedmejaa.Cap
namespace Go.Proofs.Ytgkgpehjedmejaa.Cap
open Go.Proofs.Ytgkgpehjedmejaa.Mmr

/-! ### How long the document's row is -/
theorem at_sum : ∀ (l : List It), (∀ y ∈ l, 0 ≤ y.loc ∧ y.loc < 4) → l.length = (atL l 0).length + (atL l 1).length + (atL l 2).length + (atL l 3).length
  | [], _ => rfl
  | x :: l, h => by
    have ih := at_sum l fun y hy => h y (List.mem_cons_of_mem _ hy)
    have hx := h x List.mem_cons_self
    obtain e | e | e | e : x.loc = 0 ∨ x.loc = 1 ∨ x.loc = 2 ∨ x.loc = 3 := by omega
    · rw [atL_yes e, atL_no (by omega), atL_no (by omega), atL_no (by omega)]; simp only [List.length_cons]; omega
    · rw [atL_no (by omega), atL_yes e, atL_no (by omega), atL_no (by omega)]; simp only [List.length_cons]; omega
    · rw [atL_no (by omega), atL_no (by omega), atL_yes e, atL_no (by omega)]; simp only [List.length_cons]; omega
    · rw [atL_no (by omega), atL_no (by omega), atL_no (by omega), atL_yes e]; simp only [List.length_cons]; omega
theorem rep_len {m : Mm} {w : Dm} (h : Rep m w) : w.l.length ≤ 160 := by
  have h4 := h.ok.most
  have one : ∀ i : Nat, i < 4 → (atL w.l (i : Nat)).length ≤ 40 := fun i _ => by
    by_cases hi : i < m.n
    · rw [← (h.same i hi).length_eq]; exact h.ok.few i
    · rw [h.out (by rw [← Bool.not_eq_true, has_iff]; omega)]; simp
  have := at_sum w.l fun y hy => by have := h.loc y hy; omega
  have a : (atL w.l 0).length ≤ 40 := one 0 (by omega)
  have b : (atL w.l 1).length ≤ 40 := one 1 (by omega)
  have c : (atL w.l 2).length ≤ 40 := one 2 (by omega)
  have d : (atL w.l 3).length ≤ 40 := one 3 (by omega)
  omega

/-! ### Top -/
theorem topD_eq (w : Dm) (loc : Nat) : topD w loc = w.l.foldl (topStep loc) 0 := rfl
theorem top_fold (loc : Nat) : ∀ (l : List It) (t : Int), t ≤ l.foldl (topStep loc) t ∧ (∀ x ∈ l, x.res = false → x.loc = (loc : Nat) → x.b ≤ l.foldl (topStep loc) t) ∧
    (l.foldl (topStep loc) t = t ∨ ∃ x ∈ l, x.res = false ∧ x.loc = (loc : Nat) ∧ x.b = l.foldl (topStep loc) t)
  | [], t => ⟨Int.le_refl _, fun x h => by simp at h, .inl rfl⟩
  | y :: l, t => by
    obtain ⟨h1, h2, h3⟩ := top_fold loc l (topStep loc t y)
    rw [List.foldl_cons]
    have hs : t ≤ topStep loc t y ∧ (y.res = false → y.loc = (loc : Nat) → y.b ≤ topStep loc t y) ∧ (topStep loc t y = t ∨ (y.res = false ∧ y.loc = (loc : Nat) ∧ y.b = topStep loc t y)) := by
      unfold topStep
      by_cases hc : y.res = false ∧ y.loc = (loc : Nat) ∧ t < y.b
      · rw [if_pos hc]; exact ⟨by omega, fun _ _ => Int.le_refl _, .inr ⟨hc.1, hc.2.1, rfl⟩⟩
      · rw [if_neg hc]; exact ⟨Int.le_refl _, fun a b => by
          have : ¬ t < y.b := fun h => hc ⟨a, b, h⟩
          omega, .inl rfl⟩
    refine ⟨Int.le_trans hs.1 h1, fun x hx hr hl => ?_, ?_⟩
    · rcases List.mem_cons.1 hx with rfl | hx
      · exact Int.le_trans (hs.2.1 hr hl) h1
      · exact h2 x hx hr hl
    · rcases h3 with e | ⟨x, hx, a, b, c⟩
      · rw [e]
        rcases hs.2.2 with e' | ⟨a, b, c⟩
        · exact .inl e'
        · exact .inr ⟨y, List.mem_cons_self, a, b, c⟩
      · exact .inr ⟨x, List.mem_cons_of_mem _ hx, a, b, c⟩
theorem last_is {m : Mm} (h : OkM m) {loc : Nat} (hl : loc < m.n) : ∃ x, lastF m (loc : Nat) (fun _ => true) = some x ∧ x ∈ m.row loc ∧ x.res = false ∧ ∀ y ∈ m.row loc, y.res = false → y.b ≤ x.b := by
  have hO := h.each loc hl
  obtain ⟨z, hz⟩ : ∃ z, (m.row loc)[0]? = some z := ⟨_, List.getElem?_eq_getElem (by have := hO.one; omega)⟩
  have hz0 := hO.head z (by rw [List.head?_eq_getElem?]; exact hz)
  have e : lastF m (loc : Nat) (fun _ => true) = (m.row loc).reverse.find? fun x => !x.res := by
    unfold lastF
    rw [if_pos (has_iff.2 ⟨by omega, by omega⟩)]; simp
  rw [e]
  cases hf : (m.row loc).reverse.find? fun x => !x.res with
  | none =>
    have := List.find?_eq_none.1 hf z (List.mem_reverse.2 (List.mem_of_getElem? hz))
    simp [hz0.2.2.2] at this
  | some x =>
    obtain ⟨hp, l1, l2, e1, e2⟩ := List.find?_eq_some_iff_append.1 hf
    have hx : x ∈ m.row loc := List.mem_reverse.1 (List.mem_of_find?_eq_some hf)
    refine ⟨x, rfl, hx, by simpa using hp, fun y hy hr => ?_⟩
    have hy' := List.mem_reverse.2 hy
    rw [e1] at hy'
    rcases List.mem_append.1 hy' with hy' | hy'
    · have := e2 y hy'; simp [hr] at this
    · rcases List.mem_cons.1 hy' with rfl | hy'
      · exact Int.le_refl _
      · have hr2 := hO.rise
        rw [← List.pairwise_reverse, e1] at hr2
        have := (List.pairwise_cons.1 (List.pairwise_append.1 hr2).2.1).1 y hy'
        omega
theorem top_rep {m : Mm} {w : Dm} (h : Rep m w) (loc : Nat) : topD w loc = topP m loc := by
  rw [topD_eq]
  obtain ⟨h1, h2, h3⟩ := top_fold loc w.l 0
  by_cases hl : loc < m.n
  · obtain ⟨x, e, hx, hr, hm⟩ := last_is h.ok hl
    unfold topP
    rw [e]
    show _ = x.b
    have hh : hasF m (loc : Nat) = true := has_iff.2 ⟨by omega, by omega⟩
    have hx' := (h.mem hh).1 (by rw [show ((loc : Nat) : Int).toNat = loc by omega]; exact hx)
    have a := h2 x hx'.1 hr hx'.2
    rcases h3 with e3 | ⟨y, hy, b, c, d⟩
    · have := may_le ((h.ok.each loc hl).may x hx)
      omega
    · have hy' := (h.mem hh).2 ⟨hy, c⟩
      rw [show ((loc : Nat) : Int).toNat = loc by omega] at hy'
      have := hm y hy' b
      omega
  · have e : lastF m (loc : Nat) (fun _ => true) = none := by unfold lastF; rw [if_neg (by rw [has_iff]; omega)]
    unfold topP
    rw [e]
    show _ = (0 : Int)
    rcases h3 with e3 | ⟨y, hy, b, c, d⟩
    · exact e3
    · have := h.loc y hy; omega

/-! ### No room -/
/-- One behind the other, from a time on, without a gap. -/
def contig : Int → List It → Prop
  | _, [] => True
  | e, x :: l => x.a = e ∧ contig x.b l
def endOf : Int → List It → Int
  | e, [] => e
  | _, x :: l => endOf x.b l
theorem contig_append : ∀ {l l' : List It} {e : Int}, contig e (l ++ l') ↔ contig e l ∧ contig (endOf e l) l'
  | [], l', e => by simp [contig, endOf]
  | x :: l, l', e => by
    show x.a = e ∧ contig x.b (l ++ l') ↔ (x.a = e ∧ contig x.b l) ∧ contig (endOf x.b l) l'
    rw [contig_append]
    exact ⟨fun ⟨a, b, c⟩ => ⟨⟨a, b⟩, c⟩, fun ⟨⟨a, b⟩, c⟩ => ⟨a, b, c⟩⟩
theorem end_append : ∀ (l l' : List It) (e : Int), endOf e (l ++ l') = endOf (endOf e l) l'
  | [], _, _ => rfl
  | x :: l, l', e => by rw [List.cons_append]; exact end_append l l' x.b
/-- What is no reservation of nobody's. -/
def keptF (l : List It) : List It := l.filter fun x => !x.res || decide (0 ≤ x.owner)
theorem kept_res (a b : List It) (loc u v : Int) : keptF (a ++ [resI loc u v] ++ b) = keptF (a ++ b) := by
  unfold keptF
  rw [List.filter_append, List.filter_append, List.filter_append, List.filter_cons_of_neg (by simp [resI]), List.filter_nil, List.append_nil]
theorem end_le {i : Nat} : ∀ {done post : List It}, OkL i (done ++ post) → contig 0 done → ∀ x ∈ post, endOf 0 done ≤ x.a
  | done, post, h, hc, x, hx => by
    have hx0 := may_le (h.may x (List.mem_append_right _ hx))
    cases hd : done.getLast? with
    | none => rw [List.getLast?_eq_none_iff] at hd; subst hd; exact hx0.1
    | some z =>
      obtain ⟨ys, rfl⟩ := List.getLast?_eq_some_iff.1 hd
      rw [end_append]
      show z.b ≤ x.a
      have hr := h.rise
      rw [List.pairwise_append] at hr
      exact (hr.2.2 z (by simp) x hx).1
theorem end_mem : ∀ (l : List It) (e : Int), (l = [] ∧ endOf e l = e) ∨ ∃ z ∈ l, endOf e l = z.b
  | [], e => .inl ⟨rfl, rfl⟩
  | x :: l, e => by
    right
    rcases end_mem l x.b with ⟨_, h⟩ | ⟨z, hz, h⟩
    · exact ⟨x, List.mem_cons_self, h⟩
    · exact ⟨z, List.mem_cons_of_mem _ hz, h⟩
theorem end_ge {i : Nat} {done post : List It} (h : OkL i (done ++ post)) : ∀ y ∈ done, y.b ≤ endOf 0 done := fun y hy => by
  obtain ⟨a, b, rfl⟩ := List.append_of_mem hy
  rw [end_append]
  show y.b ≤ endOf y.b b
  have hr := (List.pairwise_append.1 (List.pairwise_append.1 h.rise).1).2.1
  rcases end_mem b y.b with ⟨_, e⟩ | ⟨z, hz, e⟩
  · omega
  · have := (List.pairwise_cons.1 hr).1 z hz
    omega
theorem end_zero {i : Nat} {done post : List It} (h : OkL i (done ++ post)) : 0 ≤ endOf 0 done := by
  rcases end_mem done 0 with ⟨_, e⟩ | ⟨z, hz, e⟩
  · omega
  · have := may_le (h.may z (List.mem_append_left _ hz)); omega
theorem add_res {k : Nat} {done post : List It} {m : Mm} (hO : OkM m) (hk : k < m.n) (hr : m.row k = done ++ post) {b : Int} (he : endOf 0 done < b) (hb : ∀ x ∈ post, b ≤ x.a)
    (h0 : (addF m (resI (k : Nat) (endOf 0 done) b)).2 = 0) :
    OkM (addF m (resI (k : Nat) (endOf 0 done) b)).1 ∧ (addF m (resI (k : Nat) (endOf 0 done) b)).1.n = m.n ∧ (∀ i, i ≠ k → (addF m (resI (k : Nat) (endOf 0 done) b)).1.row i = m.row i) ∧
      (addF m (resI (k : Nat) (endOf 0 done) b)).1.row k = done ++ [resI (k : Nat) (endOf 0 done) b] ++ post := by
  obtain ⟨k', hA⟩ := add_ok h0
  have hkk : k' = k := by have := hA.locK; simp only [resI] at this; omega
  subst hkk
  have hL := hO.each k' hk
  rw [hr] at hL
  have hpos : posI (done ++ post) (resI (k' : Nat) (endOf 0 done) b) = done.length := by
    refine pos_is (by simp) (fun j y hj hy => ?_) fun y hy => ?_
    · rw [List.getElem?_append_left hj] at hy
      have := end_ge hL y (List.mem_of_getElem? hy)
      show decide (y.b < b ∨ (y.b = b ∧ y.a < endOf 0 done)) = true
      rw [decide_eq_true_eq]; omega
    · rw [List.getElem?_append_right (Nat.le_refl _)] at hy
      have hy' := List.mem_of_getElem? hy
      have h1 := hb y hy'
      have h2 := may_le (hL.may y (List.mem_append_right _ hy'))
      have h3 := end_zero hL
      show decide (y.b < b ∨ (y.b = b ∧ y.a < endOf 0 done)) = false
      rw [decide_eq_false_iff_not]; omega
  have hrow := added_row hA
  rw [hr, hpos] at hrow
  refine ⟨ok_add hO _, by rw [hA.out]; rfl, fun i hi => ?_, ?_⟩
  · rw [hA.out]; unfold withF; rw [put_row, if_neg hi]
  · rw [hrow, List.take_left', List.drop_left'] <;> rfl
theorem room_no {m : Mm} {loc : Int} {r : Int × Int} (hm : ¬ Spn.mayF r.1 r.2 = true) (h0 : (addF m (roomI loc r)).2 = 0) : False := by
  have e : roomI loc r = resI loc 0 0 := by unfold roomI; rw [if_neg hm]
  have h1 : (addF m (resI loc 0 0)).2 = 1 := by unfold addF; rw [if_pos (by unfold mayI resI; simp)]
  rw [e, h1] at h0; simp at h0
/-- The rooms of what is left are filled one by one. -/
theorem fill_row {k : Nat} : ∀ (post done : List It) {m f : Mm}, OkM m → k < m.n → m.row k = done ++ post → contig 0 done → (post = [] → done ≠ []) →
    fillP m (k : Nat) (rooms (endOf 0 done) post) = some f →
    OkM f ∧ f.n = m.n ∧ (∀ i, i ≠ k → f.row i = m.row i) ∧ keptF (f.row k) = keptF (m.row k) ∧ ∃ ini z, f.row k = ini ++ [z] ∧ ini ≠ [] ∧ z.res = true ∧ contig 0 (ini ++ [z])
  | [], done, m, f, hO, hk, hr, hc, hne, hf => by
    unfold rooms fillP fillP at hf
    by_cases h0 : (addF m (roomI (k : Nat) (endOf 0 done, endOf 0 done + 1))).2 = 0
    · rw [if_pos h0] at hf
      injection hf with hf
      subst hf
      by_cases hm : Spn.mayF (endOf 0 done) (endOf 0 done + 1) = true
      · have e : roomI (k : Nat) (endOf 0 done, endOf 0 done + 1) = resI (k : Nat) (endOf 0 done) (endOf 0 done + 1) := by unfold roomI; rw [if_pos hm]
        rw [e] at h0 ⊢
        obtain ⟨h1, h2, h3, h4⟩ := add_res hO hk hr (by omega) (fun x hx => by simp at hx) h0
        refine ⟨h1, h2, h3, by rw [h4, hr, kept_res], done, resI (k : Nat) (endOf 0 done) (endOf 0 done + 1), by rw [h4, List.append_nil], hne rfl, rfl, ?_⟩
        rw [contig_append]
        exact ⟨hc, rfl, trivial⟩
      · exact (room_no hm h0).elim
    · rw [if_neg h0] at hf; cases hf
  | x :: post, done, m, f, hO, hk, hr, hc, hne, hf => by
    have hL := hO.each k hk
    rw [hr] at hL
    have hle := end_le hL hc x List.mem_cons_self
    unfold rooms at hf
    by_cases he : endOf 0 done < x.a
    · rw [if_pos he, List.singleton_append] at hf
      unfold fillP at hf
      by_cases h0 : (addF m (roomI (k : Nat) (endOf 0 done, x.a))).2 = 0
      · rw [if_pos h0] at hf
        have hx := may_le (hL.may x (by simp))
        have hz := end_zero hL
        have hm : Spn.mayF (endOf 0 done) x.a = true := by unfold Spn.mayF; rw [decide_eq_true_eq]; omega
        have e : roomI (k : Nat) (endOf 0 done, x.a) = resI (k : Nat) (endOf 0 done) x.a := by unfold roomI; rw [if_pos hm]
        rw [e] at h0 hf
        obtain ⟨h1, h2, h3, h4⟩ := add_res hO hk hr he (fun y hy => by
          rcases List.mem_cons.1 hy with rfl | hy
          · omega
          · have := (List.pairwise_cons.1 (List.pairwise_append.1 hL.rise).2.1).1 y hy
            omega) h0
        have hd : endOf 0 (done ++ [resI (k : Nat) (endOf 0 done) x.a, x]) = x.b := by rw [end_append]; rfl
        have hr' : (addF m (resI (k : Nat) (endOf 0 done) x.a)).1.row k = (done ++ [resI (k : Nat) (endOf 0 done) x.a, x]) ++ post := by rw [h4]; simp
        have hc' : contig 0 (done ++ [resI (k : Nat) (endOf 0 done) x.a, x]) := by rw [contig_append]; exact ⟨hc, rfl, rfl, trivial⟩
        rw [← hd] at hf
        obtain ⟨g1, g2, g3, g4, g5⟩ := fill_row post _ h1 (by omega) hr' hc' (fun _ => by simp) hf
        refine ⟨g1, g2.trans h2, fun i hi => (g3 i hi).trans (h3 i hi), g4.trans ?_, g5⟩
        rw [h4, hr, kept_res]
      · rw [if_neg h0] at hf; cases hf
    · rw [if_neg he, List.nil_append] at hf
      have hd : endOf 0 (done ++ [x]) = x.b := by rw [end_append]; rfl
      rw [← hd] at hf
      exact fill_row post _ hO hk (by rw [hr]; simp) (by rw [contig_append]; exact ⟨hc, by omega, trivial⟩) (fun _ => by simp) hf
/-- What capped memory has, location by location. -/
structure Full (m f : Mm) (k : Nat) : Prop where
  ok : OkM f
  n : f.n = m.n
  done : ∀ i, i < k → i < m.n → keptF (f.row i) = keptF (m.row i) ∧ ∃ ini z, f.row i = ini ++ [z] ∧ ini ≠ [] ∧ z.res = true ∧ contig 0 (ini ++ [z])
  rest : ∀ i, k ≤ i → f.row i = m.row i
theorem up_full {m : Mm} (hO : OkM m) : ∀ k, k ≤ m.n → ∀ {f : Mm}, upP m k = some f → Full m f k
  | 0, _, f, hf => by
    injection hf with hf
    subst hf
    exact ⟨hO, rfl, fun i hi => by omega, fun i _ => rfl⟩
  | k + 1, hk, f, hf => by
    unfold upP at hf
    cases hu : upP m k with
    | none => rw [hu] at hf; cases hf
    | some g =>
      rw [hu] at hf
      have hG := up_full hO k (by omega) hu
      have hrow := hG.rest k (Nat.le_refl _)
      have hl : listF m (k : Nat) = m.row k := by unfold listF; rw [if_pos (has_iff.2 ⟨by omega, by omega⟩)]; rfl
      have hone := (hO.each k (by omega)).one
      have hf' : fillP g (k : Nat) (rooms (endOf 0 []) (m.row k)) = some f := by rw [← hl]; exact hf
      obtain ⟨g1, g2, g3, g4, g5⟩ := fill_row (m.row k) [] hG.ok (by have := hG.n; omega) (by rw [hrow]; rfl) trivial (fun h => by rw [h] at hone; simp at hone) hf'
      refine ⟨g1, g2.trans hG.n, fun i hi hin => ?_, fun i hi => ?_⟩
      · by_cases e : i = k
        · subst e; exact ⟨by rw [g4, hrow], g5⟩
        · rw [g3 i e]; exact hG.done i (by omega) hin
      · rw [g3 i (by omega)]; exact hG.rest i (by omega)
theorem cap_full {m : Mm} (hO : OkM m) (h : (capP m).2 = 0) : Full m (capP m).1 m.n := by
  unfold capP at h ⊢
  cases hu : upP m m.n with
  | none => rw [hu] at h; simp at h
  | some f => exact up_full hO m.n (Nat.le_refl _) hu
/-- What is apart from a row without gaps stands behind its end. -/
theorem apart_end : ∀ (l : List It) (e : Int), contig e l → (∀ x ∈ l, x.a ≤ x.b) → ∀ y : It, e ≤ y.a → y.a < y.b → (∀ x ∈ l, apartI x y = true) → endOf e l ≤ y.a
  | [], e, _, _, y, he, _, _ => he
  | x :: l, e, hc, hm, y, he, hab, ha => by
    obtain ⟨h1, h2⟩ := hc
    refine apart_end l x.b h2 (fun z hz => hm z (List.mem_cons_of_mem _ hz)) y ?_ hab fun z hz => ha z (List.mem_cons_of_mem _ hz)
    have h3 := ha x List.mem_cons_self
    have h4 := hm x List.mem_cons_self
    simp only [apartI, decide_eq_true_eq] at h3
    omega
theorem add_full {m f : Mm} (hF : Full m f m.n) {y : It} (h : (addF f y).2 = 0) : ∃ k z ini, y.loc = (k : Nat) ∧ k < m.n ∧ f.row k = ini ++ [z] ∧ z.b ≤ y.a ∧ Spn.mayF y.a y.b = true ∧ y.a < y.b := by
  cases hm : mayI f y
  · rw [addF_1 hm] at h; simp at h
  obtain ⟨k, hk, hkn, hmay, h00, _⟩ := mayI_parts hm
  cases ha : (f.row k).any fun x => !apartI x y
  rotate_left
  · rw [addF_5 hm hk ha] at h; simp at h
  rw [hF.n] at hkn
  obtain ⟨_, ini, z, hr, _, _, hc⟩ := hF.done k hkn hkn
  have hml := may_le hmay
  have hO := hF.ok.each k (by rw [hF.n]; exact hkn)
  have hap : ∀ x ∈ f.row k, apartI x y = true := fun x hx => by
    have := List.any_eq_false.1 ha x hx
    simpa using this
  have he := apart_end (ini ++ [z]) 0 hc (fun x hx => by
    have := may_le (hO.may x (by rw [hr]; exact hx)); omega) y (by omega) (by omega) (fun x hx => hap x (by rw [hr]; exact hx))
  rw [end_append] at he
  exact ⟨k, z, ini, hk, hkn, hr, he, hmay, by omega⟩
end Go.Proofs.Ytgkgpehjedmejaa.Cap
namespace Go.Proofs.Ytgkgpehjedmejaa.Cap
open Go.RowKit Go.Shelf Go.Proofs.Ytgkgpehjedmejaa.Mem Go.Proofs.Ytgkgpehjedmejaa.Flow Go.Proofs.Ytgkgpehjedmejaa.Mmr
attribute [local go_sem] Oper.semAt_some

/-! ### Rooms, told item by item -/
def gaps : Int → List It → List (Int × Int)
  | _, [] => []
  | e, x :: l => (if e < x.a then [(e, x.a)] else []) ++ gaps x.b l
theorem rooms_gaps : ∀ (l : List It) (e : Int), rooms e l = gaps e l ++ [(endOf e l, endOf e l + 1)]
  | [], e => rfl
  | x :: l, e => by
    show (if e < x.a then [(e, x.a)] else []) ++ rooms x.b l = _
    rw [rooms_gaps l x.b]
    show _ = ((if e < x.a then [(e, x.a)] else []) ++ gaps x.b l) ++ [(endOf x.b l, endOf x.b l + 1)]
    rw [List.append_assoc]
theorem gaps_append : ∀ (l l' : List It) (e : Int), gaps e (l ++ l') = gaps e l ++ gaps (endOf e l) l'
  | [], l', e => rfl
  | x :: l, l', e => by
    show (if e < x.a then [(e, x.a)] else []) ++ gaps x.b (l ++ l') = ((if e < x.a then [(e, x.a)] else []) ++ gaps x.b l) ++ gaps (endOf x.b l) l'
    rw [gaps_append l l' x.b, List.append_assoc]
theorem gaps_len : ∀ (l : List It) (e : Int), (gaps e l).length ≤ l.length
  | [], _ => Nat.le_refl _
  | x :: l, e => by
    show ((if e < x.a then [(e, x.a)] else []) ++ gaps x.b l).length ≤ l.length + 1
    have := gaps_len l x.b
    rw [List.length_append]
    split <;> simp <;> omega
theorem gaps_next {l : List It} {k : Nat} {x : It} (h : l[k]? = some x) : gaps 0 (l.take (k + 1)) = gaps 0 (l.take k) ++ (if endOf 0 (l.take k) < x.a then [(endOf 0 (l.take k), x.a)] else []) := by
  rw [List.take_add_one, h]
  show gaps 0 (l.take k ++ [x]) = _
  rw [gaps_append]
  show _ ++ ((if endOf 0 (l.take k) < x.a then [(endOf 0 (l.take k), x.a)] else []) ++ []) = _
  rw [List.append_nil]
theorem end_next {l : List It} {k : Nat} {x : It} (h : l[k]? = some x) : endOf 0 (l.take (k + 1)) = x.b := by
  rw [List.take_add_one, h]
  show endOf 0 (l.take k ++ [x]) = _
  rw [end_append]; rfl
theorem end_bound {l : List It} (h : ∀ x ∈ l, MayX x) (k : Nat) : 0 ≤ endOf 0 (l.take k) ∧ endOf 0 (l.take k) ≤ 1048576 := by
  rcases end_mem (l.take k) 0 with ⟨_, e⟩ | ⟨z, hz, e⟩
  · rw [e]; omega
  · rw [e]; have := may_le (h z (List.mem_of_mem_take hz)); omega
/-- The span of a room, as the program has it. -/
abbrev spanV (r : Int × Int) : Value := .complex .f64 (fw (roomI 0 r).a) (fw (roomI 0 r).b)
theorem room_a (loc : Int) (r : Int × Int) : (roomI loc r).a = (roomI 0 r).a ∧ (roomI loc r).b = (roomI 0 r).b := by
  unfold roomI; split <;> exact ⟨rfl, rfl⟩
theorem of_any {a b : Int} (ha : a.natAbs ≤ 2 ^ 64) (hb : b.natAbs ≤ 2 ^ 64) (w : World) :
    Calls Try.prog 36 #[.int .i64 a, .int .i64 b] w fun e w' => e = .returned (.tuple #[spanV (a, b), .bool (Spn.mayF a b)]) ∧ w = w' := by
  cases hm : Spn.mayF a b
  · have h := Spn.of_no ha hb hm w
    have e : roomI 0 (a, b) = resI 0 0 0 := by unfold roomI; rw [if_neg (by rw [hm]; decide)]
    unfold spanV
    rw [e, show fw (resI 0 0 0).a = 0 from fw_0, show fw (resI 0 0 0).b = 0 from fw_0]
    exact h
  · have h := Spn.of_yes ha hb hm w
    have e : roomI 0 (a, b) = resI 0 a b := by unfold roomI; rw [if_pos hm]
    unfold spanV
    rw [e]
    exact h
/-- All cells stay, but those of one block. -/
structure Kept (B : Nat) (W W' : World) : Prop where
  size : W.heap.size ≤ W'.heap.size
  same : ∀ (k : Nat) (o : Obj), k ≠ B → W.heap[k]? = some o → o.isCells = true → W'.heap[k]? = some o
theorem Kept.refl (B : Nat) (W : World) : Kept B W W := ⟨Nat.le_refl _, fun _ _ _ h _ => h⟩
theorem Kept.trans {B : Nat} {X Y Z : World} (h : Kept B X Y) (h' : Kept B Y Z) : Kept B X Z := ⟨Nat.le_trans h.size h'.size, fun k o hk e ho => h'.same k o hk (h.same k o hk e ho) ho⟩
theorem Kept.below {B : Nat} {X Y : World} (h : Below X.heap.size X Y) : Kept B X Y := ⟨h.size, fun k _ _ e _ => (h.block k (Array.getElem?_eq_some_iff.1 e).1).trans e⟩
theorem Kept.cell {B : Nat} {X Y : World} (h : Kept B X Y) {g i : Nat} {v : Value} (hg : g ≠ B) (hc : X.cell? ⟨g, i, none⟩ = some v) : Y.cell? ⟨g, i, none⟩ = some v := by
  have hlt : g < X.heap.size := World.block_lt_of_cell? _ _ hc
  obtain ⟨o, ho⟩ : ∃ o, X.heap[g]? = some o := ⟨_, Array.getElem?_eq_getElem hlt⟩
  have hcl : o.isCells = true := by
    unfold World.cell? at hc
    rw [ho] at hc
    cases o <;> first | rfl | (simp at hc)
  exact (World.cell?_of_block (a := ⟨g, i, none⟩) ((h.same g o hg ho hcl).trans ho.symm)).trans hc
theorem Kept.sits {B : Nat} {X Y : World} (h : Kept B X Y) {g : Nat} {t : TypeId} {cs : Array Value} (hg : g ≠ B) (hs : Sits X g t cs) : Sits Y g t cs := h.same g _ hg hs rfl
theorem Kept.put (B : Nat) (W : World) (l : Nat) (o1 o' : Obj) (hl : W.heap[l]? = some o1) (ho : o1.isCells = false) : Kept B W (W.putObj l o') :=
  ⟨by simp [World.putObj], fun k o2 _ e h2 => by
    by_cases hkl : k = l
    · subst hkl; rw [hl] at e; injection e with e; subst e; rw [ho] at h2; cases h2
    · simp only [World.putObj]; rw [Array.getElem?_setIfInBounds_ne (Ne.symm hkl)]; exact e⟩
end Go.Proofs.Ytgkgpehjedmejaa.Cap
