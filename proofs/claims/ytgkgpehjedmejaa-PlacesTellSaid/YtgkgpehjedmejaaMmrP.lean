/- Layer 11 (memory): what follows, over plain rows: Fulfil and Cancel keep what must be; Cancel undoes Add; Fulfil changes an owner alone. -/
import Derived.Test.YtgkgpehjedmejaaMmrI
namespace Go.Proofs.Ytgkgpehjedmejaa.Mmr

theorem split_at {l : List It} {t : Nat} {y : It} (h : l[t]? = some y) : l = l.take t ++ y :: l.drop (t + 1) := by
  obtain ⟨ht, rfl⟩ := List.getElem?_eq_some_iff.1 h
  rw [List.getElem_cons_drop, List.take_append_drop]
theorem okL_end {i t : Nat} {l : List It} (h : OkL i l) {y : It} (hy : l[t]? = some y) (ht : 0 < t) {xs : List It} (hx : xs = [] ∨ xs = [freeI y]) : OkL i (l.take t ++ xs ++ l.drop (t + 1)) := by
  have hs := split_at hy
  have hlen := congrArg List.length hs
  rw [List.length_append, List.length_cons] at hlen
  obtain ⟨z, hz⟩ : ∃ z, l[0]? = some z := ⟨_, List.getElem?_eq_getElem (by have := h.one; omega)⟩
  have h0 : (l.take t)[0]? = some z := by rw [List.getElem?_take_of_lt ht]; exact hz
  have hz0 := h.head z (by rw [List.head?_eq_getElem?]; exact hz)
  have hyl := List.mem_of_getElem? hy
  have hr := h.rise
  rw [hs, pairwise_mid] at hr
  have mem : ∀ x ∈ l.take t ++ xs ++ l.drop (t + 1), x = freeI y ∨ x ∈ l := fun x hx' => by
    simp only [List.mem_append] at hx'
    rcases hx' with (hx' | hx') | hx'
    · exact .inr (List.mem_of_mem_take hx')
    · rcases hx with rfl | rfl
      · simp at hx'
      · left; simpa using hx'
    · exact .inr (List.mem_of_mem_drop hx')
  have hxl : xs.length ≤ 1 := by rcases hx with rfl | rfl <;> simp
  have htk : 1 ≤ (l.take t).length := by
    have := (List.getElem?_eq_some_iff.1 h0).1; omega
  refine ⟨?_, ?_, fun x hx' => ?_, fun x hx' => ?_, fun x hx' => ?_, ?_, fun x hx' => ?_⟩
  · rw [List.length_append, List.length_append]; have := h.few; omega
  · rw [List.length_append, List.length_append]; omega
  · rcases mem x hx' with rfl | hx'
    · exact h.may y hyl
    · exact h.may x hx'
  · rcases mem x hx' with rfl | hx'
    · exact h.loc y hyl
    · exact h.loc x hx'
  · rcases mem x hx' with rfl | hx'
    · exact ⟨by simp [freeI], by simp [freeI]⟩
    · exact h.low x hx'
  · rcases hx with rfl | rfl
    · rw [List.append_nil]; exact hr.1
    · rw [List.append_assoc, List.singleton_append, pairwise_mid]
      exact ⟨hr.1, hr.2.1, hr.2.2⟩
  · rw [List.append_assoc, List.head?_append, List.head?_eq_getElem?, h0] at hx'
    simp at hx'; subst hx'; exact hz0
theorem hit_pos {m : Mm} (h : OkM m) {loc to owner : Int} {res : Bool} {k t : Nat} {y : It} (hh : Hit m loc to owner res k t y) : 0 < t := by
  rcases Nat.eq_zero_or_pos t with rfl | ht
  · have h0 := (h.each k hh.lt).head y (by rw [List.head?_eq_getElem?]; exact hh.at_)
    have hi := hh.is
    have ho := hh.own
    simp only [endI, Bool.and_eq_true, decide_eq_true_eq] at hi
    exfalso; apply ho; rw [← hi.2]; exact h0.2.2.1
  · exact ht
theorem ok_fulfil {m : Mm} (h : OkM m) (loc to owner : Int) : OkM (fulfilF m loc to owner).1 := by
  by_cases he : (findF m loc to owner false).2 = 0
  · obtain ⟨k, t, y, hh⟩ := find_hit he
    rw [fulfil_hit hh he]
    exact ok_put h hh.lt (okL_end (h.each k hh.lt) hh.at_ (hit_pos h hh) (.inr rfl))
  · unfold fulfilF; rw [if_pos he]; exact h
theorem ok_cancel {m : Mm} (h : OkM m) (loc to owner : Int) : OkM (cancelF m loc to owner).1 := by
  by_cases he : (findF m loc to owner true).2 = 0
  · obtain ⟨k, t, y, hh⟩ := find_hit he
    rw [cancel_hit hh he]
    exact ok_put h hh.lt (okL_end (h.each k hh.lt) hh.at_ (hit_pos h hh) (.inl rfl))
  · unfold cancelF; rw [if_pos he]; exact h
theorem ok_begin {l : List Int} (h1 : 1 ≤ l.length) (h4 : l.length ≤ 4) : OkM (beginL l) := by
  refine ⟨h1, h4, fun i hi => ?_, fun i hi => ?_⟩
  · show (match l[i]? with | some n => _ | none => []) = []
    rw [List.getElem?_eq_none hi]
  · have hx : l[i]? = some (l[i]'hi) := List.getElem?_eq_getElem hi
    have e : (beginL l).row i = [⟨(i : Nat), 0, 0, l[i]'hi, Vew.zeroF, false, -1⟩] := by
      show (match l[i]? with | some n => _ | none => []) = _
      rw [hx]
    rw [e]
    refine ⟨by simp, by simp, fun y hy => ?_, fun y hy => ?_, fun y hy => ?_, by simp, fun y hy => ?_⟩
    · rw [List.mem_singleton] at hy; subst hy; rfl
    · rw [List.mem_singleton] at hy; subst hy; rfl
    · rw [List.mem_singleton] at hy; subst hy; exact ⟨by show (-1 : Int) ≤ -1; omega, by show (-1 : Int) < 4; omega⟩
    · simp at hy; subst hy; exact ⟨rfl, rfl, rfl, rfl⟩

/-! ### Cancel undoes Add -/
theorem put_put (m : Mm) (k : Nat) (l : List It) : put (put m k l) k (m.row k) = m := by
  cases m with
  | mk n row =>
    simp only [put]
    congr 1
    funext i
    by_cases e : i = k
    · rw [if_pos e, e]
    · rw [if_neg e, if_neg e]
theorem mayI_parts {m : Mm} {x : It} (h : mayI m x = true) : ∃ k : Nat, x.loc = (k : Nat) ∧ k < m.n ∧ Spn.mayF x.a x.b = true ∧ ¬ (x.a = 0 ∧ x.b = 0) ∧ -1 ≤ x.owner ∧ x.owner < 4 := by
  simp only [mayI, Bool.and_eq_true, has_iff, decide_eq_true_eq, Bool.not_eq_true', decide_eq_false_iff_not] at h
  obtain ⟨⟨⟨⟨⟨⟨h11, h12⟩, h13⟩, h14⟩, h15⟩, h16⟩, h17⟩ := h
  exact ⟨x.loc.toNat, by omega, by omega, h14, h15, h12, h13⟩
/-- An item that was added. -/
structure Added (m : Mm) (x : It) (k : Nat) : Prop where
  locK : x.loc = (k : Nat)
  lt : k < m.n
  may : Spn.mayF x.a x.b = true
  out : (addF m x).1 = withF m k (posI (m.row k) x) (posI (m.row k) x) [x]
theorem add_ok {m : Mm} {x : It} (h : (addF m x).2 = 0) : ∃ k, Added m x k := by
  cases hm : mayI m x
  · rw [addF_1 hm] at h; simp at h
  obtain ⟨k, hk, hkn, hmay, _⟩ := mayI_parts hm
  cases ha : (m.row k).any fun y => !apartI y x
  rotate_left
  · rw [addF_5 hm hk ha] at h; simp at h
  by_cases h40 : 40 ≤ (m.row k).length
  · rw [addF_4 hm hk ha h40] at h; simp at h
  exact ⟨k, hk, hkn, hmay, by rw [addF_0 hm hk ha h40]⟩
theorem added_row {m : Mm} {x : It} {k : Nat} (h : Added m x k) : (addF m x).1.row k = (m.row k).take (posI (m.row k) x) ++ [x] ++ (m.row k).drop (posI (m.row k) x) := by
  rw [h.out]; unfold withF; rw [put_row, if_pos rfl]
theorem cancel_add {m : Mm} (hO : OkM m) {x : It} (h : (addF m x).2 = 0) (hr : x.res = true) (ho : 0 ≤ x.owner) : cancelF (addF m x).1 x.loc x.b x.owner = (m, 0) := by
  obtain ⟨k, hA⟩ := add_ok h
  have hO2 := ok_add hO x
  have hn : (addF m x).1.n = m.n := by rw [hA.out]; rfl
  have hrow := added_row hA
  have hple := pos_le (m.row k) x
  have htl : ((m.row k).take (posI (m.row k) x)).length = posI (m.row k) x := by rw [List.length_take]; omega
  have hat : ((addF m x).1.row k)[posI (m.row k) x]? = some x := by
    rw [hrow, List.append_assoc, List.getElem?_append_right (by omega), htl, Nat.sub_self]; rfl
  have hrise := (hO2.each k (by rw [hn]; exact hA.lt)).rise
  have hidx : idxF (endI x.b x.owner true) ((addF m x).1.row k) = (posI (m.row k) x : Nat) := by
    refine idx_some hat (by simp [endI, hr]) fun j y hj hy => ?_
    obtain ⟨h1, rfl⟩ := List.getElem?_eq_some_iff.1 hy
    obtain ⟨h2, h2'⟩ := List.getElem?_eq_some_iff.1 hat
    have := List.pairwise_iff_getElem.1 hrise j _ h1 h2 hj
    rw [h2'] at this
    have hb : ¬ (((addF m x).1.row k)[j].b = x.b) := by omega
    simp [endI, hb]
  have hhas : hasF (addF m x).1 x.loc = true := has_iff.2 ⟨by have := hA.locK; omega, by rw [hn]; have := hA.locK; have := hA.lt; omega⟩
  have hk : x.loc.toNat = k := by have := hA.locK; omega
  have hf : findF (addF m x).1 x.loc x.b x.owner true = (((posI (m.row k) x : Nat) : Int), 0) := by
    unfold findF
    rw [if_neg (by rw [hhas]; simp), hk, hidx, if_neg (by omega)]
  unfold cancelF
  rw [if_neg (by rw [hf]; simp), hf, hk]
  have e : withF (addF m x).1 k (posI (m.row k) x) (posI (m.row k) x + 1) [] = m := by
    unfold withF
    rw [hrow, List.append_nil]
    have e1 : ((m.row k).take (posI (m.row k) x) ++ [x] ++ (m.row k).drop (posI (m.row k) x)).take (posI (m.row k) x) = (m.row k).take (posI (m.row k) x) := by
      rw [List.append_assoc, List.take_append_of_le_length (by omega), List.take_of_length_le (by omega)]
    have e2 : ((m.row k).take (posI (m.row k) x) ++ [x] ++ (m.row k).drop (posI (m.row k) x)).drop (posI (m.row k) x + 1) = (m.row k).drop (posI (m.row k) x) := by
      rw [List.drop_append_of_le_length (by simp; omega), List.drop_of_length_le (by simp; omega), List.nil_append]
    rw [e1, e2, List.take_append_drop, hA.out]
    exact put_put m k _
  rw [show ((posI (m.row k) x : Nat) : Int).toNat = posI (m.row k) x by omega, e]

/-! ### What an act that is refused leaves -/
theorem add_no {m : Mm} {x : It} (h : (addF m x).2 ≠ 0) : (addF m x).1 = m := by
  cases hm : mayI m x
  · rw [addF_1 hm]
  obtain ⟨k, hk, hkn, _⟩ := mayI_parts hm
  cases ha : (m.row k).any fun y => !apartI y x
  rotate_left
  · rw [addF_5 hm hk ha]
  by_cases h40 : 40 ≤ (m.row k).length
  · rw [addF_4 hm hk ha h40]
  · rw [addF_0 hm hk ha h40] at h; simp at h
theorem fulfil_no {m : Mm} {loc to owner : Int} (h : (fulfilF m loc to owner).2 ≠ 0) : (fulfilF m loc to owner).1 = m := by
  by_cases he : (findF m loc to owner false).2 = 0
  · obtain ⟨k, t, y, hh⟩ := find_hit he
    rw [fulfil_hit hh he] at h; simp at h
  · unfold fulfilF; rw [if_pos he]
theorem cancel_no {m : Mm} {loc to owner : Int} (h : (cancelF m loc to owner).2 ≠ 0) : (cancelF m loc to owner).1 = m := by
  by_cases he : (findF m loc to owner true).2 = 0
  · obtain ⟨k, t, y, hh⟩ := find_hit he
    rw [cancel_hit hh he] at h; simp at h
  · unfold cancelF; rw [if_pos he]
/-! ### Fulfil changes an owner alone -/
theorem owned_sum (m : Mm) (owner : Int) : (ownedF m owner).length = (m.row 0).countP (fun x => decide (x.owner = owner)) + (m.row 1).countP (fun x => decide (x.owner = owner)) + (m.row 2).countP (fun x => decide (x.owner = owner)) + (m.row 3).countP (fun x => decide (x.owner = owner)) := by
  unfold ownedF
  rw [← List.countP_eq_length_filter, show List.range 4 = [0, 1, 2, 3] from rfl]
  simp only [List.flatMap_cons, List.flatMap_nil, List.append_nil, List.countP_append]
  omega
theorem fulfil_yes {m : Mm} (hO : OkM m) {loc to owner : Int} (h : (fulfilF m loc to owner).2 = 0) :
    (listF (fulfilF m loc to owner).1 loc).length = (listF m loc).length ∧ (ownedF m owner).length = (ownedF (fulfilF m loc to owner).1 owner).length + 1 := by
  by_cases he : (findF m loc to owner false).2 = 0
  rotate_left
  · unfold fulfilF at h; rw [if_pos he] at h; exact absurd h he
  obtain ⟨k, t, y, hh⟩ := find_hit he
  rw [fulfil_hit hh he]
  have hs := split_at hh.at_
  have hk4 : k < 4 := by have := hO.most; have := hh.lt; omega
  have hrow : (withF m k t (t + 1) [freeI y]).row k = (m.row k).take t ++ [freeI y] ++ (m.row k).drop (t + 1) := by unfold withF; rw [put_row, if_pos rfl]
  have hother : ∀ i, i ≠ k → (withF m k t (t + 1) [freeI y]).row i = m.row i := fun i hi => by unfold withF; rw [put_row, if_neg hi]
  constructor
  · have hhas : hasF m loc = true := has_iff.2 ⟨by have := hh.locK; omega, by have := hh.locK; have := hh.lt; omega⟩
    have hhas2 : hasF (withF m k t (t + 1) [freeI y]) loc = true := hhas
    unfold listF
    rw [hhas, hhas2, if_pos rfl, if_pos rfl, show loc.toNat = k by have := hh.locK; omega, hrow]
    have hl := congrArg List.length hs
    rw [List.length_append, List.length_cons] at hl
    rw [List.length_append, List.length_append, List.length_singleton]; omega
  · have hyo : y.owner = owner := by have := hh.is; simp only [endI, Bool.and_eq_true, decide_eq_true_eq] at this; exact this.2
    have hc : (m.row k).countP (fun x => decide (x.owner = owner)) = ((withF m k t (t + 1) [freeI y]).row k).countP (fun x => decide (x.owner = owner)) + 1 := by
      rw [hrow]
      conv => lhs; rw [hs]
      rw [List.countP_append, List.countP_append, List.countP_append, List.countP_cons, List.countP_singleton]
      have h1 : decide (y.owner = owner) = true := by simpa using hyo
      have h2 : decide ((freeI y).owner = owner) = false := decide_eq_false (by show ¬ ((-1 : Int) = owner); have := hh.own; omega)
      rw [h1, h2]; simp; omega
    show (ownedF m owner).length = (ownedF (withF m k t (t + 1) [freeI y]) owner).length + 1
    rw [owned_sum, owned_sum]
    rcases (by omega : k = 0 ∨ k = 1 ∨ k = 2 ∨ k = 3) with rfl | rfl | rfl | rfl
    · rw [hother 1 (by decide), hother 2 (by decide), hother 3 (by decide), hc]; omega
    · rw [hother 0 (by decide), hother 2 (by decide), hother 3 (by decide), hc]; omega
    · rw [hother 0 (by decide), hother 1 (by decide), hother 3 (by decide), hc]; omega
    · rw [hother 0 (by decide), hother 1 (by decide), hother 2 (by decide), hc]; omega
end Go.Proofs.Ytgkgpehjedmejaa.Mmr
