/- Layer 3 (expr): the statement that unlike expressions are written unlike. -/
import Derived.Test.YtpdpofoicdijlaaGreatDoorExprN
import Derived.Test.YtpdpofoicdijlaaGreatDoorExprT
import Derived.Test.YtpdpofoicdijlaaGreatDoorExprE
namespace Go.Proofs.YtpdpofoicdijlaaGreatDoor.Expr
open Go.RowKit Go.Proofs.YtpdpofoicdijlaaGreatDoor.Mem Go.Lib

/-! ### Two rows, item by item -/
def AlikeAt (a b : List It) (j j' : Nat) : Prop := ∃ x y, a[j]? = some x ∧ b[j']? = some y ∧ alikeB x y = true
theorem alike_kind {x y : It} (h : alikeB x y = true) : x.kind = y.kind := by
  unfold alikeB at h
  simp only [Bool.and_eq_true, decide_eq_true_eq] at h
  exact h.1
theorem alike_0 {x y : It} (h : alikeB x y = true) (hk : x.kind = 0) : y.n = x.n := by
  unfold alikeB at h
  simp only [Bool.and_eq_true, hk, if_true, decide_eq_true_eq] at h
  exact h.2.symm
theorem alike_1 {x y : It} (h : alikeB x y = true) (hk : x.kind = 1) : y.i = x.i := by
  unfold alikeB at h
  simp [hk] at h
  exact h.2.symm
theorem alike_2 {x y : It} (h : alikeB x y = true) (hk : x.kind = 2) : y.t = x.t ∧ y.i = x.i := by
  unfold alikeB at h
  simp [hk] at h
  exact ⟨h.2.1.symm, h.2.2.symm⟩
theorem alike_3 {x y : It} (h : alikeB x y = true) (hk : x.kind = 3) : y.x = x.x := by
  unfold alikeB at h
  simp [hk] at h
  exact h.2.symm
theorem alike_4 {x y : It} (h : alikeB x y = true) (hk : 4 ≤ x.kind) : y.op = x.op := by
  unfold alikeB at h
  rw [if_neg (by omega), if_neg (by omega), if_neg (by omega), if_neg (by omega)] at h
  simp only [Bool.and_eq_true, decide_eq_true_eq] at h
  exact h.2.symm
theorem alike_sp {a b : List It} {k m : Nat} {e : Ex} (hs : Sp a k e m) : ∀ k', (∀ i, k + i < m → AlikeAt a b (k + i) (k' + i)) → Sp b k' e (k' + (m - k)) := by
  have inj : ∀ {k : Nat} {x y : It}, a[k]? = some x → a[k]? = some y → x = y := fun h h' => by rw [h] at h'; exact Option.some.inj h'
  induction hs with
  | @num k x hx hk =>
    intro k' h
    obtain ⟨x', y, h1, h2, h3⟩ := h 0 (by omega)
    obtain rfl := inj hx h1
    rw [show k' + (k + 1 - k) = k' + 1 by omega, ← alike_0 h3 hk]
    exact .num h2 (alike_kind h3 ▸ hk)
  | @reg k x hx hk hi =>
    intro k' h
    obtain ⟨x', y, h1, h2, h3⟩ := h 0 (by omega)
    obtain rfl := inj hx h1
    have e1 := alike_1 h3 hk
    rw [show k' + (k + 1 - k) = k' + 1 by omega, ← e1]
    exact .reg h2 (alike_kind h3 ▸ hk) (by omega)
  | @of k x hx hk ht hi =>
    intro k' h
    obtain ⟨x', y, h1, h2, h3⟩ := h 0 (by omega)
    obtain rfl := inj hx h1
    obtain ⟨e1, e2⟩ := alike_2 h3 hk
    rw [show k' + (k + 1 - k) = k' + 1 by omega, ← e1, ← e2]
    exact .of h2 (alike_kind h3 ▸ hk) (by omega) (by omega)
  | @loc k x hx hk hl hh hr =>
    intro k' h
    obtain ⟨x', y, h1, h2, h3⟩ := h 0 (by omega)
    obtain rfl := inj hx h1
    have e1 := alike_3 h3 hk
    rw [show k' + (k + 1 - k) = k' + 1 by omega, ← e1]
    exact .loc h2 (alike_kind h3 ▸ hk) (by omega) (by omega) (by omega)
  | @one k x e m hx hk ho hs ih =>
    intro k' h
    have hle := hs.le
    obtain ⟨x', y, h1, h2, h3⟩ := h 0 (by omega)
    obtain rfl := inj hx h1
    have e1 := alike_4 h3 (by omega)
    have hi := ih (k' + 1) (fun i hi => by
      have := h (i + 1) (by omega)
      rwa [show k + (i + 1) = k + 1 + i by omega, show k' + (i + 1) = k' + 1 + i by omega] at this)
    rw [show k' + 1 + (m - (k + 1)) = k' + (m - k) by omega] at hi
    rw [← e1]
    exact .one h2 (alike_kind h3 ▸ hk) (by omega) hi
  | @two k x e f m j hx hk ho1 ho2 hs1 hs2 ih1 ih2 =>
    intro k' h
    have hle1 := hs1.le
    have hle2 := hs2.le
    obtain ⟨x', y, h1, h2, h3⟩ := h 0 (by omega)
    obtain rfl := inj hx h1
    have e1 := alike_4 h3 (by omega)
    have hi1 := ih1 (k' + 1) (fun i hi => by
      have := h (i + 1) (by omega)
      rwa [show k + (i + 1) = k + 1 + i by omega, show k' + (i + 1) = k' + 1 + i by omega] at this)
    have hi2 := ih2 (k' + (m - k)) (fun i hi => by
      have := h (m - k + i) (by omega)
      rwa [show k + (m - k + i) = m + i by omega, show k' + (m - k + i) = k' + (m - k) + i by omega] at this)
    rw [show k' + 1 + (m - (k + 1)) = k' + (m - k) by omega] at hi1
    rw [show k' + (m - k) + (j - m) = k' + (j - k) by omega] at hi2
    rw [← e1]
    exact .two h2 (alike_kind h3 ▸ hk) (by omega) (by omega) hi1 hi2
theorem alike_of {x y : It} (hk : x.kind = y.kind) (h : (x.kind = 0 → x.n = y.n) ∧ (x.kind = 1 → x.i = y.i) ∧ (x.kind = 2 → x.t = y.t ∧ x.i = y.i) ∧ (x.kind = 3 → x.x = y.x) ∧ (4 ≤ x.kind → x.op = y.op)) : alikeB x y = true := by
  unfold alikeB
  rw [decide_eq_true hk, Bool.true_and]
  split
  · exact decide_eq_true (h.1 ‹_›)
  split
  · exact decide_eq_true (h.2.1 ‹_›)
  split
  · obtain ⟨h1, h2⟩ := h.2.2.1 ‹_›
    rw [decide_eq_true h1, decide_eq_true h2]; rfl
  split
  · exact decide_eq_true (h.2.2.2.1 ‹_›)
  · exact decide_eq_true (h.2.2.2.2 (by omega))
theorem sp_alike {a b : List It} {k m : Nat} {e : Ex} (hs : Sp a k e m) : ∀ k' m', Sp b k' e m' → m - k = m' - k' ∧ ∀ i, k + i < m → AlikeAt a b (k + i) (k' + i) := by
  have leaf : ∀ {k k' : Nat} {x y : It}, a[k]? = some x → b[k']? = some y → alikeB x y = true → k + 1 - k = k' + 1 - k' ∧ ∀ i, k + i < k + 1 → AlikeAt a b (k + i) (k' + i) := fun {k k' x y} h1 h2 h3 => ⟨by omega, fun i hi => by
    obtain rfl : i = 0 := by omega
    exact ⟨x, y, h1, h2, h3⟩⟩
  induction hs with
  | @num k x hx hk =>
    intro k' m' h
    generalize he : Ex.num x.n = e' at h
    cases h with
    | num hy hk' => injection he with he; exact leaf hx hy (alike_of (by omega) ⟨fun _ => he, by omega, by omega, by omega, by omega⟩)
    | _ => cases he
  | @reg k x hx hk hi =>
    intro k' m' h
    generalize he : Ex.reg x.i = e' at h
    cases h with
    | reg hy hk' _ => injection he with he; exact leaf hx hy (alike_of (by omega) ⟨by omega, fun _ => he, by omega, by omega, by omega⟩)
    | _ => cases he
  | @of k x hx hk ht hi =>
    intro k' m' h
    generalize he : Ex.of x.t x.i = e' at h
    cases h with
    | of hy hk' _ _ => injection he with he he'; exact leaf hx hy (alike_of (by omega) ⟨by omega, by omega, fun _ => ⟨he, he'⟩, by omega, by omega⟩)
    | _ => cases he
  | @loc k x hx hk hl hh hr =>
    intro k' m' h
    generalize he : Ex.loc x.x = e' at h
    cases h with
    | loc hy hk' _ _ _ => injection he with he; exact leaf hx hy (alike_of (by omega) ⟨by omega, by omega, by omega, fun _ => he, by omega⟩)
    | _ => cases he
  | @one k x e m hx hk ho hs ih =>
    intro k' m' h
    generalize he : Ex.one x.op e = e' at h
    cases h with
    | one hy hk' _ hs' =>
      injection he with he he'
      subst he'
      obtain ⟨h1, h2⟩ := ih _ _ hs'
      have := hs.le; have := hs'.le
      refine ⟨by omega, fun i hi => ?_⟩
      cases i with
      | zero => exact ⟨_, _, hx, hy, alike_of (by omega) ⟨by omega, by omega, by omega, by omega, fun _ => he⟩⟩
      | succ i =>
        have := h2 i (by omega)
        rwa [show k + (i + 1) = k + 1 + i by omega, show k' + (i + 1) = k' + 1 + i by omega]
    | _ => cases he
  | @two k x e f m j hx hk ho1 ho2 hs1 hs2 ih1 ih2 =>
    intro k' m' h
    generalize he : Ex.two x.op e f = e' at h
    cases h with
    | @two k' y e2 f2 mm _ hy hk' _ _ hs1' hs2' =>
      injection he with he he' he''
      subst he' he''
      obtain ⟨h1, h2⟩ := ih1 _ _ hs1'
      obtain ⟨h3, h4⟩ := ih2 _ _ hs2'
      have := hs1.le; have := hs1'.le; have := hs2.le; have := hs2'.le
      refine ⟨by omega, fun i hi => ?_⟩
      cases i with
      | zero => exact ⟨_, _, hx, hy, alike_of (by omega) ⟨by omega, by omega, by omega, by omega, fun _ => he⟩⟩
      | succ i =>
        by_cases hi' : k + 1 + i < m
        · have := h2 i hi'
          rwa [show k + (i + 1) = k + 1 + i by omega, show k' + (i + 1) = k' + 1 + i by omega]
        · have := h4 (k + 1 + i - m) (by omega)
          rwa [show m + (k + 1 + i - m) = k + (i + 1) by omega, show mm + (k + 1 + i - m) = k' + (i + 1) by omega] at this
    | _ => cases he
theorem same_of {a b : List It} {m n : Nat} {e f : Ex} (ha : Sp a 0 e m) (hb : Sp b 0 f n) (h : ∀ j, j < m → AlikeAt a b j j) : e = f := by
  have := alike_sp ha 0 (fun i hi => by simpa using h i (by omega))
  exact (this.det hb).1
theorem same_not {a b : List It} {m n : Nat} {e : Ex} (ha : Sp a 0 e m) (hb : Sp b 0 e n) : m = n ∧ ∀ j, j < m → AlikeAt a b j j := by
  obtain ⟨h1, h2⟩ := sp_alike ha 0 n hb
  exact ⟨by omega, fun j hj => by simpa using h2 j (by omega)⟩

/-- What Good answers. -/
theorem good_view (l : List It) : (∃ z, goodV (endOf l) = .tuple #[.int .i64 z, .bool false] ∧ ∀ e m, Sp l 0 e m → 12 < e.depth) ∨ ∃ e m, Sp l 0 e m ∧ e.depth ≤ 12 ∧ goodV (endOf l) = .tuple #[.int .i64 (m : Nat), .bool true] := by
  have hsp : ∀ e m, Sp l 0 e m → endOf l = some (m, e.depth) := fun e m h => sp_endF h _ (by omega)
  cases h : endOf l with
  | none =>
    refine .inl ⟨-1, rfl, fun e m hs => ?_⟩
    have := hsp e m hs
    rw [h] at this; cases this
  | some p =>
    obtain ⟨m, d⟩ := p
    obtain ⟨e, hs, rfl⟩ := endF_sp _ _ _ _ h
    by_cases hd : e.depth ≤ 12
    · exact .inr ⟨e, m, hs, hd, by simp [goodV, hd]⟩
    · refine .inl ⟨m, by simp [goodV, hd], fun e' m' hs' => ?_⟩
      obtain ⟨rfl, _⟩ := hs.det hs'
      omega
theorem of_good {l : List It} {e : Ex} {m : Nat} (hs : Sp l 0 e m) (hd : e.depth ≤ 12) (v : Value) (w : World) (hv : Row w v l) :
    Calls Tryz.prog 54 #[v, .int .i64 0, .int .i64 20] w fun e' w' => ∃ p, e' = .returned (.tuple #[.pointer p, .int .i64 (m : Nat)]) ∧ Tree w' (treeOf e) (.pointer p) ∧ Below w.heap.size w w' := by
  refine Calls.mono (show Calls _ _ #[v, .int .i64 0, .int .i64 20] _ _ from of_any l 20 0 v w (by omega) hv) ?_
  rintro e' w' ⟨p, rfl, ht, hb⟩
  rw [hs.made 20 (by omega)] at ht ⊢
  obtain ⟨q, rfl, _⟩ := ht.tree.ptr
  exact ⟨q, rfl, ht.tree, hb⟩
end Go.Proofs.YtpdpofoicdijlaaGreatDoor.Expr
