/- Layer 13 (tview): two values kept in two new boxes ('was, before := v, s'). -/
import Derived.Test.YtanbkclomjbokaaTvwU
import Derived.Test.YtanbkclomjbokaaFlowD
namespace Go.Proofs.Ytanbkclomjbokaa.Tvw
open Go.RowKit Go.Proofs.Ytanbkclomjbokaa.Mem Go.Proofs.Ytanbkclomjbokaa.Flow Go.Proofs.Ytanbkclomjbokaa.Vew

structure PairInv (w : World) (L : List (Nat × TypeId × Array Value)) (V : Nat → Nat → Int) (S : Nat → Int) (d : Nat → Bool) (xs : Nat → Value) (W : World) : Prop where
  bs : Bs w L W
  x0 : d 0 = true → xs 0 = .agg (vsC V)
  x1 : d 1 = true → xs 1 = arr S
  x2 : d 2 = true → ∃ g, xs 2 = .pointer (some ⟨g, 0, none⟩) ∧ w.heap.size ≤ g ∧ (∀ p, p ∈ L → p.1 < g) ∧ Sits W g 29 (if d 4 then vsC V else zero48)
  x3 : d 3 = true → ∃ g, xs 3 = .pointer (some ⟨g, 0, none⟩) ∧ w.heap.size ≤ g ∧ (∀ p, p ∈ L → p.1 < g) ∧ Sits W g 24 (if d 5 then arrC S else zero4)
  c42 : d 4 = true → d 2 = true
  c53 : d 5 = true → d 3 = true
section
variable {w W W' : World} {L : List (Nat × TypeId × Array Value)} {V : Nat → Nat → Int} {S : Nat → Int} {d : Nat → Bool} {xs : Nat → Value}
theorem PairInv.grown (h : PairInv w L V S d xs W) (hb : Below W.heap.size W W') : PairInv w L V S d xs W' :=
  ⟨h.bs.grown hb, h.x0, h.x1, fun e => by obtain ⟨g, a, b, c, s⟩ := h.x2 e; exact ⟨g, a, b, c, s.below hb s.lt⟩, fun e => by obtain ⟨g, a, b, c, s⟩ := h.x3 e; exact ⟨g, a, b, c, s.below hb s.lt⟩, h.c42, h.c53⟩
theorem bool_or_eq {d : Nat → Bool} {k i : Nat} (h : setB1 d i k = true) (hn : k ≠ i) : d k = true := by
  unfold setB1 at h
  rw [show (k == i) = false by simpa using hn, Bool.or_false] at h
  exact h
theorem bool_up {d : Nat → Bool} {k j i : Nat} (h : d k = true → d j = true) (hn : k ≠ i) (e : setB1 d i k = true) : setB1 d i j = true := by
  unfold setB1; rw [h (bool_or_eq e hn)]; rfl
theorem pair_0 (h : PairInv w L V S d xs W) : PairInv w L V S (setB1 d 0) (setX1 xs 0 (.agg (vsC V))) W :=
  ⟨h.bs, fun _ => rfl, fun e => h.x1 (bool_or_eq e (by decide)), fun e => by
    rw [show setB1 d 0 4 = d 4 by simp [setB1]]; exact h.x2 (bool_or_eq e (by decide)), fun e => by
    rw [show setB1 d 0 5 = d 5 by simp [setB1]]; exact h.x3 (bool_or_eq e (by decide)), (bool_up h.c42 (by decide)), (bool_up h.c53 (by decide))⟩
theorem pair_1 (h : PairInv w L V S d xs W) : PairInv w L V S (setB1 d 1) (setX1 xs 1 (arr S)) W :=
  ⟨h.bs, fun e => h.x0 (bool_or_eq e (by decide)), fun _ => rfl, fun e => by
    rw [show setB1 d 1 4 = d 4 by simp [setB1]]; exact h.x2 (bool_or_eq e (by decide)), fun e => by
    rw [show setB1 d 1 5 = d 5 by simp [setB1]]; exact h.x3 (bool_or_eq e (by decide)), (bool_up h.c42 (by decide)), (bool_up h.c53 (by decide))⟩
theorem pair_2 (h : PairInv w L V S d xs W) (h4 : d 4 = false) : PairInv w L V S (setB1 d 2) (setX1 xs 2 (.pointer (some ⟨W.heap.size, 0, none⟩))) (W.alloc (.cells zero48 29)) := by
  have hb : Below W.heap.size W (W.alloc (.cells zero48 29)) := (Below.refl _ _).alloc (Nat.le_refl _) _
  have h' := h.grown hb
  exact ⟨h'.bs, fun e => h.x0 (bool_or_eq e (by decide)), fun e => h.x1 (bool_or_eq e (by decide)), fun _ => ⟨W.heap.size, rfl, h.bs.low.size, fun p hp => (h.bs.sits p hp).lt, by
      rw [show setB1 d 2 4 = d 4 by simp [setB1], h4]; exact Sits.new _ _ _⟩, fun e => by
    rw [show setB1 d 2 5 = d 5 by simp [setB1]]; exact h'.x3 (bool_or_eq e (by decide)), (bool_up h.c42 (by decide)), (bool_up h.c53 (by decide))⟩
theorem pair_3 (h : PairInv w L V S d xs W) (h5 : d 5 = false) : PairInv w L V S (setB1 d 3) (setX1 xs 3 (.pointer (some ⟨W.heap.size, 0, none⟩))) (W.alloc (.cells zero4 24)) := by
  have hb : Below W.heap.size W (W.alloc (.cells zero4 24)) := (Below.refl _ _).alloc (Nat.le_refl _) _
  have h' := h.grown hb
  exact ⟨h'.bs, fun e => h.x0 (bool_or_eq e (by decide)), fun e => h.x1 (bool_or_eq e (by decide)), fun e => by
      rw [show setB1 d 3 4 = d 4 by simp [setB1]]; exact h'.x2 (bool_or_eq e (by decide)), fun _ => ⟨W.heap.size, rfl, h.bs.low.size, fun p hp => (h.bs.sits p hp).lt, by
      rw [show setB1 d 3 5 = d 5 by simp [setB1], h5]; exact Sits.new _ _ _⟩, (bool_up h.c42 (by decide)), (bool_up h.c53 (by decide))⟩
theorem types_off : 29 ≠ 24 := by decide
theorem pair_4 (h : PairInv w L V S d xs W) {g : Nat} (hx : xs 2 = .pointer (some ⟨g, 0, none⟩)) (h2 : d 2 = true) (u : Value) : PairInv w L V S (setB1 d 4) (setX1 xs 4 u) (W.setRow g (vsC V)) := by
  obtain ⟨g', e, hg, hn, hs⟩ := h.x2 h2
  obtain rfl : g' = g := by rw [hx] at e; injection e with e; injection e with e; injection e with e; exact e.symm
  exact ⟨⟨fun p hp => (setRow_other _ _ _ _ (Nat.ne_of_lt (hn p hp))).trans (h.bs.sits p hp), h.bs.low.trans (below_row hg)⟩, fun e => h.x0 (bool_or_eq e (by decide)), fun e => h.x1 (bool_or_eq e (by decide)), fun _ => ⟨g', hx, hg, hn, by
      rw [show setB1 d 4 4 = true by simp [setB1], if_pos rfl]; exact setRow_heap _ _ _ _ _ _ hs⟩, fun e3 => by
    rw [show setB1 d 4 5 = d 5 by simp [setB1]]
    obtain ⟨k, a, b, c, s⟩ := h.x3 (bool_or_eq e3 (by decide))
    exact ⟨k, a, b, c, (setRow_other _ _ _ _ (by rintro rfl; exact types_off (hs.same s).1)).trans s⟩, fun _ => (by unfold setB1; rw [h2]; rfl), (bool_up h.c53 (by decide))⟩
theorem pair_5 (h : PairInv w L V S d xs W) {g : Nat} (hx : xs 3 = .pointer (some ⟨g, 0, none⟩)) (h3 : d 3 = true) (u : Value) : PairInv w L V S (setB1 d 5) (setX1 xs 5 u) (W.setRow g (arrC S)) := by
  obtain ⟨g', e, hg, hn, hs⟩ := h.x3 h3
  obtain rfl : g' = g := by rw [hx] at e; injection e with e; injection e with e; injection e with e; exact e.symm
  exact ⟨⟨fun p hp => (setRow_other _ _ _ _ (Nat.ne_of_lt (hn p hp))).trans (h.bs.sits p hp), h.bs.low.trans (below_row hg)⟩, fun e => h.x0 (bool_or_eq e (by decide)), fun e => h.x1 (bool_or_eq e (by decide)), fun e2 => by
      rw [show setB1 d 5 4 = d 4 by simp [setB1]]
      obtain ⟨k, a, b, c, s⟩ := h.x2 (bool_or_eq e2 (by decide))
      exact ⟨k, a, b, c, (setRow_other _ _ _ _ (by rintro rfl; exact types_off (s.same hs).1)).trans s⟩, fun _ => ⟨g', hx, hg, hn, by
      rw [show setB1 d 5 5 = true by simp [setB1], if_pos rfl]; exact setRow_heap _ _ _ _ _ _ hs⟩, (bool_up h.c42 (by decide)), fun _ => (by unfold setB1; rw [h3]; rfl)⟩
end
theorem yieldsW_of {P : Program} {Y Y' : Value → World → Prop} {r : Result Next} (h : Flow.Yields P Y r) (hm : ∀ v w, Y v w → Y' v w) : YieldsW P Y' r := by
  cases r with
  | ok n w =>
    cases n <;> simp only [Flow.Yields, YieldsW] at h ⊢
    · exact hm _ _ h
    · exact h.mono fun e w' ⟨v, he, hy⟩ => ⟨v, he, hm _ _ hy⟩
  | halt x w => simp only [Flow.Yields] at h
theorem yieldsW_mono {P : Program} {Y Y' : Value → World → Prop} {r : Result Next} (h : YieldsW P Y r) (hm : ∀ v w, Y v w → Y' v w) : YieldsW P Y' r := by
  cases r with
  | ok n w =>
    cases n <;> simp only [YieldsW] at h ⊢
    · exact hm _ _ h
    · exact hm _ _ h
    · exact h.mono fun e w' ⟨v, he, hy⟩ => ⟨v, he, hm _ _ hy⟩
  | halt x w => simp only [YieldsW] at h
theorem pair_start {w w0 : World} {L : List (Nat × TypeId × Array Value)} (h : Bs w L w0) (V : Nat → Nat → Int) (S : Nat → Int) (xs : Nat → Value) : PairInv w L V S (fun _ => false) xs w0.drew :=
  ⟨h.grown (Below.refl _ _).drew, fun e => (by cases e), fun e => (by cases e), fun e => (by cases e), fun e => (by cases e), fun e => (by cases e), fun e => (by cases e)⟩
theorem no_4 {w W : World} {L : List (Nat × TypeId × Array Value)} {V : Nat → Nat → Int} {S : Nat → Int} {d : Nat → Bool} {xs : Nat → Value} (h : PairInv w L V S d xs W) (h2 : d 2 = false) : d 4 = false := by
  cases e : d 4
  · rfl
  · have := h.c42 e; rw [h2] at this; cases this
theorem no_5 {w W : World} {L : List (Nat × TypeId × Array Value)} {V : Nat → Nat → Int} {S : Nat → Int} {d : Nat → Bool} {xs : Nat → Value} (h : PairInv w L V S d xs W) (h3 : d 3 = false) : d 5 = false := by
  cases e : d 5
  · rfl
  · have := h.c53 e; rw [h3] at this; cases this
theorem run_maxI (a b : Int) (P : Program) (ts : Array TypeId) (t : TypeId) (w : World) : (Builtin.max_ ts t #[.int .i64 a, .int .i64 b]).run P w = .ok (.int .i64 (if a < b then b else a)) w := run_max (fun _ => a) (fun _ => b) 0 P ts t w
end Go.Proofs.Ytanbkclomjbokaa.Tvw
