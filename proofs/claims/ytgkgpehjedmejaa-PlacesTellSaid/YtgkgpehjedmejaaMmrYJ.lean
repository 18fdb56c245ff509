/- Layer 11 (memory): the law's Same: a memory beside the document's. -/
import Derived.Test.YtgkgpehjedmejaaMmrYC
import Derived.Test.YtgkgpehjedmejaaMmrYE
namespace Go.Proofs.Ytgkgpehjedmejaa.Mmr
open Go.RowKit Go.Proofs.Ytgkgpehjedmejaa.Mem Go.Proofs.Ytgkgpehjedmejaa.Flow

theorem zeroX_it : itCells zeroX = zeroIt := by simp only [itCells, zeroX, fw_0]; rfl
theorem zeroX_may : MayX zeroX := by decide
theorem len_split : ∀ (l : List It), (∀ y ∈ l, 0 ≤ y.loc ∧ y.loc < 4) → l.length = (atL l 0).length + (atL l 1).length + (atL l 2).length + (atL l 3).length
  | [], _ => rfl
  | x :: l, h => by
    have ih := len_split l fun y hy => h y (List.mem_cons_of_mem _ hy)
    have hx := h x List.mem_cons_self
    obtain e | e | e | e : x.loc = 0 ∨ x.loc = 1 ∨ x.loc = 2 ∨ x.loc = 3 := by omega
    all_goals
      simp only [atL, List.filter_cons, List.length_cons, e] at ih ⊢
      simp at ih ⊢
      omega
theorem Rep.len {m : Mm} {w : Dm} (h : Rep m w) : w.l.length ≤ 160 := by
  have h4 := h.ok.most
  rw [len_split w.l fun y hy => by have := h.loc y hy; omega]
  have one : ∀ i : Nat, (atL w.l (i : Nat)).length ≤ 40 := fun i => by
    by_cases hi : i < m.n
    · rw [← (h.same i hi).length_eq]; exact h.ok.few i
    · rw [h.out (by rw [← Bool.not_eq_true, has_iff]; omega)]; simp
  have e0 : (atL w.l 0).length ≤ 40 := one 0
  have e1 : (atL w.l 1).length ≤ 40 := one 1
  have e2 : (atL w.l 2).length ≤ 40 := one 2
  have e3 : (atL w.l 3).length ≤ 40 := one 3
  omega
theorem last_may {m : Mm} (hO : OkM m) (loc : Int) : MayX ((lastF m loc fun _ => true).getD zeroX) := by
  cases h : lastF m loc fun _ => true with
  | none => exact zeroX_may
  | some x =>
    show MayX x
    unfold lastF at h
    split at h
    · have := List.mem_of_find?_eq_some h
      rw [List.mem_reverse] at this
      exact hO.may _ _ this
    · cases h
theorem owned_mem {m : Mm} (hO : OkM m) {owner : Int} {x : It} (h : x ∈ ownedF m owner) : MayX x := by
  unfold ownedF at h
  obtain ⟨i, _, hx⟩ := List.mem_flatMap.1 (List.mem_filter.1 h).1
  exact hO.may _ _ hx
def rtsW (l : List It) : Value → World → Prop := fun u W => ∃ r d, Rts W r l ∧ u = .slice r l.length d
theorem rtsW_mono (l : List It) : Mono (rtsW l) := fun _ _ _ ⟨p, c, h, e⟩ hb => ⟨p, c, h.below hb, e⟩
theorem itm_any {x : It} (h : MayX x) (W : World) : Calls Try.prog 15 #[rtV x] W (Made (.returned (itV x)) W) := by
  have := item_any x (may_rng h) W
  rwa [law_may h] at this
structure DSm (w : World) (p : Nat → Option Addr) (c : Nat → Nat) (m : Mm) (q : Option Addr) (d : Nat) (dm : Dm) (W : World) : Prop where
  at2 : Sits W w.heap.size 28 (memCells p c m)
  at3 : Sits W (w.heap.size + 1) 30 (dmCells q d dm)
  hold : Hold W p c m
  holdD : HoldD W q d dm
  low : Below w.heap.size w W
theorem DSm.grown {w W W' : World} {p : Nat → Option Addr} {c : Nat → Nat} {m : Mm} {q : Option Addr} {d : Nat} {dm : Dm} (h : DSm w p c m q d dm W) (hb : Below W.heap.size W W') : DSm w p c m q d dm W' :=
  ⟨h.at2.below hb h.at2.lt, h.at3.below hb h.at3.lt, h.hold.below hb, h.holdD.below hb, h.low.trans (hb.mono h.low.size)⟩
end Go.Proofs.Ytgkgpehjedmejaa.Mmr
