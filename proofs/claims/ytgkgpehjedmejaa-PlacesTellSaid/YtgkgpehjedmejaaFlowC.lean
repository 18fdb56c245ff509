/- A drawn region with two operations that make memory one behind the other (two appends, say), beside operations that only tell. -/
import Derived.Test.YtgkgpehjedmejaaFlowB
namespace Go.Proofs.Ytgkgpehjedmejaa.Flow
open Go.RowKit Go.Proofs.Ytgkgpehjedmejaa.Mem

theorem setB_ne {d : Nat → Bool} {i j : Nat} (h : j ≠ i) : setB d i j = d j := by simp [setB, h]
theorem setB_self {d : Nat → Bool} {i : Nat} : setB d i i = true := by simp [setB]
def Kp (B : Nat) (W W' : World) : Prop := Below B W W'
/-- Operation a makes a value with Ja, operation b, behind it, one with Jb; both leave what was below B; all others leave the world as it is. -/
theorem wp_flowT {P : Program} {Q : Exit → Act → World → Prop} {id : Nat} {l : List Oper} (ds : List Nat) (vl : List (Value → World → Prop)) (a b : Nat) (Ja Jb : Value → World → Prop) {a0 : Act} {w : World} (ha : a < ds.length) (hb : b < ds.length) (hab : a ≠ b)
    (hm : P.follows .mixedOrders = true) (hB : okG l.toArray ds.length = true)
    (hd : ((List.range ds.length).all fun i => dstOf l.toArray i == ds.getD i 0) = true) (hnd : ((List.range ds.length).all fun i => (List.range ds.length).all fun j => decide (j = i) || ds.getD j 0 != ds.getD i 0) = true) (hsz : (ds.all fun d => decide (d < a0.tmps.size)) = true)
    (mono : ∀ p ∈ vl, MonoR (Kp w.heap.size) p)
    (hdep : (match l[b]? with | some o => o.after.any fun e => e.on == a && Region.binds .any e | none => false) = true)
    (step : ∀ i o, i < ds.length → i ≠ a → i ≠ b → l[i]? = some o → ∀ (A : Act) (W : World), Below w.heap.size w W → (∀ k, (ds.all fun d => d != k) = true → A.tmps[k]?.getD undef = a0.tmps[k]?.getD undef) →
      (∀ j, j < ds.length → j ≠ a → j ≠ b → (o.after.any fun e => e.on == j && Region.binds .any e) = true → pick vl j (A.tmps[ds.getD j 0]?.getD undef) W) →
      Region.wanted o (yielded l.toArray A.tmps) = true ∧ ∃ u, (execOp A.eval o).run P W = .ok (.value u) W ∧ pick vl i u W)
    (stepA : ∀ o, l[a]? = some o → ∀ (A : Act) (W : World), Below w.heap.size w W → (∀ k, (ds.all fun d => d != k) = true → A.tmps[k]?.getD undef = a0.tmps[k]?.getD undef) →
      (∀ j, j < ds.length → j ≠ a → j ≠ b → (o.after.any fun e => e.on == j && Region.binds .any e) = true → pick vl j (A.tmps[ds.getD j 0]?.getD undef) W) →
      Region.wanted o (yielded l.toArray A.tmps) = true ∧ ∃ u W', (execOp A.eval o).run P W = .ok (.value u) W' ∧ Ja u W' ∧ Below w.heap.size W W')
    (stepB : ∀ o, l[b]? = some o → ∀ (A : Act) (W : World), Below w.heap.size w W → (∀ k, (ds.all fun d => d != k) = true → A.tmps[k]?.getD undef = a0.tmps[k]?.getD undef) →
      (∀ j, j < ds.length → j ≠ a → j ≠ b → (o.after.any fun e => e.on == j && Region.binds .any e) = true → pick vl j (A.tmps[ds.getD j 0]?.getD undef) W) → Ja (A.tmps[ds.getD a 0]?.getD undef) W →
      Region.wanted o (yielded l.toArray A.tmps) = true ∧ ∃ u W', (execOp A.eval o).run P W = .ok (.value u) W' ∧ Jb u W' ∧ Below w.heap.size W W')
    (tail : ∀ (xs : Nat → Value) (W : World), Below w.heap.size w W → (∀ i, i < ds.length → i ≠ a → i ≠ b → pick vl i (xs i) W) → Jb (xs b) W → wpList P l.toArray Q (l.drop ds.length) (putL ds xs 0 a0) W) :
    (Code.region id l.toArray true).wp P Q a0 w := by
  refine wp_flowS (w := w) ds (fun d xs W => (∀ i, i < ds.length → i ≠ a → i ≠ b → d i = true → pick vl i (xs i) W) ∧ (d b = true → d a = true) ∧ (d a = true → d b = false → Ja (xs a) W) ∧ (d b = true → Jb (xs b) W) ∧ Below w.heap.size w W) (fun _ _ => False) ?_ hm hB hd hnd hsz ?_ ?_ (fun _ _ _ _ h => h.elim) ?_
  · intro d d' xs xs' W h1 h2 ⟨h3, h4, h5, h6, h7⟩
    refine ⟨fun i hi hia hib hd => ?_, fun h => ?_, fun h h' => ?_, fun h => ?_, h7⟩
    · rw [← h2 i hi]; exact h3 i hi hia hib (by rw [h1 i hi]; exact hd)
    · rw [← h1 a ha]; exact h4 (by rw [h1 b hb]; exact h)
    · rw [← h2 a ha]; exact h5 (by rw [h1 a ha]; exact h) (by rw [h1 b hb]; exact h')
    · rw [← h2 b hb]; exact h6 (by rw [h1 b hb]; exact h)
  · intro xs
    exact ⟨fun _ _ _ _ h => (by cases h), fun h => (by cases h), fun h => (by cases h), fun h => (by cases h), (Below.refl _ w).drew⟩
  · intro i o hi ho d A W hv hdi hk he
    obtain ⟨h1, h2, h3, h4, h5⟩ := hv
    have hdeps : ∀ j, j < ds.length → j ≠ a → j ≠ b → (o.after.any fun e => e.on == j && Region.binds .any e) = true → pick vl j (A.tmps[ds.getD j 0]?.getD undef) W := fun j hj hja hjb hb' => h1 j hj hja hjb (he j hb')
    left
    by_cases hia : i = a
    · subst hia
      obtain ⟨hw, u, W', hr, hJ, hbl⟩ := stepA o ho A W h5 hk hdeps
      have hdb : d b = false := by
        cases hdb : d b
        · rfl
        · have := h2 hdb; rw [hdi] at this; cases this
      refine ⟨hw, ?_⟩
      rw [hr]
      refine ⟨fun j hj hja hjb hdj => ?_, fun h => ?_, fun _ _ => ?_, fun h => ?_, h5.trans hbl⟩
      · rw [setB_ne hja] at hdj
        simp only [setX, if_neg hja]
        exact pick_monoR mono j _ _ _ (h1 j hj hja hjb hdj) hbl
      · rw [setB_ne (Ne.symm hab), hdb] at h; cases h
      · simp only [setX, if_true]; exact hJ
      · rw [setB_ne (Ne.symm hab), hdb] at h; cases h
    · by_cases hib : i = b
      · subst hib
        have hda : d a = true := he a (by rw [ho] at hdep; exact hdep)
        obtain ⟨hw, u, W', hr, hJ, hbl⟩ := stepB o ho A W h5 hk hdeps (h3 hda hdi)
        refine ⟨hw, ?_⟩
        rw [hr]
        refine ⟨fun j hj hja hjb hdj => ?_, fun _ => ?_, fun _ h => ?_, fun _ => ?_, h5.trans hbl⟩
        · rw [setB_ne hjb] at hdj
          simp only [setX, if_neg hjb]
          exact pick_monoR mono j _ _ _ (h1 j hj hja hjb hdj) hbl
        · rw [setB_ne hab]; exact hda
        · rw [setB_self] at h; cases h
        · simp only [setX, if_true]; exact hJ
      · obtain ⟨hw, u, hr, hu⟩ := step i o hi hia hib ho A W h5 hk hdeps
        refine ⟨hw, ?_⟩
        rw [hr]
        refine ⟨fun j hj hja hjb hdj => ?_, fun h => ?_, fun h h' => ?_, fun h => ?_, h5⟩
        · by_cases hji : j = i
          · subst hji; simp only [setX, if_true]; exact hu
          · rw [setB_ne hji] at hdj
            simp only [setX, if_neg hji]
            exact h1 j hj hja hjb hdj
        · rw [setB_ne (Ne.symm hib)] at h
          rw [setB_ne (Ne.symm hia)]; exact h2 h
        · rw [setB_ne (Ne.symm hia)] at h
          rw [setB_ne (Ne.symm hib)] at h'
          simp only [setX, if_neg (Ne.symm hia)]; exact h3 h h'
        · rw [setB_ne (Ne.symm hib)] at h
          simp only [setX, if_neg (Ne.symm hib)]; exact h4 h
  · intro xs W ⟨h1, _, _, h4, h5⟩
    exact tail xs W h5 (fun i hi hia hib => h1 i hi hia hib rfl) (h4 rfl)
end Go.Proofs.Ytgkgpehjedmejaa.Flow
