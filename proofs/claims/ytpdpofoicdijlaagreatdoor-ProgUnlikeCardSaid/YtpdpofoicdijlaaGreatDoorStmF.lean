/- Layer 4 (prog): the blocks of a statement; how deep blocks are. -/
import Derived.Test.YtpdpofoicdijlaaGreatDoorStmC
namespace Go.Proofs.YtpdpofoicdijlaaGreatDoor.Prog
open Go.RowKit Go.Proofs.YtpdpofoicdijlaaGreatDoor.Mem Go.Proofs.YtpdpofoicdijlaaGreatDoor.Expr Go.Lib

/-- The blocks that a statement's kind has. -/
def kids {α : Type} (m : Mk) (t e : α) : List α := if m.kind = 8 then [t, e] else if m.kind = 9 then [t] else []
def Kids (w : World) (v : Value) (l : List Value) : Prop := (l = [] ∧ v = .slice none 0 0) ∨ ∃ g, v = .slice (some ⟨g, 0, none⟩) l.length l.length ∧ Sits w g 60 l.toArray
theorem Kids.len {w : World} {v : Value} {l : List Value} (h : Kids w v l) : ∃ p, v = .slice p l.length l.length := by
  rcases h with ⟨rfl, hv⟩ | ⟨g, hv, _⟩
  · exact ⟨none, hv⟩
  · exact ⟨_, hv⟩
theorem Kids.at {w : World} {v : Value} {l : List Value} (h : Kids w v l) {k : Nat} {u : Value} (hk : l[k]? = some u) : ∃ g, v = .slice (some ⟨g, 0, none⟩) l.length l.length ∧ w.cell? ⟨g, k, none⟩ = some u ∧ Sits w g 60 l.toArray := by
  rcases h with ⟨rfl, _⟩ | ⟨g, hv, hs⟩
  · simp at hk
  · exact ⟨g, hv, by rw [hs.cell]; simpa using hk, hs⟩
theorem Kids.below {w w' : World} {v : Value} {l : List Value} (h : Kids w v l) (hb : Below w.heap.size w w') : Kids w' v l := by
  rcases h with h | ⟨g, hv, hs⟩
  · exact .inl h
  · exact .inr ⟨g, hv, hs.below hb hs.lt⟩
set_option maxRecDepth 100000 in
theorem row_any (v : Value) (p : Option Addr) (n c : Nat) (hv : v = .slice p n c) (w : World) : Calls Tryz.prog 137 #[v] w fun e w' => e = .returned v ∧ w = w' := by
  subst hv
  go_enter Tryz.func137, Tryz.ntmps137
  go_wp2_with fail
  go_ret
  exact ⟨rfl, rfl⟩
set_option maxRecDepth 100000 in
theorem blocks_any (m : Mk) (av bv : Value) (pa pb : Option Addr) (ha : av = .pointer pa) (hb : bv = .pointer pb) (pt pe : Option Addr) (nt ct ne ce : Nat) (w : World) :
    Calls Tryz.prog 100 #[stAgg m av bv (.slice pt nt ct) (.slice pe ne ce)] w fun e w' => ∃ v, e = .returned v ∧ Kids w' v (kids m (.slice pt nt ct) (.slice pe ne ce)) ∧ Below w.heap.size w w' := by
  subst ha hb
  obtain ⟨k, r, mo, x, a, b⟩ := m
  unfold stAgg
  simp only
  by_cases h8 : k = 8
  · subst h8
    have hk : kids ⟨8, r, mo, x, a, b⟩ (Value.slice pt nt ct) (.slice pe ne ce) = [.slice pt nt ct, .slice pe ne ce] := rfl
    have HK := Lib.hid hk; clear hk
    go_enter Tryz.func100, Tryz.ntmps100
    go_wp2_with fail
    refine (row_any _ _ _ _ rfl _).mono ?_
    rintro e w1 ⟨rfl, rfl⟩
    go_wp2_with fail
    go_ret
    refine ⟨_, rfl, ?_, ((Below.refl _ _).alloc (Nat.le_refl _) _).alloc (by simp) _⟩
    rw [HK.out]
    exact .inr ⟨_, rfl, Sits.made (by simp) _ _⟩
  · by_cases h9 : k = 9
    · subst h9
      have hk : kids ⟨9, r, mo, x, a, b⟩ (Value.slice pt nt ct) (.slice pe ne ce) = [.slice pt nt ct] := rfl
      have HK := Lib.hid hk; clear hk
      go_enter Tryz.func100, Tryz.ntmps100
      go_wp2_with fail
      refine (row_any _ _ _ _ rfl _).mono ?_
      rintro e w1 ⟨rfl, rfl⟩
      go_wp2_with fail
      go_ret
      refine ⟨_, rfl, ?_, ((Below.refl _ _).alloc (Nat.le_refl _) _).alloc (by simp) _⟩
      rw [HK.out]
      exact .inr ⟨_, rfl, Sits.made (by simp) _ _⟩
    · have hk : kids ⟨k, r, mo, x, a, b⟩ (Value.slice pt nt ct) (.slice pe ne ce) = [] := by unfold kids; rw [if_neg h8, if_neg h9]
      have HK := Lib.hid hk; clear hk
      have e8 : ((k : Int) == 8) = false := beq_eq_false_iff_ne.2 (by omega)
      have e9 : ((k : Int) == 9) = false := beq_eq_false_iff_ne.2 (by omega)
      clear h8 h9
      go_enter Tryz.func100, Tryz.ntmps100
      go_wp2_with fail
      go_ret
      refine ⟨_, rfl, ?_, (Below.refl _ _).alloc (Nat.le_refl _) _⟩
      rw [HK.out]
      exact .inl ⟨rfl, rfl⟩

theorem StAt.low {w w' : World} {g o : Nat} {m : Mk} {av bv tv ev : Value} (h : StAt w g o m av bv tv ev) (hb : Below w.heap.size w w') : StAt w' g o m av bv tv ev := by
  obtain ⟨h0, h1, h2, h3, h4, h5, h6, h7⟩ := h
  have k := cell_below (U := any_) hb g trivial
  exact ⟨k _ _ h0, k _ _ h1, k _ _ h2, k _ _ h3, k _ _ h4, k _ _ h5, k _ _ h6, k _ _ h7⟩

/-! ### How deep -/
def kd (l : List Blk) : Nat := l.foldr (fun b m => max (b.deep + 1) m) 1
theorem kd_take (l : List Blk) (k : Nat) (b : Blk) (h : l[k]? = some b) : kd (l.take (k + 1)) = max (kd (l.take k)) (b.deep + 1) := by
  induction l generalizing k with
  | nil => simp at h
  | cons x l ih =>
    cases k with
    | zero => simp at h; subst h; simp [kd, Nat.max_comm]
    | succ k =>
      have := ih k (by simpa using h)
      simp only [List.take_succ_cons, kd, List.foldr_cons] at this ⊢
      rw [this]; omega
theorem deep_cons (m : Mk) (t e r : Blk) : (Blk.cons m t e r).deep = max (kd (kids m t e)) r.deep := by
  simp only [Blk.deep, kids]
  split
  · simp [kd]
  · split
    · simp [kd]
    · simp [kd]
theorem kd_pos (l : List Blk) : 1 ≤ kd l := by
  induction l with
  | nil => exact Nat.le_refl _
  | cons x l ih => simp only [kd, List.foldr_cons] at ih ⊢; omega
theorem deep_snoc (q : Blk) (m : Mk) (t e : Blk) : (q.snoc m t e).deep = max q.deep (kd (kids m t e)) := by
  have hp := kd_pos (kids m t e)
  induction q with
  | nil => simp only [Blk.snoc, deep_cons]; simp only [Blk.deep]; omega
  | cons m' t' e' r' _ _ ih => simp only [Blk.snoc, deep_cons, ih]; omega
theorem deep_app (q r : Blk) : (q.app r).deep = max q.deep r.deep := by
  induction q with
  | nil => simp only [Blk.app]; have := r.deep_pos; simp only [Blk.deep]; omega
  | cons m t e q _ _ ih => simp only [Blk.app, deep_cons, ih]; omega
theorem kd_le (l : List Blk) (k : Nat) : kd (l.take k) ≤ kd l := by
  induction l generalizing k with
  | nil => simp
  | cons x l ih =>
    cases k with
    | zero => simp only [List.take_zero, kd, List.foldr_nil, List.foldr_cons]; have := ih 0; simp only [List.take_zero, kd, List.foldr_nil] at this; omega
    | succ k => have := ih k; simp only [List.take_succ_cons, kd, List.foldr_cons] at this ⊢; omega
theorem kids_map (m : Mk) (t e : Blk) (k : Nat) (c : Blk) (h : (kids m t e)[k]? = some c) : c = t ∨ c = e := by
  unfold kids at h
  split at h
  · rcases k with _ | _ | k
    · simp at h; exact .inl h.symm
    · simp at h; exact .inr h.symm
    · simp at h
  · split at h
    · rcases k with _ | k
      · simp at h; exact .inl h.symm
      · simp at h
    · simp at h
theorem kids_len {α β : Type} (m : Mk) (t e : α) (t' e' : β) : (kids m t e).length = (kids m t' e').length ∧ (kids m t e).length ≤ 2 := by
  unfold kids
  split
  · simp
  · split <;> simp
/-- The values of a statement's blocks stand for its blocks. -/
theorem kids_stand {U : Nat → Prop} {w : World} (m : Mk) {t e : Blk} {tv ev : Value} (ht : Stand U w t tv) (he : Stand U w e ev) {k : Nat} {c : Blk} {u : Value} (hc : (kids m t e)[k]? = some c) (hu : (kids m tv ev)[k]? = some u) : Stand U w c u := by
  unfold kids at hc hu
  split at hc
  · rename_i h
    rw [if_pos h] at hu
    rcases k with _ | _ | k
    · simp at hc hu; subst hc hu; exact ht
    · simp at hc hu; subst hc hu; exact he
    · simp at hc
  · rename_i h
    rw [if_neg h] at hu
    split at hc
    · rename_i h2
      rw [if_pos h2] at hu
      rcases k with _ | k
      · simp at hc hu; subst hc hu; exact ht
      · simp at hc
    · simp at hc
end Go.Proofs.YtpdpofoicdijlaaGreatDoor.Prog
