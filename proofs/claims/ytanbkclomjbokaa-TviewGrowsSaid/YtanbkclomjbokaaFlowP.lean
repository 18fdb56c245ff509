/- As XFlowM: what memory is may speak of one slot's value (a box that the region itself makes), and whatever blocks may be written. -/
import Derived.Test.YtanbkclomjbokaaFlowM
namespace Go.Proofs.Ytanbkclomjbokaa.Flow
open Go.RowKit Go.Proofs.Ytanbkclomjbokaa.Mem

/-- What a slot holds behind one operation. -/
def after1 (pp : Nat) (o : Oper) (A : Act) (u : Value) : Value := if o.dst = some pp then u else A.tmps[pp]?.getD undef
def MonoX (X : Nat → Prop) (p : Value → World → Prop) : Prop := ∀ u w w', p u w → Keeps X w w' → p u w'
theorem eqV_monoX (X : Nat → Prop) (x : Value) : MonoX X (eqV x) := fun _ _ _ h _ => h
theorem true_monoX (X : Nat → Prop) : MonoX X (fun _ _ => True) := fun _ _ _ _ _ => trivial
theorem pick_monoX {X : Nat → Prop} {vl : List (Value → World → Prop)} (h : ∀ p ∈ vl, MonoX X p) (i : Nat) (u : Value) (w w' : World) (hp : pick vl i u w) (hb : Keeps X w w') : pick vl i u w' := by
  unfold pick at hp ⊢
  rw [List.getD_eq_getElem?_getD] at hp ⊢
  cases hi : vl[i]? with
  | none => simp
  | some p => rw [hi] at hp; exact h p (List.mem_of_getElem? hi) u w w' hp hb
section
variable {P : Program} {ops : Array Oper} {ds : List (Option Nat)} {ws lims : List Nat} {vl : List (Value → World → Prop)} {M : Nat → Value → World → Prop} {X : Nat → Prop} {pp : Nat} {a0 : Act} {B : Nat} {Q : Exit → Act → World → Prop}
/-- A state on the way. -/
structure GoingP (ops : Array Oper) (ds : List (Option Nat)) (ws : List Nat) (vl : List (Value → World → Prop)) (M : Nat → Value → World → Prop) (a0 : Act) (B pp : Nat) (done : Nat → Bool) (j : Nat) (A : Act) (w : World) : Prop where
  size : A.tmps.size = a0.tmps.size
  defers : A.defers = a0.defers
  low : B ≤ w.heap.size
  mem : M j (A.eval (.tmp pp)) w
  other : ∀ k, (∀ i, i < ops.size → slotAt ds i ≠ some k) → A.eval (.tmp k) = a0.eval (.tmp k)
  has : ∀ i d, i < ops.size → done i = true → slotAt ds i = some d → pick vl i (A.eval (.tmp d)) w
  stage : ∀ m, m < ws.length → (done (ws.getD m 0) = true ↔ m < j)
  most : j ≤ ws.length
/-- One more has come up. -/
theorem GoingP.next {done : Nat → Bool} {j j' : Nat} {A : Act} {w w' : World} {i : Nat} {v : Value} (h : GoingP ops ds ws vl M a0 B pp done j A w) (mono : ∀ p ∈ vl, MonoX X p)
    (hap : ∀ a b, a < ops.size → b < ops.size → b ≠ a → slotAt ds a ≠ none → slotAt ds b ≠ slotAt ds a) (hsz : ∀ a d, a < ops.size → slotAt ds a = some d → d < a0.tmps.size)
    (hi : i < ops.size) (hk : Keeps X w w') (hv : pick vl i v w') (hm : M j' ((A.put (slotAt ds i) v).eval (.tmp pp)) w')
    (hst : ∀ m, m < ws.length → ((done (ws.getD m 0) || ws.getD m 0 == i) = true ↔ m < j')) (hj : j' ≤ ws.length) :
    GoingP ops ds ws vl M a0 B pp (fun k => done k || k == i) j' (A.put (slotAt ds i) v) w' := by
  refine ⟨by rw [put_size]; exact h.size, by rw [put_defers]; exact h.defers, Nat.le_trans h.low hk.size, hm, fun k hkk => ?_, fun a d ha hd hs => ?_, hst, hj⟩
  · rw [eval_putO _ _ _ _ (hkk i hi)]; exact h.other k hkk
  · by_cases e : a = i
    · subst e
      rw [hs, eval_put_same _ _ _ (by rw [h.size]; exact hsz a d ha hs)]
      exact hv
    · have hda : done a = true := by simpa [e] using hd
      rw [eval_putO _ _ _ _ (fun e2 => hap a i ha hi (fun e3 => e e3.symm) (by rw [hs]; exact fun h => by cases h) (by rw [e2, hs]))]
      exact pick_monoX mono _ _ _ _ (h.has a d ha hda hs) hk
/-- All have come up. -/
theorem GoingP.all {done : Nat → Bool} {j : Nat} {A : Act} {w : World} (h : GoingP ops ds ws vl M a0 B pp done j A w) (hdl : ds.length = ops.size) (hall : ∀ i, i < ops.size → done i = true)
    (hap : ∀ a b, a < ops.size → b < ops.size → b ≠ a → slotAt ds a ≠ none → slotAt ds b ≠ slotAt ds a) (hsz : ∀ a d, a < ops.size → slotAt ds a = some d → d < a0.tmps.size) (hws : ∀ m, m < ws.length → ws.getD m 0 < ops.size) :
    j = ws.length ∧ A = putM ds (fun i => match slotAt ds i with | some d => A.eval (.tmp d) | none => undef) 0 a0 := by
  refine ⟨?_, ?_⟩
  · rcases Nat.lt_or_ge j ws.length with hj | hj
    · have := (h.stage j hj).1 (hall _ (hws j hj)); omega
    · have := h.most; omega
  · have key : ∀ (xs : Nat → Value) (l : List (Option Nat)) (k : Nat) (a : Act), a.tmps.size = a0.tmps.size → k + l.length = ops.size → (∀ i, k ≤ i → i < ops.size → l.getD (i - k) none = slotAt ds i) →
        (putM l xs k a).tmps.size = a.tmps.size ∧ (putM l xs k a).defers = a.defers ∧ (∀ d, (∀ i, k ≤ i → i < ops.size → slotAt ds i ≠ some d) → (putM l xs k a).eval (.tmp d) = a.eval (.tmp d)) ∧
          (∀ i d, k ≤ i → i < ops.size → slotAt ds i = some d → (putM l xs k a).eval (.tmp d) = xs i) := by
      intro xs l
      induction l with
      | nil => intro k a _ hk _; exact ⟨rfl, rfl, fun _ _ => rfl, fun i d h1 h2 => absurd h2 (by simp at hk; omega)⟩
      | cons d0 l ih =>
        intro k a hs hk hl
        have e0 : slotAt ds k = d0 := by have := hl k (Nat.le_refl _) (by simp at hk; omega); simpa using this.symm
        obtain ⟨i1, i2, i3, i4⟩ := ih (k + 1) (a.put d0 (xs k)) (by rw [put_size]; exact hs) (by simp at hk; omega) (fun i h1 h2 => by
          have := hl i (by omega) h2
          rwa [show i - k = (i - (k + 1)) + 1 by omega, List.getD_cons_succ] at this)
        have hkl : k < ops.size := by simp at hk; omega
        refine ⟨by rw [putM, i1, put_size], by rw [putM, i2, put_defers], fun d hd => ?_, fun i d h1 h2 h3 => ?_⟩
        · rw [putM, i3 d (fun i h1 h2 => hd i (by omega) h2), eval_putO _ _ _ _ (by rw [← e0]; exact hd k (Nat.le_refl _) hkl)]
        · by_cases e : i = k
          · subst e
            rw [putM, i3 d (fun i' h1' h2' e' => by
              have := hap i i' hkl h2' (by omega) (by rw [h3]; exact fun h => by cases h)
              rw [e', h3] at this
              exact this rfl), ← e0, h3, eval_put_same _ _ _ (by rw [hs]; exact hsz i d hkl h3)]
          · rw [putM]; exact i4 i d (by omega) h2 h3
    obtain ⟨k1, k2, k3, k4⟩ := key (fun i => match slotAt ds i with | some d => A.eval (.tmp d) | none => undef) ds 0 a0 rfl (by rw [hdl]; omega) (fun i _ _ => by rw [Nat.sub_zero]; rfl)
    refine act_ext (by rw [k1, h.size]) (by rw [k2, h.defers]) fun k => ?_
    by_cases hk : ∃ i, i < ops.size ∧ slotAt ds i = some k
    · obtain ⟨i, hi, hs⟩ := hk
      rw [k4 i k (Nat.zero_le _) hi hs]
      simp only [hs]
    · rw [k3 k (fun i _ hi hs => hk ⟨i, hi, hs⟩)]
      exact h.other k (fun i hi hs => hk ⟨i, hi, hs⟩)

end
/-- What is asked of an operation that does not write, and of one that does. -/
def StepP (P : Program) (ops : Array Oper) (ds : List (Option Nat)) (ws lims : List Nat) (vl : List (Value → World → Prop)) (M : Nat → Value → World → Prop) (a0 : Act) (B pp : Nat) (At : Nat → Nat → Prop) (Has : Oper → Nat → Nat → Prop) : Prop :=
  ∀ i o, i < ops.size → ops[i]? = some o → ws.contains i = false → ∀ (j : Nat) (A : Act) (W : World), At j (lims.getD i 0) → B ≤ W.heap.size → M j (A.eval (.tmp pp)) W →
    (∀ k, (∀ i, i < ops.size → slotAt ds i ≠ some k) → A.eval (.tmp k) = a0.eval (.tmp k)) → (∀ k d, Has o k i → slotAt ds k = some d → pick vl k (A.eval (.tmp d)) W) →
    (Region.wanted o (yielded ops A.tmps) = true ∧ Yields P (fun u W' => pick vl i u W' ∧ Below W.heap.size W W') ((execOp A.eval o).run P W)) ∨ (Region.wanted o (yielded ops A.tmps) = false ∧ pick vl i undef W)
def StepWP (P : Program) (ops : Array Oper) (ds : List (Option Nat)) (ws : List Nat) (vl : List (Value → World → Prop)) (M : Nat → Value → World → Prop) (a0 : Act) (B pp : Nat) (X : Nat → Prop) (Has : Oper → Nat → Nat → Prop) : Prop :=
  ∀ j i o, ws[j]? = some i → ops[i]? = some o → ∀ (A : Act) (W : World), B ≤ W.heap.size → M j (A.eval (.tmp pp)) W →
    (∀ k, (∀ i, i < ops.size → slotAt ds i ≠ some k) → A.eval (.tmp k) = a0.eval (.tmp k)) → (∀ k d, Has o k i → slotAt ds k = some d → pick vl k (A.eval (.tmp d)) W) →
    (Region.wanted o (yielded ops A.tmps) = true ∧ YieldsW P (fun u W' => pick vl i u W' ∧ Keeps X W W' ∧ M (j + 1) (after1 pp o A u) W') ((execOp A.eval o).run P W)) ∨ (Region.wanted o (yielded ops A.tmps) = false ∧ pick vl i undef W ∧ M (j + 1) (after1 pp o A undef) W)
section
variable {P : Program} {ops : Array Oper} {ds : List (Option Nat)} {ws lims : List Nat} {vl : List (Value → World → Prop)} {M : Nat → Value → World → Prop} {X : Nat → Prop} {pp : Nat} {a0 : Act} {B : Nat} {Q : Exit → Act → World → Prop}
theorem any_of_flowP (hpp : ∀ i, i < ops.size → ws.contains i = false → slotAt ds i ≠ some pp) (hB : OkM ops ds ws lims) (hws : ∀ m, m < ws.length → ws.getD m 0 < ops.size) (hsz : ∀ a d, a < ops.size → slotAt ds a = some d → d < a0.tmps.size) (mono : ∀ p ∈ vl, MonoX X p) (hM : ∀ j u W W', M j u W → Below W.heap.size W W' → M j u W')
    (step : StepP P ops ds ws lims vl M a0 B pp (fun j m => j ≤ m) (fun o k _ => (o.after.any fun e => e.on == k && Region.binds .any e) = true))
    (stepW : StepWP P ops ds ws vl M a0 B pp X (fun o k _ => (o.after.any fun e => e.on == k && Region.binds .any e) = true))
    (tail : ∀ (xs : Nat → Value) (W : World), B ≤ W.heap.size → M ws.length ((putM ds xs 0 a0).eval (.tmp pp)) W → (∀ i d, i < ops.size → slotAt ds i = some d → pick vl i (xs i) W) → Q .normal (putM ds xs 0 a0) W) :
    ∀ (f j : Nat) (listed : Array Bool) (A : Act) (w : World), listed.size = ops.size → (∀ i o, ops[i]? = some o → listed.getD i false = true → ∀ e ∈ o.after, Region.binds .any e = true → listed.getD e.on false = true) →
      GoingP ops ds ws vl M a0 B pp (fun i => listed.getD i false) j A w → (List.range ops.size).countP (fun j => !listed.getD j true) = f → wpAny P .any ops Q f listed A w := by
  have fin : ∀ (j : Nat) (listed : Array Bool) (A : Act) (w : World), GoingP ops ds ws vl M a0 B pp (fun i => listed.getD i false) j A w → (∀ i, i < ops.size → listed.getD i false = true) → Q .normal A w := by
    intro j listed A w hg hall
    obtain ⟨rfl, e⟩ := hg.all hB.len hall hB.apart hsz hws
    have ht := tail (fun i => match slotAt ds i with | some d => A.eval (.tmp d) | none => undef) w hg.low (by rw [← e]; exact hg.mem) (fun i d hi hs => by simp only [hs]; exact hg.has i d hi (hall i hi) hs)
    rwa [← e] at ht
  intro f
  induction f with
  | zero =>
    intro j listed A w hls _ hg hcount
    have all : ∀ i, i < ops.size → listed.getD i false = true := fun i hi => by
      have := List.countP_eq_zero.1 hcount i (List.mem_range.2 hi)
      have : ¬ listed.getD i true = false := by simpa using this
      exact getD_yes this (by omega)
    refine ⟨?_, fin j listed A w hg all⟩
    rw [List.eq_nil_iff_forall_not_mem]
    intro i hi
    obtain ⟨hu, o, ho, _⟩ := mem_ready.1 hi
    have hio : i < ops.size := (Array.getElem?_eq_some_iff.1 ho).1
    have h1 := all i hio
    rw [getD_flip2 hu h1] at h1
    cases h1
  | succ f ih =>
    intro j listed A w hls hcl hg hcount
    have least : ∀ i, i < ops.size → listed.getD i true = false → ∃ k, k ∈ Region.ready .any ops listed := by
      intro i
      induction i using Nat.strongRecOn with
      | _ i ihi =>
        intro hi hu
        obtain ⟨o, hoi⟩ : ∃ o, ops[i]? = some o := ⟨_, Array.getElem?_eq_getElem hi⟩
        by_cases hall : ∀ e ∈ o.after, Region.binds .any e = true → listed.getD e.on false = true
        · exact ⟨i, mem_ready.2 ⟨hu, o, hoi, hall⟩⟩
        · simp only [Classical.not_forall] at hall
          obtain ⟨e, he, hb, hl⟩ := hall
          have hlt := hB.back i o hoi e he hb
          exact ihi e.on hlt (by omega) (getD_flip (by simpa using hl) (by omega))
    refine ⟨fun h0 => ?_, fun i hi => ?_⟩
    · exfalso
      have : (List.range ops.size).countP (fun j => !listed.getD j true) = 0 := by
        rw [List.countP_eq_zero]
        intro k hk
        intro hk2
        obtain ⟨k', hk'⟩ := least k (List.mem_range.1 hk) (by simpa using hk2)
        rw [h0] at hk'
        cases hk'
      omega
    obtain ⟨hui, o, hoi, hall⟩ := mem_ready.1 hi
    have hin : i < ops.size := (Array.getElem?_eq_some_iff.1 hoi).1
    have huf : listed.getD i false = false := getD_flop hui (by omega)
    have hhas : ∀ k d, (o.after.any fun e => e.on == k && Region.binds .any e) = true → slotAt ds k = some d → pick vl k (A.eval (.tmp d)) w := fun k d hk hs => by
      obtain ⟨e, he, h2⟩ := Array.any_eq_true'.1 hk
      simp only [Bool.and_eq_true, beq_iff_eq] at h2
      obtain ⟨rfl, hb⟩ := h2
      have := hB.back i o hoi e he hb
      exact hg.has e.on d (by omega) (hall e he hb) hs
    have hdone : ∀ k, (listed.setIfInBounds i true).getD k false = (listed.getD k false || k == i) := fun k => by
      by_cases e : k = i
      · subst e
        rw [Array.getD_eq_getD_getElem?, Array.getElem?_setIfInBounds_self_of_lt (by omega)]; simp
      · rw [getD_set_ne false (Ne.symm e)]; simp [e]
    have hcnt : (List.range ops.size).countP (fun k => !(listed.setIfInBounds i true).getD k true) = f := by
      have hc2 := count_less (p := fun j => !listed.getD j true) (q := fun j => !(listed.setIfInBounds i true).getD j true) (i := i) (by simp only [hui]; rfl) (by
        rw [Array.getD_eq_getD_getElem?, Array.getElem?_setIfInBounds_self_of_lt (by omega)]; rfl) (fun j hj => by rw [getD_set_ne true (Ne.symm hj)]) (List.range ops.size) List.nodup_range (List.mem_range.2 hin)
      omega
    have hcl' : ∀ k o', ops[k]? = some o' → (listed.setIfInBounds i true).getD k false = true → ∀ e ∈ o'.after, Region.binds .any e = true → (listed.setIfInBounds i true).getD e.on false = true := fun k o' hk hl e he hb => by
      rw [hdone] at hl ⊢
      by_cases ek : k = i
      · subst ek
        obtain rfl := Option.some.inj (hoi.symm.trans hk)
        rw [hall e he hb]; rfl
      · rw [show (k == i) = false by simpa using ek, Bool.or_false] at hl
        rw [hcl k o' hk hl e he hb]; rfl
    have go : ∀ (j' : Nat) v w', pick vl i v w' → Keeps X w w' → M j' ((A.put o.dst v).eval (.tmp pp)) w' → (∀ m, m < ws.length → ((listed.getD (ws.getD m 0) false || ws.getD m 0 == i) = true ↔ m < j')) → j' ≤ ws.length →
        wpAny P .any ops Q f (listed.setIfInBounds i true) (A.put o.dst v) w' := fun j' v w' hv hk hm hst hj => by
      rw [hB.slot i o hoi]
      refine ih j' _ _ _ (by simpa using hls) hcl' ?_ hcnt
      rw [show (fun k => (listed.setIfInBounds i true).getD k false) = fun k => listed.getD k false || k == i from funext hdone]
      exact hg.next mono hB.apart hsz hin hk hv (by rw [← hB.slot i o hoi]; exact hm) hst hj
    have conv : ∀ v, (A.put o.dst v).eval (.tmp pp) = after1 pp o A v := fun v => by
      unfold after1
      by_cases h : o.dst = some pp
      · rw [if_pos h, h, eval_put_same _ _ _ (by rw [hg.size]; exact hsz i pp hin (by rw [← hB.slot i o hoi]; exact h))]
      · rw [if_neg h, eval_putO _ _ _ _ h, eval_form]
    unfold wpOp
    simp only [hoi]
    by_cases hw : ws.contains i = true
    · obtain ⟨m, hm, hmi, hmi'⟩ := mem_getD hw
      have hmj : m = j := by
        rcases Nat.lt_trichotomy m j with h | h | h
        · have := (hg.stage m hm).2 h
          rw [hmi] at this; rw [huf] at this; cases this
        · exact h
        · exfalso
          obtain ⟨o2, ho2, e, he, e1, hb⟩ := waits_out (hB.chain m hm (by omega))
          rw [hmi] at ho2
          obtain rfl := Option.some.inj (hoi.symm.trans ho2)
          have h1 := hall e he hb
          rw [e1] at h1
          -- writer m-1 is listed, so m-1 < j: m ≤ j
          have := (hg.stage (m - 1) (by omega)).1 h1
          omega
      subst hmj
      have hst : ∀ m', m' < ws.length → ((listed.getD (ws.getD m' 0) false || ws.getD m' 0 == i) = true ↔ m' < m + 1) := fun m' hm' => by
        by_cases e : m' = m
        · subst e; rw [hmi]; simp
        · have hne : ws.getD m' 0 ≠ i := by rw [← hmi]; exact hB.once m m' hm hm' e
          rw [show (ws.getD m' 0 == i) = false by simpa using hne, Bool.or_false]
          have := hg.stage m' hm'
          rw [this]; omega
      rcases stepW m i o hmi' hoi A w hg.low hg.mem hg.other hhas with ⟨hwt, hy⟩ | ⟨hwt, hv, hm2⟩
      · rw [if_pos hwt]
        exact .inl (wp_of_yieldsW hy fun v w' ⟨hv, hk, hm2⟩ => go (m + 1) v w' hv hk (by rw [conv]; exact hm2) hst hm)
      · rw [if_neg (by rw [hwt]; exact Bool.false_ne_true)]
        exact go (m + 1) undef w hv (Keeps.refl _ _) (by rw [conv]; exact hm2) hst hm
    · have hw' : ws.contains i = false := by simpa using hw
      have hst : ∀ m, m < ws.length → ((listed.getD (ws.getD m 0) false || ws.getD m 0 == i) = true ↔ m < j) := fun m hm => by
        have hne : ws.getD m 0 ≠ i := fun e => by
          have : i ∈ ws := by rw [← e, List.getD_eq_getElem?_getD, List.getElem?_eq_getElem hm]; exact List.getElem_mem hm
          rw [List.contains_iff_mem.2 this] at hw'; cases hw'
        rw [show (ws.getD m 0 == i) = false by simpa using hne, Bool.or_false]
        exact hg.stage m hm
      have hpn : ∀ {v : Value}, (A.put o.dst v).eval (.tmp pp) = A.eval (.tmp pp) := fun {v} => eval_putO _ _ _ _ (by rw [hB.slot i o hoi]; exact hpp i hin hw')
      have hlim : j ≤ lims.getD i 0 := by
        rcases hB.lim i hin hw' with h | h
        · have := hg.most; omega
        · rcases Nat.lt_or_ge (lims.getD i 0) j with hj | hj
          · exfalso
            have hjl : lims.getD i 0 < ws.length := by have := hg.most; omega
            have h1 := (hg.stage _ hjl).2 hj
            obtain ⟨o2, ho2, e, he, e1, hb⟩ := waits_out h
            have := hcl _ o2 ho2 h1 e he hb
            rw [e1, huf] at this; cases this
          · exact hj
      rcases step i o hin hoi hw' j A w hlim hg.low hg.mem hg.other hhas with ⟨hwt, hy⟩ | ⟨hwt, hv⟩
      · rw [if_pos hwt]
        exact .inl (wp_of_yields hy fun v w' ⟨hv, hb⟩ => go j v w' hv (Keeps.of_below hb) (by rw [hpn]; exact hM _ _ _ _ hg.mem hb) hst hg.most)
      · rw [if_neg (by rw [hwt]; exact Bool.false_ne_true)]
        exact go j undef w hv (Keeps.refl _ _) (by rw [hpn]; exact hg.mem) hst hg.most
end
/-- THE LAW of a region that draws its order. -/
theorem wp_flowP {P : Program} {Q : Exit → Act → World → Prop} {id : Nat} {l : List Oper} (ds : List (Option Nat)) (ws lims : List Nat) (vl : List (Value → World → Prop)) (M : Nat → Value → World → Prop) (pp : Nat) (X : Nat → Prop) {a0 : Act} {w : World}
    (hm : P.follows .mixedOrders = true) (hB : okM l.toArray ds ws lims = true) (hw : (ws.all fun k => decide (k < l.length)) = true) (hpb : ((List.range l.length).all fun i => ws.contains i || slotAt ds i != some pp) = true) (hsz : (ds.all fun d => match d with | some d => decide (d < a0.tmps.size) | none => true) = true)
    (mono : ∀ p ∈ vl, MonoX X p) (hM : ∀ j u W W', M j u W → Below W.heap.size W W' → M j u W') (h0 : M 0 (a0.tmps[pp]?.getD undef) w)
    (step : ∀ i o, i < l.length → l[i]? = some o → ws.contains i = false → ∀ (j : Nat) (A : Act) (W : World), j ≤ lims.getD i 0 → w.heap.size ≤ W.heap.size → M j (A.tmps[pp]?.getD undef) W →
      (∀ k, (ds.all fun d => d != some k) = true → A.tmps[k]?.getD undef = a0.tmps[k]?.getD undef) → (∀ k, (o.after.any fun e => e.on == k && Region.binds .any e) = true → (ds.getD k none).isSome = true → pick vl k (valM ds A.tmps k) W) →
      (Region.wanted o (yielded l.toArray A.tmps) = true ∧ Yields P (fun u W' => pick vl i u W' ∧ Below W.heap.size W W') ((execOp A.eval o).run P W)) ∨ (Region.wanted o (yielded l.toArray A.tmps) = false ∧ pick vl i undef W))
    (stepW : ∀ j i o, ws[j]? = some i → l[i]? = some o → ∀ (A : Act) (W : World), w.heap.size ≤ W.heap.size → M j (A.tmps[pp]?.getD undef) W →
      (∀ k, (ds.all fun d => d != some k) = true → A.tmps[k]?.getD undef = a0.tmps[k]?.getD undef) → (∀ k, (o.after.any fun e => e.on == k && Region.binds .any e) = true → (ds.getD k none).isSome = true → pick vl k (valM ds A.tmps k) W) →
      (Region.wanted o (yielded l.toArray A.tmps) = true ∧ YieldsW P (fun u W' => pick vl i u W' ∧ Keeps X W W' ∧ M (j + 1) (after1 pp o A u) W') ((execOp A.eval o).run P W)) ∨ (Region.wanted o (yielded l.toArray A.tmps) = false ∧ pick vl i undef W ∧ M (j + 1) (after1 pp o A undef) W))
    (tail : ∀ (xs : Nat → Value) (W : World), w.heap.size ≤ W.heap.size → M ws.length ((putM ds xs 0 a0).tmps[pp]?.getD undef) W → (∀ i, i < l.length → (ds.getD i none).isSome = true → pick vl i (xs i) W) → Q .normal (putM ds xs 0 a0) W) :
    (Code.region id l.toArray true).wp P Q a0 w := by
  have HB := okM_out hB
  have hws : ∀ m, m < ws.length → ws.getD m 0 < l.toArray.size := fun m h => by
    have hmem : ws.getD m 0 ∈ ws := by rw [List.getD_eq_getElem?_getD, List.getElem?_eq_getElem h]; exact List.getElem_mem h
    simpa using List.all_eq_true.1 hw _ hmem
  have hsl := slot_in (n := l.toArray.size) HB.len hsz
  refine wp_region_any hm ?_
  have has : ∀ {o : Oper} {A : Act} {W : World} {i : Nat}, (∀ k d, (o.after.any fun e => e.on == k && Region.binds .any e) = true → slotAt ds k = some d → pick vl k (A.eval (.tmp d)) W) →
      ∀ k, (o.after.any fun e => e.on == k && Region.binds .any e) = true → (ds.getD k none).isSome = true → pick vl k (valM ds A.tmps k) W := fun he k hk hs => by
    obtain ⟨d, hd⟩ := Option.isSome_iff_exists.1 hs
    rw [valM_some (d := d) hd, ← eval_form]
    exact he k d hk hd
  refine any_of_flowP (B := w.heap.size) (M := M) (vl := vl) (lims := lims) (X := X) (pp := pp) (fun i hi hc e => by
    have := List.all_eq_true.1 hpb i (List.mem_range.2 (by simpa using hi))
    rw [hc, e] at this
    simp at this) HB hws hsl mono hM (fun i o hi ho hc j A W hj hz hMj hk he => ?_) (fun j i o hi ho A W hz hMj hk he => ?_) (fun xs W hz hMj hV => ?_) _ 0 _ _ _ (by simp) (fun i o _ hl => by rw [getD_replicate_false] at hl; cases hl) ?_ ?_
  · exact step i o (by simpa using hi) (by simpa using ho) hc j A W hj hz (by rw [← eval_form]; exact hMj) (slots_of HB.len hk) (has (i := i) he)
  · simp only [eval_form] at hMj ⊢
    exact stepW j i o hi (by simpa using ho) A W hz hMj (slots_of HB.len hk) (has (i := i) he)
  · rw [eval_form] at hMj
    exact tail xs W hz hMj fun i hi hs => by
      obtain ⟨d, hd⟩ := Option.isSome_iff_exists.1 hs
      exact hV i d (by simpa using hi) hd
  · exact ⟨rfl, rfl, Nat.le_refl _, hM _ _ _ _ (by rw [eval_form]; exact h0) (Below.refl _ w).drew, fun _ _ => rfl, fun i d _ hl => (by rw [getD_replicate_false] at hl; cases hl), fun m _ => (by rw [getD_replicate_false]; simp), Nat.zero_le _⟩
  · have : ∀ j ∈ List.range l.toArray.size, (!(Array.replicate l.toArray.size false).getD j true) = true := fun j hj => by
      rw [getD_in (by have := List.mem_range.1 hj; simp at this ⊢; omega) (getD_replicate_false _ _)]; rfl
    rw [List.countP_eq_length.2 this, List.length_range]
end Go.Proofs.Ytanbkclomjbokaa.Flow
